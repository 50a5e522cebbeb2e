/-
  Keys: a list is parted (in the order in which it is).
-/
import Derived.Test.YtbmfijcckdkmdaaKy12a
import Derived.Deep.CutRange
import Derived.Test.YtbmfijcckdkmdaaWi2
import Derived.LoopTactic
import Derived.Deep.RegionHeld
import Derived.Deep.Cut
import Derived.WalkLawsBesides
namespace Go.Proofs.Ytbmfijcckdkmdaa.Ky
set_option maxRecDepth 100000
open Go.RowKit Go.Proofs.Ytbmfijcckdkmdaa.Wd Go.Proofs.Ytbmfijcckdkmdaa.Wi Go.Proofs.Ytbmfijcckdkmdaa.Lift



set_option maxHeartbeats 8000000 in
theorem parted_any (ks : List Kb) (A : Option Addr) (n c : Nat) (w : World) (hn : ks.length = n) (hn2 : 2 ≤ n) (hm : n ≤ 1000) (hM : Many Kb.cells 4 w w.heap.size A ks) (hK : KsOk ks) (s : PS) (hs : partP ks (max 1 (2 * n / 5)) (seedsS ks n).l (seedsS ks n).r n = s) :
    Calls Try.prog 34 #[.slice A n c] w fun e w' => ∃ v1 v2, e = .returned (.tuple #[v1, v2]) ∧ w'.ownsRow w.heap.size 3 1 v1 s.L.length (iv s.L) ∧ w'.ownsRow w.heap.size 3 1 v2 s.R.length (iv s.R) ∧ v1.ownBlock ≠ v2.ownBlock ∧ Below w.heap.size w w' := by
  obtain ⟨b, o, rfl, hblt, hc⟩ := hM (by omega)
  obtain ⟨i, hi⟩ : ∃ i, (seedsS ks n).l = i := ⟨_, rfl⟩
  obtain ⟨k, hk⟩ : ∃ k, (seedsS ks n).r = k := ⟨_, rfl⟩
  have HSD := Lib.hid (fun w' (hb : Below w.heap.size w w') => seeds_any ks (some ⟨b, o, none⟩) n c w' hn hn2 hm ((hM.below hb).more hb.size) hK)
  rw [hi, hk] at HSD hs
  have HN := Lib.hid hn
  have HC := Lib.hid hc
  have HK := Lib.hid hK
  obtain ⟨least, hle⟩ : ∃ m, m = max 1 (2 * n / 5) := ⟨_, rfl⟩
  rw [← hle] at hs
  have HS := Lib.hid hs
  have HLE := Lib.hid hle
  clear hM hn hc hK hi hk hs hle
  go_enter Try.func34, Try.ntmps34
  go_upto_region 1 with fail
  have RL_1 := Lib.hid (row_last w (w.heap.size) 38 [.slice (some ⟨b, o, none⟩) n c] (by simp))
  have B_1 := Lib.hid ((Below.refl w.heap.size w).alloc (Nat.le_refl _) (.cells #[.slice (some ⟨b, o, none⟩) n c] 38))
  generalize (w.alloc (.cells #[.slice (some ⟨b, o, none⟩) n c] 38)) = V1 at RL_1 B_1 ⊢
  have c2_0 := RL_1.out.cell 0
  simp only [List.getElem?_cons_zero] at c2_0
  go_wp2_with fail
  refine (HSD.out _ B_1.out).mono ?_
  rintro e w2 ⟨rfl, hik, hkn, hb⟩
  clear c2_0
  have RL_3 := Lib.hid (RL_1.out.below hb RL_1.out.lt)
  have B_3 := Lib.hid (B_1.out.trans (hb.mono B_1.out.size))
  clear hb RL_1 B_1
  obtain ⟨x, hx⟩ : ∃ x, ks[i]? = some x := ⟨_, List.getElem?_eq_getElem (by rw [HN.out]; omega)⟩
  obtain ⟨y, hy⟩ : ∃ x, ks[k]? = some x := ⟨_, List.getElem?_eq_getElem (by rw [HN.out]; omega)⟩
  have HX : Hid (∀ w', Below w.heap.size w w' → w'.cell? ⟨b, o + i * 4, none⟩ = some (.int .i64 x.x0) ∧ w'.cell? ⟨b, o + i * 4 + 1, none⟩ = some (.int .i64 x.x1) ∧ w'.cell? ⟨b, o + i * 4 + 2, none⟩ = some (.int .i64 x.y0) ∧ w'.cell? ⟨b, o + i * 4 + 3, none⟩ = some (.int .i64 x.y1)) := Lib.hid (fun w' hb => by
    have hc := fun j v hj => (hb.cell (p := ⟨b, o + i * 4 + j, none⟩) hblt).trans (HC.out i _ hx j v hj)
    exact ⟨hc 0 _ rfl, hc 1 _ rfl, hc 2 _ rfl, hc 3 _ rfl⟩)
  have HY : Hid (∀ w', Below w.heap.size w w' → w'.cell? ⟨b, o + k * 4, none⟩ = some (.int .i64 y.x0) ∧ w'.cell? ⟨b, o + k * 4 + 1, none⟩ = some (.int .i64 y.x1) ∧ w'.cell? ⟨b, o + k * 4 + 2, none⟩ = some (.int .i64 y.y0) ∧ w'.cell? ⟨b, o + k * 4 + 3, none⟩ = some (.int .i64 y.y1)) := Lib.hid (fun w' hb => by
    have hc := fun j v hj => (hb.cell (p := ⟨b, o + k * 4 + j, none⟩) hblt).trans (HC.out k _ hy j v hj)
    exact ⟨hc 0 _ rfl, hc 1 _ rfl, hc 2 _ rfl, hc 3 _ rfl⟩)
  have HX0 : Hid (ks.getD i .zero = x) := Lib.hid (by rw [List.getD_eq_getElem?_getD, hx]; rfl)
  have HY0 : Hid (ks.getD k .zero = y) := Lib.hid (by rw [List.getD_eq_getElem?_getD, hy]; rfl)
  have HXM := Lib.hid (List.mem_of_getElem? hx)
  have HYM := Lib.hid (List.mem_of_getElem? hy)
  clear hx hy
  have i1 : (i : Int) < (n : Int) := by omega
  have k1 : (k : Int) < (n : Int) := by omega
  go_upto_region 2 with fail
  go_cut [6, 7] from 17 to 30 (fun t6 t7 wx => PInit w w.heap.size (some ⟨b, o, none⟩) n c i k x y t6 t7 wx)
  case first =>
    refine wp_region_held_drew (S := fun w' => Row w' (w.heap.size) 38 [.slice (some ⟨b, o, none⟩) n c] ∧ Below w.heap.size w w') (by kernel_rfl) ⟨RL_3.out.drew, B_3.out.drew⟩ (fun hHeld => ?_)
    clear hHeld
    have RL_a4 := Lib.hid RL_3.out.drew
    have B_a4 := Lib.hid B_3.out.drew
    clear RL_3 B_3
    generalize w2.drew = Da4 at RL_a4 B_a4 ⊢
    refine wpAnyH_take (i := 0) (oi := ⟨some 17, _, _, _, _, _⟩) (v := ?vara4_1) rfl (by kernel_rfl) (by kernel_rfl) (by kernel_rfl) (fun _ _ _ h => h) (Or.inl ⟨by rfl, ?yara4_1⟩) ⟨RL_a4.out, B_a4.out⟩ ?rara4_1
    case yara4_1 =>
      rintro w' hSw
      go_simp
      try with_reducible rfl
    try simp only [Act.put, List.setIfInBounds_toArray, List.set_cons_zero, List.set_cons_succ]
    refine wpAnyH_take (i := 2) (oi := ⟨some 19, _, _, _, _, _⟩) (v := ?vara4_2) rfl (by kernel_rfl) (by kernel_rfl) (by kernel_rfl) (fun _ _ _ h => h) (Or.inl ⟨by rfl, ?yara4_2⟩) ⟨RL_a4.out, B_a4.out⟩ ?rara4_2
    case yara4_2 =>
      rintro w' hSw
      have k0 := (show Row w' _ _ _ from hSw.1).cell 0
      simp only [List.getElem?_cons_zero] at k0
      go_simp
      try with_reducible rfl
    try simp only [Act.put, List.setIfInBounds_toArray, List.set_cons_zero, List.set_cons_succ]
    refine wpAnyH_take (i := 3) (oi := ⟨some 20, _, _, _, _, _⟩) (v := ?vara4_3) rfl (by kernel_rfl) (by kernel_rfl) (by kernel_rfl) (fun _ _ _ h => h) (Or.inl ⟨by rfl, ?yara4_3⟩) ⟨RL_a4.out, B_a4.out⟩ ?rara4_3
    case yara4_3 =>
      rintro w' hSw
      go_simp
      try with_reducible rfl
    try simp only [Act.put, List.setIfInBounds_toArray, List.set_cons_zero, List.set_cons_succ]
    refine wpAnyH_take (i := 4) (oi := ⟨some 21, _, _, _, _, _⟩) (v := ?vara4_4) rfl (by kernel_rfl) (by kernel_rfl) (by kernel_rfl) (fun _ _ _ h => h) (Or.inl ⟨by rfl, ?yara4_4⟩) ⟨RL_a4.out, B_a4.out⟩ ?rara4_4
    case yara4_4 =>
      rintro w' hSw
      go_simp
      try with_reducible rfl
    try simp only [Act.put, List.setIfInBounds_toArray, List.set_cons_zero, List.set_cons_succ]
    refine wpAnyH_take (i := 5) (oi := ⟨some 22, _, _, _, _, _⟩) (v := ?vara4_5) rfl (by kernel_rfl) (by kernel_rfl) (by kernel_rfl) (fun _ _ _ h => h) (Or.inl ⟨by rfl, ?yara4_5⟩) ⟨RL_a4.out, B_a4.out⟩ ?rara4_5
    case yara4_5 =>
      rintro w' hSw
      obtain ⟨q0, q1, q2, q3⟩ := HX.out w' hSw.2
      go_simp
      try with_reducible rfl
    try simp only [Act.put, List.setIfInBounds_toArray, List.set_cons_zero, List.set_cons_succ]
    refine wpAnyH_take (i := 7) (oi := ⟨some 24, _, _, _, _, _⟩) (v := ?vara4_6) rfl (by kernel_rfl) (by kernel_rfl) (by kernel_rfl) (fun _ _ _ h => h) (Or.inl ⟨by rfl, ?yara4_6⟩) ⟨RL_a4.out, B_a4.out⟩ ?rara4_6
    case yara4_6 =>
      rintro w' hSw
      go_simp
      try with_reducible rfl
    try simp only [Act.put, List.setIfInBounds_toArray, List.set_cons_zero, List.set_cons_succ]
    refine wpAnyH_take (i := 9) (oi := ⟨some 26, _, _, _, _, _⟩) (v := ?vara4_7) rfl (by kernel_rfl) (by kernel_rfl) (by kernel_rfl) (fun _ _ _ h => h) (Or.inl ⟨by rfl, ?yara4_7⟩) ⟨RL_a4.out, B_a4.out⟩ ?rara4_7
    case yara4_7 =>
      rintro w' hSw
      have k0 := (show Row w' _ _ _ from hSw.1).cell 0
      simp only [List.getElem?_cons_zero] at k0
      go_simp
      try with_reducible rfl
    try simp only [Act.put, List.setIfInBounds_toArray, List.set_cons_zero, List.set_cons_succ]
    refine wpAnyH_take (i := 10) (oi := ⟨some 27, _, _, _, _, _⟩) (v := ?vara4_8) rfl (by kernel_rfl) (by kernel_rfl) (by kernel_rfl) (fun _ _ _ h => h) (Or.inl ⟨by rfl, ?yara4_8⟩) ⟨RL_a4.out, B_a4.out⟩ ?rara4_8
    case yara4_8 =>
      rintro w' hSw
      go_simp
      try with_reducible rfl
    try simp only [Act.put, List.setIfInBounds_toArray, List.set_cons_zero, List.set_cons_succ]
    refine wpAnyH_take (i := 11) (oi := ⟨some 28, _, _, _, _, _⟩) (v := ?vara4_9) rfl (by kernel_rfl) (by kernel_rfl) (by kernel_rfl) (fun _ _ _ h => h) (Or.inl ⟨by rfl, ?yara4_9⟩) ⟨RL_a4.out, B_a4.out⟩ ?rara4_9
    case yara4_9 =>
      rintro w' hSw
      go_simp
      try with_reducible rfl
    try simp only [Act.put, List.setIfInBounds_toArray, List.set_cons_zero, List.set_cons_succ]
    refine wpAnyH_take (i := 12) (oi := ⟨some 29, _, _, _, _, _⟩) (v := ?vara4_10) rfl (by kernel_rfl) (by kernel_rfl) (by kernel_rfl) (fun _ _ _ h => h) (Or.inl ⟨by rfl, ?yara4_10⟩) ⟨RL_a4.out, B_a4.out⟩ ?rara4_10
    case yara4_10 =>
      rintro w' hSw
      obtain ⟨q0, q1, q2, q3⟩ := HY.out w' hSw.2
      go_simp
      try with_reducible rfl
    try simp only [Act.put, List.setIfInBounds_toArray, List.set_cons_zero, List.set_cons_succ]
    refine wpAnyH_ready (rs := [1, 8, 14, 15]) (by kernel_rfl) (by simp) ?_
    refine (AllReadyH.cons rfl (fun K hK => ?_) (AllReadyH.cons rfl (fun K hK => ?_) (AllReadyH.cons rfl (fun K hK => ?_) (AllReadyH.cons rfl (fun K hK => ?_) AllReadyH.nil))))
    · try rw [if_pos (by rfl)]
      go_simp
      have hltara4_11_1_0 : w.heap.size < Da4.heap.size := RL_a4.out.lt
      have RL_ara4_11_1 := Lib.hid (RL_a4.out.alloc (zI i))
      have P1_ara4_11_1 := Lib.hid (row_last Da4 (Da4.heap.size) 3 [.int .i64 (i : Int)] (by simp))
      have B_ara4_11_1 := Lib.hid (B_a4.out.alloc B_a4.out.size (zI i))
      clear RL_a4 B_a4
      generalize (Da4.alloc (zI i)) = Vara4_11_1 at RL_ara4_11_1 P1_ara4_11_1 B_ara4_11_1 ⊢
      refine hK _ _ ⟨RL_ara4_11_1.out, B_ara4_11_1.out⟩ (fun _ => ?_)
      clear hK K
      try simp only [Act.put, List.setIfInBounds_toArray, List.set_cons_zero, List.set_cons_succ]
      refine wpAnyH_take (i := 6) (oi := ⟨some 23, _, _, _, _, _⟩) (v := ?vara4_12) rfl (by kernel_rfl) (by kernel_rfl) (by kernel_rfl) (fun _ _ _ h => h) (Or.inl ⟨by rfl, ?yara4_12⟩) ⟨RL_ara4_11_1.out, B_ara4_11_1.out⟩ ?rara4_12
      case yara4_12 =>
        rintro w' hSw
        go_simp
        try with_reducible rfl
      try simp only [Act.put, List.setIfInBounds_toArray, List.set_cons_zero, List.set_cons_succ]
      refine wpAnyH_ready (rs := [8, 14, 15]) (by kernel_rfl) (by simp) ?_
      refine (AllReadyH.cons rfl (fun K hK => ?_) (AllReadyH.cons rfl (fun K hK => ?_) (AllReadyH.cons rfl (fun K hK => ?_) AllReadyH.nil)))
      · try rw [if_pos (by rfl)]
        go_simp
        have hltara4_13_1_0 : w.heap.size < Vara4_11_1.heap.size := RL_ara4_11_1.out.lt
        have hltara4_13_1_1 : Da4.heap.size < Vara4_11_1.heap.size := P1_ara4_11_1.out.lt
        have RL_ara4_13_1 := Lib.hid (RL_ara4_11_1.out.alloc (zI k))
        have P1_ara4_13_1 := Lib.hid (P1_ara4_11_1.out.alloc (zI k))
        have P2_ara4_13_1 := Lib.hid (row_last Vara4_11_1 (Vara4_11_1.heap.size) 3 [.int .i64 (k : Int)] (by simp))
        have B_ara4_13_1 := Lib.hid (B_ara4_11_1.out.alloc B_ara4_11_1.out.size (zI k))
        clear RL_ara4_11_1 P1_ara4_11_1 B_ara4_11_1
        generalize (Vara4_11_1.alloc (zI k)) = Vara4_13_1 at RL_ara4_13_1 P1_ara4_13_1 P2_ara4_13_1 B_ara4_13_1 ⊢
        refine hK _ _ ⟨RL_ara4_13_1.out, B_ara4_13_1.out⟩ (fun _ => ?_)
        clear hK K
        try simp only [Act.put, List.setIfInBounds_toArray, List.set_cons_zero, List.set_cons_succ]
        refine wpAnyH_take (i := 13) (oi := ⟨some 30, _, _, _, _, _⟩) (v := ?vara4_14) rfl (by kernel_rfl) (by kernel_rfl) (by kernel_rfl) (fun _ _ _ h => h) (Or.inl ⟨by rfl, ?yara4_14⟩) ⟨RL_ara4_13_1.out, B_ara4_13_1.out⟩ ?rara4_14
        case yara4_14 =>
          rintro w' hSw
          go_simp
          try with_reducible rfl
        try simp only [Act.put, List.setIfInBounds_toArray, List.set_cons_zero, List.set_cons_succ]
        refine wpAnyH_ready (rs := [14, 15]) (by kernel_rfl) (by simp) ?_
        refine (AllReadyH.cons rfl (fun K hK => ?_) (AllReadyH.cons rfl (fun K hK => ?_) AllReadyH.nil))
        · try rw [if_pos (by rfl)]
          go_simp
          have hltara4_15_1_0 : w.heap.size < Vara4_13_1.heap.size := RL_ara4_13_1.out.lt
          have hltara4_15_1_1 : Da4.heap.size < Vara4_13_1.heap.size := P1_ara4_13_1.out.lt
          have hltara4_15_1_2 : Vara4_11_1.heap.size < Vara4_13_1.heap.size := P2_ara4_13_1.out.lt
          have RL_ara4_15_1 := Lib.hid (RL_ara4_13_1.out.alloc zS)
          have P1_ara4_15_1 := Lib.hid (P1_ara4_13_1.out.alloc zS)
          have P2_ara4_15_1 := Lib.hid (P2_ara4_13_1.out.alloc zS)
          have S1_ara4_15_1 := Lib.hid (row_last Vara4_13_1 (Vara4_13_1.heap.size) 66 [.slice none 0 0, .int .i64 0, .int .i64 0, .int .i64 0, .int .i64 0] (by simp))
          have B_ara4_15_1 := Lib.hid (B_ara4_13_1.out.alloc B_ara4_13_1.out.size zS)
          clear RL_ara4_13_1 P1_ara4_13_1 P2_ara4_13_1 B_ara4_13_1
          generalize (Vara4_13_1.alloc zS) = Vara4_15_1 at RL_ara4_15_1 P1_ara4_15_1 P2_ara4_15_1 S1_ara4_15_1 B_ara4_15_1 ⊢
          refine hK _ _ ⟨RL_ara4_15_1.out, B_ara4_15_1.out⟩ (fun _ => ?_)
          clear hK K
          try simp only [Act.put, List.setIfInBounds_toArray, List.set_cons_zero, List.set_cons_succ]
          refine wpAnyH_ready (rs := [15]) (by kernel_rfl) (by simp) ?_
          refine (AllReadyH.cons rfl (fun K hK => ?_) AllReadyH.nil)
          try rw [if_pos (by rfl)]
          go_simp
          have hltara4_16_1_0 : w.heap.size < Vara4_15_1.heap.size := RL_ara4_15_1.out.lt
          have hltara4_16_1_1 : Da4.heap.size < Vara4_15_1.heap.size := P1_ara4_15_1.out.lt
          have hltara4_16_1_2 : Vara4_11_1.heap.size < Vara4_15_1.heap.size := P2_ara4_15_1.out.lt
          have hltara4_16_1_3 : Vara4_13_1.heap.size < Vara4_15_1.heap.size := S1_ara4_15_1.out.lt
          have RL_ara4_16_1 := Lib.hid (RL_ara4_15_1.out.alloc zS)
          have P1_ara4_16_1 := Lib.hid (P1_ara4_15_1.out.alloc zS)
          have P2_ara4_16_1 := Lib.hid (P2_ara4_15_1.out.alloc zS)
          have S1_ara4_16_1 := Lib.hid (S1_ara4_15_1.out.alloc zS)
          have S2_ara4_16_1 := Lib.hid (row_last Vara4_15_1 (Vara4_15_1.heap.size) 66 [.slice none 0 0, .int .i64 0, .int .i64 0, .int .i64 0, .int .i64 0] (by simp))
          have B_ara4_16_1 := Lib.hid (B_ara4_15_1.out.alloc B_ara4_15_1.out.size zS)
          clear RL_ara4_15_1 P1_ara4_15_1 P2_ara4_15_1 S1_ara4_15_1 B_ara4_15_1
          generalize (Vara4_15_1.alloc zS) = Vara4_16_1 at RL_ara4_16_1 P1_ara4_16_1 P2_ara4_16_1 S1_ara4_16_1 S2_ara4_16_1 B_ara4_16_1 ⊢
          refine hK _ _ ⟨RL_ara4_16_1.out, B_ara4_16_1.out⟩ (fun _ => ?_)
          clear hK K
          try simp only [Act.put, List.setIfInBounds_toArray, List.set_cons_zero, List.set_cons_succ]
          refine wpAnyH_ready (rs := [16]) (by kernel_rfl) (by simp) ?_
          refine (AllReadyH.cons rfl (fun K hK => ?_) AllReadyH.nil)
          obtain ⟨k0, k1, k2, k3, k4, f0, f1, f2, f3, f4⟩ := row5 S1_ara4_16_1.out
          rw [if_pos (by rfl)]
          go_simp
          clear f0 k0 f1 k1 f2 k2 f3 k3 f4 k4
          change K _ (st5 Vara4_16_1 (Vara4_13_1.heap.size) (.slice (some ⟨Da4.heap.size, 0, none⟩) 1 1) (.int .i64 x.x0) (.int .i64 x.x1) (.int .i64 x.y0) (.int .i64 x.y1))
          have RL_sara4_17 := Lib.hid (st5_far (g := Vara4_13_1.heap.size) RL_ara4_16_1.out (by omega) (.slice (some ⟨Da4.heap.size, 0, none⟩) 1 1) (.int .i64 x.x0) (.int .i64 x.x1) (.int .i64 x.y0) (.int .i64 x.y1))
          have P1_sara4_17 := Lib.hid (st5_far (g := Vara4_13_1.heap.size) P1_ara4_16_1.out (by omega) (.slice (some ⟨Da4.heap.size, 0, none⟩) 1 1) (.int .i64 x.x0) (.int .i64 x.x1) (.int .i64 x.y0) (.int .i64 x.y1))
          have P2_sara4_17 := Lib.hid (st5_far (g := Vara4_13_1.heap.size) P2_ara4_16_1.out (by omega) (.slice (some ⟨Da4.heap.size, 0, none⟩) 1 1) (.int .i64 x.x0) (.int .i64 x.x1) (.int .i64 x.y0) (.int .i64 x.y1))
          have S1_sara4_17 := Lib.hid (st5_row S1_ara4_16_1.out (.slice (some ⟨Da4.heap.size, 0, none⟩) 1 1) (.int .i64 x.x0) (.int .i64 x.x1) (.int .i64 x.y0) (.int .i64 x.y1))
          have S2_sara4_17 := Lib.hid (st5_far (g := Vara4_13_1.heap.size) S2_ara4_16_1.out (by omega) (.slice (some ⟨Da4.heap.size, 0, none⟩) 1 1) (.int .i64 x.x0) (.int .i64 x.x1) (.int .i64 x.y0) (.int .i64 x.y1))
          have B_sara4_17 := Lib.hid (st5_below (g := Vara4_13_1.heap.size) B_ara4_16_1.out (by omega) (.slice (some ⟨Da4.heap.size, 0, none⟩) 1 1) (.int .i64 x.x0) (.int .i64 x.x1) (.int .i64 x.y0) (.int .i64 x.y1))
          clear RL_ara4_16_1 P1_ara4_16_1 P2_ara4_16_1 S1_ara4_16_1 S2_ara4_16_1 B_ara4_16_1
          generalize st5 Vara4_16_1 (Vara4_13_1.heap.size) (.slice (some ⟨Da4.heap.size, 0, none⟩) 1 1) (.int .i64 x.x0) (.int .i64 x.x1) (.int .i64 x.y0) (.int .i64 x.y1) = Xara4_17 at RL_sara4_17 P1_sara4_17 P2_sara4_17 S1_sara4_17 S2_sara4_17 B_sara4_17 ⊢
          refine hK _ _ ⟨RL_sara4_17.out, B_sara4_17.out⟩ (fun _ => ?_)
          clear hK K
          try simp only [Act.put, List.setIfInBounds_toArray, List.set_cons_zero, List.set_cons_succ]
          refine wpAnyH_ready (rs := [17]) (by kernel_rfl) (by simp) ?_
          refine (AllReadyH.cons rfl (fun K hK => ?_) AllReadyH.nil)
          obtain ⟨k0, k1, k2, k3, k4, f0, f1, f2, f3, f4⟩ := row5 S2_sara4_17.out
          rw [if_pos (by rfl)]
          go_simp
          clear f0 k0 f1 k1 f2 k2 f3 k3 f4 k4
          change K _ (st5 Xara4_17 (Vara4_15_1.heap.size) (.slice (some ⟨Vara4_11_1.heap.size, 0, none⟩) 1 1) (.int .i64 y.x0) (.int .i64 y.x1) (.int .i64 y.y0) (.int .i64 y.y1))
          have RL_sara4_18 := Lib.hid (st5_far (g := Vara4_15_1.heap.size) RL_sara4_17.out (by omega) (.slice (some ⟨Vara4_11_1.heap.size, 0, none⟩) 1 1) (.int .i64 y.x0) (.int .i64 y.x1) (.int .i64 y.y0) (.int .i64 y.y1))
          have P1_sara4_18 := Lib.hid (st5_far (g := Vara4_15_1.heap.size) P1_sara4_17.out (by omega) (.slice (some ⟨Vara4_11_1.heap.size, 0, none⟩) 1 1) (.int .i64 y.x0) (.int .i64 y.x1) (.int .i64 y.y0) (.int .i64 y.y1))
          have P2_sara4_18 := Lib.hid (st5_far (g := Vara4_15_1.heap.size) P2_sara4_17.out (by omega) (.slice (some ⟨Vara4_11_1.heap.size, 0, none⟩) 1 1) (.int .i64 y.x0) (.int .i64 y.x1) (.int .i64 y.y0) (.int .i64 y.y1))
          have S1_sara4_18 := Lib.hid (st5_far (g := Vara4_15_1.heap.size) S1_sara4_17.out (by omega) (.slice (some ⟨Vara4_11_1.heap.size, 0, none⟩) 1 1) (.int .i64 y.x0) (.int .i64 y.x1) (.int .i64 y.y0) (.int .i64 y.y1))
          have S2_sara4_18 := Lib.hid (st5_row S2_sara4_17.out (.slice (some ⟨Vara4_11_1.heap.size, 0, none⟩) 1 1) (.int .i64 y.x0) (.int .i64 y.x1) (.int .i64 y.y0) (.int .i64 y.y1))
          have B_sara4_18 := Lib.hid (st5_below (g := Vara4_15_1.heap.size) B_sara4_17.out (by omega) (.slice (some ⟨Vara4_11_1.heap.size, 0, none⟩) 1 1) (.int .i64 y.x0) (.int .i64 y.x1) (.int .i64 y.y0) (.int .i64 y.y1))
          clear RL_sara4_17 P1_sara4_17 P2_sara4_17 S1_sara4_17 S2_sara4_17 B_sara4_17
          generalize st5 Xara4_17 (Vara4_15_1.heap.size) (.slice (some ⟨Vara4_11_1.heap.size, 0, none⟩) 1 1) (.int .i64 y.x0) (.int .i64 y.x1) (.int .i64 y.y0) (.int .i64 y.y1) = Xara4_18 at RL_sara4_18 P1_sara4_18 P2_sara4_18 S1_sara4_18 S2_sara4_18 B_sara4_18 ⊢
          refine hK _ _ ⟨RL_sara4_18.out, B_sara4_18.out⟩ (fun _ => ?_)
          clear hK K
          try simp only [Act.put, List.setIfInBounds_toArray, List.set_cons_zero, List.set_cons_succ]
          refine wpAnyH_done (by kernel_rfl) ?_ _
          go_wp2_with fail
          go_meet
          exact ⟨_, _, _, _, rfl, rfl, RL_sara4_18.out, S1_sara4_18.out, S2_sara4_18.out, P1_sara4_18.out, P2_sara4_18.out, by omega, by omega, by omega, by omega, by omega, by omega, B_sara4_18.out⟩
        · try rw [if_pos (by rfl)]
          go_simp
          have hltara4_19_1_0 : w.heap.size < Vara4_13_1.heap.size := RL_ara4_13_1.out.lt
          have hltara4_19_1_1 : Da4.heap.size < Vara4_13_1.heap.size := P1_ara4_13_1.out.lt
          have hltara4_19_1_2 : Vara4_11_1.heap.size < Vara4_13_1.heap.size := P2_ara4_13_1.out.lt
          have RL_ara4_19_1 := Lib.hid (RL_ara4_13_1.out.alloc zS)
          have P1_ara4_19_1 := Lib.hid (P1_ara4_13_1.out.alloc zS)
          have P2_ara4_19_1 := Lib.hid (P2_ara4_13_1.out.alloc zS)
          have S2_ara4_19_1 := Lib.hid (row_last Vara4_13_1 (Vara4_13_1.heap.size) 66 [.slice none 0 0, .int .i64 0, .int .i64 0, .int .i64 0, .int .i64 0] (by simp))
          have B_ara4_19_1 := Lib.hid (B_ara4_13_1.out.alloc B_ara4_13_1.out.size zS)
          clear RL_ara4_13_1 P1_ara4_13_1 P2_ara4_13_1 B_ara4_13_1
          generalize (Vara4_13_1.alloc zS) = Vara4_19_1 at RL_ara4_19_1 P1_ara4_19_1 P2_ara4_19_1 S2_ara4_19_1 B_ara4_19_1 ⊢
          refine hK _ _ ⟨RL_ara4_19_1.out, B_ara4_19_1.out⟩ (fun _ => ?_)
          clear hK K
          try simp only [Act.put, List.setIfInBounds_toArray, List.set_cons_zero, List.set_cons_succ]
          refine wpAnyH_ready (rs := [14]) (by kernel_rfl) (by simp) ?_
          refine (AllReadyH.cons rfl (fun K hK => ?_) AllReadyH.nil)
          try rw [if_pos (by rfl)]
          go_simp
          have hltara4_20_1_0 : w.heap.size < Vara4_19_1.heap.size := RL_ara4_19_1.out.lt
          have hltara4_20_1_1 : Da4.heap.size < Vara4_19_1.heap.size := P1_ara4_19_1.out.lt
          have hltara4_20_1_2 : Vara4_11_1.heap.size < Vara4_19_1.heap.size := P2_ara4_19_1.out.lt
          have hltara4_20_1_3 : Vara4_13_1.heap.size < Vara4_19_1.heap.size := S2_ara4_19_1.out.lt
          have RL_ara4_20_1 := Lib.hid (RL_ara4_19_1.out.alloc zS)
          have P1_ara4_20_1 := Lib.hid (P1_ara4_19_1.out.alloc zS)
          have P2_ara4_20_1 := Lib.hid (P2_ara4_19_1.out.alloc zS)
          have S2_ara4_20_1 := Lib.hid (S2_ara4_19_1.out.alloc zS)
          have S1_ara4_20_1 := Lib.hid (row_last Vara4_19_1 (Vara4_19_1.heap.size) 66 [.slice none 0 0, .int .i64 0, .int .i64 0, .int .i64 0, .int .i64 0] (by simp))
          have B_ara4_20_1 := Lib.hid (B_ara4_19_1.out.alloc B_ara4_19_1.out.size zS)
          clear RL_ara4_19_1 P1_ara4_19_1 P2_ara4_19_1 S2_ara4_19_1 B_ara4_19_1
          generalize (Vara4_19_1.alloc zS) = Vara4_20_1 at RL_ara4_20_1 P1_ara4_20_1 P2_ara4_20_1 S2_ara4_20_1 S1_ara4_20_1 B_ara4_20_1 ⊢
          refine hK _ _ ⟨RL_ara4_20_1.out, B_ara4_20_1.out⟩ (fun _ => ?_)
          clear hK K
          try simp only [Act.put, List.setIfInBounds_toArray, List.set_cons_zero, List.set_cons_succ]
          refine wpAnyH_ready (rs := [16]) (by kernel_rfl) (by simp) ?_
          refine (AllReadyH.cons rfl (fun K hK => ?_) AllReadyH.nil)
          obtain ⟨k0, k1, k2, k3, k4, f0, f1, f2, f3, f4⟩ := row5 S1_ara4_20_1.out
          rw [if_pos (by rfl)]
          go_simp
          clear f0 k0 f1 k1 f2 k2 f3 k3 f4 k4
          change K _ (st5 Vara4_20_1 (Vara4_19_1.heap.size) (.slice (some ⟨Da4.heap.size, 0, none⟩) 1 1) (.int .i64 x.x0) (.int .i64 x.x1) (.int .i64 x.y0) (.int .i64 x.y1))
          have RL_sara4_21 := Lib.hid (st5_far (g := Vara4_19_1.heap.size) RL_ara4_20_1.out (by omega) (.slice (some ⟨Da4.heap.size, 0, none⟩) 1 1) (.int .i64 x.x0) (.int .i64 x.x1) (.int .i64 x.y0) (.int .i64 x.y1))
          have P1_sara4_21 := Lib.hid (st5_far (g := Vara4_19_1.heap.size) P1_ara4_20_1.out (by omega) (.slice (some ⟨Da4.heap.size, 0, none⟩) 1 1) (.int .i64 x.x0) (.int .i64 x.x1) (.int .i64 x.y0) (.int .i64 x.y1))
          have P2_sara4_21 := Lib.hid (st5_far (g := Vara4_19_1.heap.size) P2_ara4_20_1.out (by omega) (.slice (some ⟨Da4.heap.size, 0, none⟩) 1 1) (.int .i64 x.x0) (.int .i64 x.x1) (.int .i64 x.y0) (.int .i64 x.y1))
          have S2_sara4_21 := Lib.hid (st5_far (g := Vara4_19_1.heap.size) S2_ara4_20_1.out (by omega) (.slice (some ⟨Da4.heap.size, 0, none⟩) 1 1) (.int .i64 x.x0) (.int .i64 x.x1) (.int .i64 x.y0) (.int .i64 x.y1))
          have S1_sara4_21 := Lib.hid (st5_row S1_ara4_20_1.out (.slice (some ⟨Da4.heap.size, 0, none⟩) 1 1) (.int .i64 x.x0) (.int .i64 x.x1) (.int .i64 x.y0) (.int .i64 x.y1))
          have B_sara4_21 := Lib.hid (st5_below (g := Vara4_19_1.heap.size) B_ara4_20_1.out (by omega) (.slice (some ⟨Da4.heap.size, 0, none⟩) 1 1) (.int .i64 x.x0) (.int .i64 x.x1) (.int .i64 x.y0) (.int .i64 x.y1))
          clear RL_ara4_20_1 P1_ara4_20_1 P2_ara4_20_1 S2_ara4_20_1 S1_ara4_20_1 B_ara4_20_1
          generalize st5 Vara4_20_1 (Vara4_19_1.heap.size) (.slice (some ⟨Da4.heap.size, 0, none⟩) 1 1) (.int .i64 x.x0) (.int .i64 x.x1) (.int .i64 x.y0) (.int .i64 x.y1) = Xara4_21 at RL_sara4_21 P1_sara4_21 P2_sara4_21 S2_sara4_21 S1_sara4_21 B_sara4_21 ⊢
          refine hK _ _ ⟨RL_sara4_21.out, B_sara4_21.out⟩ (fun _ => ?_)
          clear hK K
          try simp only [Act.put, List.setIfInBounds_toArray, List.set_cons_zero, List.set_cons_succ]
          refine wpAnyH_ready (rs := [17]) (by kernel_rfl) (by simp) ?_
          refine (AllReadyH.cons rfl (fun K hK => ?_) AllReadyH.nil)
          obtain ⟨k0, k1, k2, k3, k4, f0, f1, f2, f3, f4⟩ := row5 S2_sara4_21.out
          rw [if_pos (by rfl)]
          go_simp
          clear f0 k0 f1 k1 f2 k2 f3 k3 f4 k4
          change K _ (st5 Xara4_21 (Vara4_13_1.heap.size) (.slice (some ⟨Vara4_11_1.heap.size, 0, none⟩) 1 1) (.int .i64 y.x0) (.int .i64 y.x1) (.int .i64 y.y0) (.int .i64 y.y1))
          have RL_sara4_22 := Lib.hid (st5_far (g := Vara4_13_1.heap.size) RL_sara4_21.out (by omega) (.slice (some ⟨Vara4_11_1.heap.size, 0, none⟩) 1 1) (.int .i64 y.x0) (.int .i64 y.x1) (.int .i64 y.y0) (.int .i64 y.y1))
          have P1_sara4_22 := Lib.hid (st5_far (g := Vara4_13_1.heap.size) P1_sara4_21.out (by omega) (.slice (some ⟨Vara4_11_1.heap.size, 0, none⟩) 1 1) (.int .i64 y.x0) (.int .i64 y.x1) (.int .i64 y.y0) (.int .i64 y.y1))
          have P2_sara4_22 := Lib.hid (st5_far (g := Vara4_13_1.heap.size) P2_sara4_21.out (by omega) (.slice (some ⟨Vara4_11_1.heap.size, 0, none⟩) 1 1) (.int .i64 y.x0) (.int .i64 y.x1) (.int .i64 y.y0) (.int .i64 y.y1))
          have S2_sara4_22 := Lib.hid (st5_row S2_sara4_21.out (.slice (some ⟨Vara4_11_1.heap.size, 0, none⟩) 1 1) (.int .i64 y.x0) (.int .i64 y.x1) (.int .i64 y.y0) (.int .i64 y.y1))
          have S1_sara4_22 := Lib.hid (st5_far (g := Vara4_13_1.heap.size) S1_sara4_21.out (by omega) (.slice (some ⟨Vara4_11_1.heap.size, 0, none⟩) 1 1) (.int .i64 y.x0) (.int .i64 y.x1) (.int .i64 y.y0) (.int .i64 y.y1))
          have B_sara4_22 := Lib.hid (st5_below (g := Vara4_13_1.heap.size) B_sara4_21.out (by omega) (.slice (some ⟨Vara4_11_1.heap.size, 0, none⟩) 1 1) (.int .i64 y.x0) (.int .i64 y.x1) (.int .i64 y.y0) (.int .i64 y.y1))
          clear RL_sara4_21 P1_sara4_21 P2_sara4_21 S2_sara4_21 S1_sara4_21 B_sara4_21
          generalize st5 Xara4_21 (Vara4_13_1.heap.size) (.slice (some ⟨Vara4_11_1.heap.size, 0, none⟩) 1 1) (.int .i64 y.x0) (.int .i64 y.x1) (.int .i64 y.y0) (.int .i64 y.y1) = Xara4_22 at RL_sara4_22 P1_sara4_22 P2_sara4_22 S2_sara4_22 S1_sara4_22 B_sara4_22 ⊢
          refine hK _ _ ⟨RL_sara4_22.out, B_sara4_22.out⟩ (fun _ => ?_)
          clear hK K
          try simp only [Act.put, List.setIfInBounds_toArray, List.set_cons_zero, List.set_cons_succ]
          refine wpAnyH_done (by kernel_rfl) ?_ _
          go_wp2_with fail
          go_meet
          exact ⟨_, _, _, _, rfl, rfl, RL_sara4_22.out, S1_sara4_22.out, S2_sara4_22.out, P1_sara4_22.out, P2_sara4_22.out, by omega, by omega, by omega, by omega, by omega, by omega, B_sara4_22.out⟩
      · try rw [if_pos (by rfl)]
        go_simp
        have hltara4_23_1_0 : w.heap.size < Vara4_11_1.heap.size := RL_ara4_11_1.out.lt
        have hltara4_23_1_1 : Da4.heap.size < Vara4_11_1.heap.size := P1_ara4_11_1.out.lt
        have RL_ara4_23_1 := Lib.hid (RL_ara4_11_1.out.alloc zS)
        have P1_ara4_23_1 := Lib.hid (P1_ara4_11_1.out.alloc zS)
        have S1_ara4_23_1 := Lib.hid (row_last Vara4_11_1 (Vara4_11_1.heap.size) 66 [.slice none 0 0, .int .i64 0, .int .i64 0, .int .i64 0, .int .i64 0] (by simp))
        have B_ara4_23_1 := Lib.hid (B_ara4_11_1.out.alloc B_ara4_11_1.out.size zS)
        clear RL_ara4_11_1 P1_ara4_11_1 B_ara4_11_1
        generalize (Vara4_11_1.alloc zS) = Vara4_23_1 at RL_ara4_23_1 P1_ara4_23_1 S1_ara4_23_1 B_ara4_23_1 ⊢
        refine hK _ _ ⟨RL_ara4_23_1.out, B_ara4_23_1.out⟩ (fun _ => ?_)
        clear hK K
        try simp only [Act.put, List.setIfInBounds_toArray, List.set_cons_zero, List.set_cons_succ]
        refine wpAnyH_ready (rs := [8, 15]) (by kernel_rfl) (by simp) ?_
        refine (AllReadyH.cons rfl (fun K hK => ?_) (AllReadyH.cons rfl (fun K hK => ?_) AllReadyH.nil))
        · try rw [if_pos (by rfl)]
          go_simp
          have hltara4_24_1_0 : w.heap.size < Vara4_23_1.heap.size := RL_ara4_23_1.out.lt
          have hltara4_24_1_1 : Da4.heap.size < Vara4_23_1.heap.size := P1_ara4_23_1.out.lt
          have hltara4_24_1_2 : Vara4_11_1.heap.size < Vara4_23_1.heap.size := S1_ara4_23_1.out.lt
          have RL_ara4_24_1 := Lib.hid (RL_ara4_23_1.out.alloc (zI k))
          have P1_ara4_24_1 := Lib.hid (P1_ara4_23_1.out.alloc (zI k))
          have S1_ara4_24_1 := Lib.hid (S1_ara4_23_1.out.alloc (zI k))
          have P2_ara4_24_1 := Lib.hid (row_last Vara4_23_1 (Vara4_23_1.heap.size) 3 [.int .i64 (k : Int)] (by simp))
          have B_ara4_24_1 := Lib.hid (B_ara4_23_1.out.alloc B_ara4_23_1.out.size (zI k))
          clear RL_ara4_23_1 P1_ara4_23_1 S1_ara4_23_1 B_ara4_23_1
          generalize (Vara4_23_1.alloc (zI k)) = Vara4_24_1 at RL_ara4_24_1 P1_ara4_24_1 S1_ara4_24_1 P2_ara4_24_1 B_ara4_24_1 ⊢
          refine hK _ _ ⟨RL_ara4_24_1.out, B_ara4_24_1.out⟩ (fun _ => ?_)
          clear hK K
          try simp only [Act.put, List.setIfInBounds_toArray, List.set_cons_zero, List.set_cons_succ]
          refine wpAnyH_take (i := 13) (oi := ⟨some 30, _, _, _, _, _⟩) (v := ?vara4_25) rfl (by kernel_rfl) (by kernel_rfl) (by kernel_rfl) (fun _ _ _ h => h) (Or.inl ⟨by rfl, ?yara4_25⟩) ⟨RL_ara4_24_1.out, B_ara4_24_1.out⟩ ?rara4_25
          case yara4_25 =>
            rintro w' hSw
            go_simp
            try with_reducible rfl
          try simp only [Act.put, List.setIfInBounds_toArray, List.set_cons_zero, List.set_cons_succ]
          refine wpAnyH_ready (rs := [15]) (by kernel_rfl) (by simp) ?_
          refine (AllReadyH.cons rfl (fun K hK => ?_) AllReadyH.nil)
          try rw [if_pos (by rfl)]
          go_simp
          have hltara4_26_1_0 : w.heap.size < Vara4_24_1.heap.size := RL_ara4_24_1.out.lt
          have hltara4_26_1_1 : Da4.heap.size < Vara4_24_1.heap.size := P1_ara4_24_1.out.lt
          have hltara4_26_1_2 : Vara4_11_1.heap.size < Vara4_24_1.heap.size := S1_ara4_24_1.out.lt
          have hltara4_26_1_3 : Vara4_23_1.heap.size < Vara4_24_1.heap.size := P2_ara4_24_1.out.lt
          have RL_ara4_26_1 := Lib.hid (RL_ara4_24_1.out.alloc zS)
          have P1_ara4_26_1 := Lib.hid (P1_ara4_24_1.out.alloc zS)
          have S1_ara4_26_1 := Lib.hid (S1_ara4_24_1.out.alloc zS)
          have P2_ara4_26_1 := Lib.hid (P2_ara4_24_1.out.alloc zS)
          have S2_ara4_26_1 := Lib.hid (row_last Vara4_24_1 (Vara4_24_1.heap.size) 66 [.slice none 0 0, .int .i64 0, .int .i64 0, .int .i64 0, .int .i64 0] (by simp))
          have B_ara4_26_1 := Lib.hid (B_ara4_24_1.out.alloc B_ara4_24_1.out.size zS)
          clear RL_ara4_24_1 P1_ara4_24_1 S1_ara4_24_1 P2_ara4_24_1 B_ara4_24_1
          generalize (Vara4_24_1.alloc zS) = Vara4_26_1 at RL_ara4_26_1 P1_ara4_26_1 S1_ara4_26_1 P2_ara4_26_1 S2_ara4_26_1 B_ara4_26_1 ⊢
          refine hK _ _ ⟨RL_ara4_26_1.out, B_ara4_26_1.out⟩ (fun _ => ?_)
          clear hK K
          try simp only [Act.put, List.setIfInBounds_toArray, List.set_cons_zero, List.set_cons_succ]
          refine wpAnyH_ready (rs := [16]) (by kernel_rfl) (by simp) ?_
          refine (AllReadyH.cons rfl (fun K hK => ?_) AllReadyH.nil)
          obtain ⟨k0, k1, k2, k3, k4, f0, f1, f2, f3, f4⟩ := row5 S1_ara4_26_1.out
          rw [if_pos (by rfl)]
          go_simp
          clear f0 k0 f1 k1 f2 k2 f3 k3 f4 k4
          change K _ (st5 Vara4_26_1 (Vara4_11_1.heap.size) (.slice (some ⟨Da4.heap.size, 0, none⟩) 1 1) (.int .i64 x.x0) (.int .i64 x.x1) (.int .i64 x.y0) (.int .i64 x.y1))
          have RL_sara4_27 := Lib.hid (st5_far (g := Vara4_11_1.heap.size) RL_ara4_26_1.out (by omega) (.slice (some ⟨Da4.heap.size, 0, none⟩) 1 1) (.int .i64 x.x0) (.int .i64 x.x1) (.int .i64 x.y0) (.int .i64 x.y1))
          have P1_sara4_27 := Lib.hid (st5_far (g := Vara4_11_1.heap.size) P1_ara4_26_1.out (by omega) (.slice (some ⟨Da4.heap.size, 0, none⟩) 1 1) (.int .i64 x.x0) (.int .i64 x.x1) (.int .i64 x.y0) (.int .i64 x.y1))
          have S1_sara4_27 := Lib.hid (st5_row S1_ara4_26_1.out (.slice (some ⟨Da4.heap.size, 0, none⟩) 1 1) (.int .i64 x.x0) (.int .i64 x.x1) (.int .i64 x.y0) (.int .i64 x.y1))
          have P2_sara4_27 := Lib.hid (st5_far (g := Vara4_11_1.heap.size) P2_ara4_26_1.out (by omega) (.slice (some ⟨Da4.heap.size, 0, none⟩) 1 1) (.int .i64 x.x0) (.int .i64 x.x1) (.int .i64 x.y0) (.int .i64 x.y1))
          have S2_sara4_27 := Lib.hid (st5_far (g := Vara4_11_1.heap.size) S2_ara4_26_1.out (by omega) (.slice (some ⟨Da4.heap.size, 0, none⟩) 1 1) (.int .i64 x.x0) (.int .i64 x.x1) (.int .i64 x.y0) (.int .i64 x.y1))
          have B_sara4_27 := Lib.hid (st5_below (g := Vara4_11_1.heap.size) B_ara4_26_1.out (by omega) (.slice (some ⟨Da4.heap.size, 0, none⟩) 1 1) (.int .i64 x.x0) (.int .i64 x.x1) (.int .i64 x.y0) (.int .i64 x.y1))
          clear RL_ara4_26_1 P1_ara4_26_1 S1_ara4_26_1 P2_ara4_26_1 S2_ara4_26_1 B_ara4_26_1
          generalize st5 Vara4_26_1 (Vara4_11_1.heap.size) (.slice (some ⟨Da4.heap.size, 0, none⟩) 1 1) (.int .i64 x.x0) (.int .i64 x.x1) (.int .i64 x.y0) (.int .i64 x.y1) = Xara4_27 at RL_sara4_27 P1_sara4_27 S1_sara4_27 P2_sara4_27 S2_sara4_27 B_sara4_27 ⊢
          refine hK _ _ ⟨RL_sara4_27.out, B_sara4_27.out⟩ (fun _ => ?_)
          clear hK K
          try simp only [Act.put, List.setIfInBounds_toArray, List.set_cons_zero, List.set_cons_succ]
          refine wpAnyH_ready (rs := [17]) (by kernel_rfl) (by simp) ?_
          refine (AllReadyH.cons rfl (fun K hK => ?_) AllReadyH.nil)
          obtain ⟨k0, k1, k2, k3, k4, f0, f1, f2, f3, f4⟩ := row5 S2_sara4_27.out
          rw [if_pos (by rfl)]
          go_simp
          clear f0 k0 f1 k1 f2 k2 f3 k3 f4 k4
          change K _ (st5 Xara4_27 (Vara4_24_1.heap.size) (.slice (some ⟨Vara4_23_1.heap.size, 0, none⟩) 1 1) (.int .i64 y.x0) (.int .i64 y.x1) (.int .i64 y.y0) (.int .i64 y.y1))
          have RL_sara4_28 := Lib.hid (st5_far (g := Vara4_24_1.heap.size) RL_sara4_27.out (by omega) (.slice (some ⟨Vara4_23_1.heap.size, 0, none⟩) 1 1) (.int .i64 y.x0) (.int .i64 y.x1) (.int .i64 y.y0) (.int .i64 y.y1))
          have P1_sara4_28 := Lib.hid (st5_far (g := Vara4_24_1.heap.size) P1_sara4_27.out (by omega) (.slice (some ⟨Vara4_23_1.heap.size, 0, none⟩) 1 1) (.int .i64 y.x0) (.int .i64 y.x1) (.int .i64 y.y0) (.int .i64 y.y1))
          have S1_sara4_28 := Lib.hid (st5_far (g := Vara4_24_1.heap.size) S1_sara4_27.out (by omega) (.slice (some ⟨Vara4_23_1.heap.size, 0, none⟩) 1 1) (.int .i64 y.x0) (.int .i64 y.x1) (.int .i64 y.y0) (.int .i64 y.y1))
          have P2_sara4_28 := Lib.hid (st5_far (g := Vara4_24_1.heap.size) P2_sara4_27.out (by omega) (.slice (some ⟨Vara4_23_1.heap.size, 0, none⟩) 1 1) (.int .i64 y.x0) (.int .i64 y.x1) (.int .i64 y.y0) (.int .i64 y.y1))
          have S2_sara4_28 := Lib.hid (st5_row S2_sara4_27.out (.slice (some ⟨Vara4_23_1.heap.size, 0, none⟩) 1 1) (.int .i64 y.x0) (.int .i64 y.x1) (.int .i64 y.y0) (.int .i64 y.y1))
          have B_sara4_28 := Lib.hid (st5_below (g := Vara4_24_1.heap.size) B_sara4_27.out (by omega) (.slice (some ⟨Vara4_23_1.heap.size, 0, none⟩) 1 1) (.int .i64 y.x0) (.int .i64 y.x1) (.int .i64 y.y0) (.int .i64 y.y1))
          clear RL_sara4_27 P1_sara4_27 S1_sara4_27 P2_sara4_27 S2_sara4_27 B_sara4_27
          generalize st5 Xara4_27 (Vara4_24_1.heap.size) (.slice (some ⟨Vara4_23_1.heap.size, 0, none⟩) 1 1) (.int .i64 y.x0) (.int .i64 y.x1) (.int .i64 y.y0) (.int .i64 y.y1) = Xara4_28 at RL_sara4_28 P1_sara4_28 S1_sara4_28 P2_sara4_28 S2_sara4_28 B_sara4_28 ⊢
          refine hK _ _ ⟨RL_sara4_28.out, B_sara4_28.out⟩ (fun _ => ?_)
          clear hK K
          try simp only [Act.put, List.setIfInBounds_toArray, List.set_cons_zero, List.set_cons_succ]
          refine wpAnyH_done (by kernel_rfl) ?_ _
          go_wp2_with fail
          go_meet
          exact ⟨_, _, _, _, rfl, rfl, RL_sara4_28.out, S1_sara4_28.out, S2_sara4_28.out, P1_sara4_28.out, P2_sara4_28.out, by omega, by omega, by omega, by omega, by omega, by omega, B_sara4_28.out⟩
        · try rw [if_pos (by rfl)]
          go_simp
          have hltara4_29_1_0 : w.heap.size < Vara4_23_1.heap.size := RL_ara4_23_1.out.lt
          have hltara4_29_1_1 : Da4.heap.size < Vara4_23_1.heap.size := P1_ara4_23_1.out.lt
          have hltara4_29_1_2 : Vara4_11_1.heap.size < Vara4_23_1.heap.size := S1_ara4_23_1.out.lt
          have RL_ara4_29_1 := Lib.hid (RL_ara4_23_1.out.alloc zS)
          have P1_ara4_29_1 := Lib.hid (P1_ara4_23_1.out.alloc zS)
          have S1_ara4_29_1 := Lib.hid (S1_ara4_23_1.out.alloc zS)
          have S2_ara4_29_1 := Lib.hid (row_last Vara4_23_1 (Vara4_23_1.heap.size) 66 [.slice none 0 0, .int .i64 0, .int .i64 0, .int .i64 0, .int .i64 0] (by simp))
          have B_ara4_29_1 := Lib.hid (B_ara4_23_1.out.alloc B_ara4_23_1.out.size zS)
          clear RL_ara4_23_1 P1_ara4_23_1 S1_ara4_23_1 B_ara4_23_1
          generalize (Vara4_23_1.alloc zS) = Vara4_29_1 at RL_ara4_29_1 P1_ara4_29_1 S1_ara4_29_1 S2_ara4_29_1 B_ara4_29_1 ⊢
          refine hK _ _ ⟨RL_ara4_29_1.out, B_ara4_29_1.out⟩ (fun _ => ?_)
          clear hK K
          try simp only [Act.put, List.setIfInBounds_toArray, List.set_cons_zero, List.set_cons_succ]
          refine wpAnyH_ready (rs := [8, 16]) (by kernel_rfl) (by simp) ?_
          refine (AllReadyH.cons rfl (fun K hK => ?_) (AllReadyH.cons rfl (fun K hK => ?_) AllReadyH.nil))
          · try rw [if_pos (by rfl)]
            go_simp
            have hltara4_30_1_0 : w.heap.size < Vara4_29_1.heap.size := RL_ara4_29_1.out.lt
            have hltara4_30_1_1 : Da4.heap.size < Vara4_29_1.heap.size := P1_ara4_29_1.out.lt
            have hltara4_30_1_2 : Vara4_11_1.heap.size < Vara4_29_1.heap.size := S1_ara4_29_1.out.lt
            have hltara4_30_1_3 : Vara4_23_1.heap.size < Vara4_29_1.heap.size := S2_ara4_29_1.out.lt
            have RL_ara4_30_1 := Lib.hid (RL_ara4_29_1.out.alloc (zI k))
            have P1_ara4_30_1 := Lib.hid (P1_ara4_29_1.out.alloc (zI k))
            have S1_ara4_30_1 := Lib.hid (S1_ara4_29_1.out.alloc (zI k))
            have S2_ara4_30_1 := Lib.hid (S2_ara4_29_1.out.alloc (zI k))
            have P2_ara4_30_1 := Lib.hid (row_last Vara4_29_1 (Vara4_29_1.heap.size) 3 [.int .i64 (k : Int)] (by simp))
            have B_ara4_30_1 := Lib.hid (B_ara4_29_1.out.alloc B_ara4_29_1.out.size (zI k))
            clear RL_ara4_29_1 P1_ara4_29_1 S1_ara4_29_1 S2_ara4_29_1 B_ara4_29_1
            generalize (Vara4_29_1.alloc (zI k)) = Vara4_30_1 at RL_ara4_30_1 P1_ara4_30_1 S1_ara4_30_1 S2_ara4_30_1 P2_ara4_30_1 B_ara4_30_1 ⊢
            refine hK _ _ ⟨RL_ara4_30_1.out, B_ara4_30_1.out⟩ (fun _ => ?_)
            clear hK K
            try simp only [Act.put, List.setIfInBounds_toArray, List.set_cons_zero, List.set_cons_succ]
            refine wpAnyH_take (i := 13) (oi := ⟨some 30, _, _, _, _, _⟩) (v := ?vara4_31) rfl (by kernel_rfl) (by kernel_rfl) (by kernel_rfl) (fun _ _ _ h => h) (Or.inl ⟨by rfl, ?yara4_31⟩) ⟨RL_ara4_30_1.out, B_ara4_30_1.out⟩ ?rara4_31
            case yara4_31 =>
              rintro w' hSw
              go_simp
              try with_reducible rfl
            try simp only [Act.put, List.setIfInBounds_toArray, List.set_cons_zero, List.set_cons_succ]
            refine wpAnyH_ready (rs := [16]) (by kernel_rfl) (by simp) ?_
            refine (AllReadyH.cons rfl (fun K hK => ?_) AllReadyH.nil)
            obtain ⟨k0, k1, k2, k3, k4, f0, f1, f2, f3, f4⟩ := row5 S1_ara4_30_1.out
            rw [if_pos (by rfl)]
            go_simp
            clear f0 k0 f1 k1 f2 k2 f3 k3 f4 k4
            change K _ (st5 Vara4_30_1 (Vara4_11_1.heap.size) (.slice (some ⟨Da4.heap.size, 0, none⟩) 1 1) (.int .i64 x.x0) (.int .i64 x.x1) (.int .i64 x.y0) (.int .i64 x.y1))
            have RL_sara4_32 := Lib.hid (st5_far (g := Vara4_11_1.heap.size) RL_ara4_30_1.out (by omega) (.slice (some ⟨Da4.heap.size, 0, none⟩) 1 1) (.int .i64 x.x0) (.int .i64 x.x1) (.int .i64 x.y0) (.int .i64 x.y1))
            have P1_sara4_32 := Lib.hid (st5_far (g := Vara4_11_1.heap.size) P1_ara4_30_1.out (by omega) (.slice (some ⟨Da4.heap.size, 0, none⟩) 1 1) (.int .i64 x.x0) (.int .i64 x.x1) (.int .i64 x.y0) (.int .i64 x.y1))
            have S1_sara4_32 := Lib.hid (st5_row S1_ara4_30_1.out (.slice (some ⟨Da4.heap.size, 0, none⟩) 1 1) (.int .i64 x.x0) (.int .i64 x.x1) (.int .i64 x.y0) (.int .i64 x.y1))
            have S2_sara4_32 := Lib.hid (st5_far (g := Vara4_11_1.heap.size) S2_ara4_30_1.out (by omega) (.slice (some ⟨Da4.heap.size, 0, none⟩) 1 1) (.int .i64 x.x0) (.int .i64 x.x1) (.int .i64 x.y0) (.int .i64 x.y1))
            have P2_sara4_32 := Lib.hid (st5_far (g := Vara4_11_1.heap.size) P2_ara4_30_1.out (by omega) (.slice (some ⟨Da4.heap.size, 0, none⟩) 1 1) (.int .i64 x.x0) (.int .i64 x.x1) (.int .i64 x.y0) (.int .i64 x.y1))
            have B_sara4_32 := Lib.hid (st5_below (g := Vara4_11_1.heap.size) B_ara4_30_1.out (by omega) (.slice (some ⟨Da4.heap.size, 0, none⟩) 1 1) (.int .i64 x.x0) (.int .i64 x.x1) (.int .i64 x.y0) (.int .i64 x.y1))
            clear RL_ara4_30_1 P1_ara4_30_1 S1_ara4_30_1 S2_ara4_30_1 P2_ara4_30_1 B_ara4_30_1
            generalize st5 Vara4_30_1 (Vara4_11_1.heap.size) (.slice (some ⟨Da4.heap.size, 0, none⟩) 1 1) (.int .i64 x.x0) (.int .i64 x.x1) (.int .i64 x.y0) (.int .i64 x.y1) = Xara4_32 at RL_sara4_32 P1_sara4_32 S1_sara4_32 S2_sara4_32 P2_sara4_32 B_sara4_32 ⊢
            refine hK _ _ ⟨RL_sara4_32.out, B_sara4_32.out⟩ (fun _ => ?_)
            clear hK K
            try simp only [Act.put, List.setIfInBounds_toArray, List.set_cons_zero, List.set_cons_succ]
            refine wpAnyH_ready (rs := [17]) (by kernel_rfl) (by simp) ?_
            refine (AllReadyH.cons rfl (fun K hK => ?_) AllReadyH.nil)
            obtain ⟨k0, k1, k2, k3, k4, f0, f1, f2, f3, f4⟩ := row5 S2_sara4_32.out
            rw [if_pos (by rfl)]
            go_simp
            clear f0 k0 f1 k1 f2 k2 f3 k3 f4 k4
            change K _ (st5 Xara4_32 (Vara4_23_1.heap.size) (.slice (some ⟨Vara4_29_1.heap.size, 0, none⟩) 1 1) (.int .i64 y.x0) (.int .i64 y.x1) (.int .i64 y.y0) (.int .i64 y.y1))
            have RL_sara4_33 := Lib.hid (st5_far (g := Vara4_23_1.heap.size) RL_sara4_32.out (by omega) (.slice (some ⟨Vara4_29_1.heap.size, 0, none⟩) 1 1) (.int .i64 y.x0) (.int .i64 y.x1) (.int .i64 y.y0) (.int .i64 y.y1))
            have P1_sara4_33 := Lib.hid (st5_far (g := Vara4_23_1.heap.size) P1_sara4_32.out (by omega) (.slice (some ⟨Vara4_29_1.heap.size, 0, none⟩) 1 1) (.int .i64 y.x0) (.int .i64 y.x1) (.int .i64 y.y0) (.int .i64 y.y1))
            have S1_sara4_33 := Lib.hid (st5_far (g := Vara4_23_1.heap.size) S1_sara4_32.out (by omega) (.slice (some ⟨Vara4_29_1.heap.size, 0, none⟩) 1 1) (.int .i64 y.x0) (.int .i64 y.x1) (.int .i64 y.y0) (.int .i64 y.y1))
            have S2_sara4_33 := Lib.hid (st5_row S2_sara4_32.out (.slice (some ⟨Vara4_29_1.heap.size, 0, none⟩) 1 1) (.int .i64 y.x0) (.int .i64 y.x1) (.int .i64 y.y0) (.int .i64 y.y1))
            have P2_sara4_33 := Lib.hid (st5_far (g := Vara4_23_1.heap.size) P2_sara4_32.out (by omega) (.slice (some ⟨Vara4_29_1.heap.size, 0, none⟩) 1 1) (.int .i64 y.x0) (.int .i64 y.x1) (.int .i64 y.y0) (.int .i64 y.y1))
            have B_sara4_33 := Lib.hid (st5_below (g := Vara4_23_1.heap.size) B_sara4_32.out (by omega) (.slice (some ⟨Vara4_29_1.heap.size, 0, none⟩) 1 1) (.int .i64 y.x0) (.int .i64 y.x1) (.int .i64 y.y0) (.int .i64 y.y1))
            clear RL_sara4_32 P1_sara4_32 S1_sara4_32 S2_sara4_32 P2_sara4_32 B_sara4_32
            generalize st5 Xara4_32 (Vara4_23_1.heap.size) (.slice (some ⟨Vara4_29_1.heap.size, 0, none⟩) 1 1) (.int .i64 y.x0) (.int .i64 y.x1) (.int .i64 y.y0) (.int .i64 y.y1) = Xara4_33 at RL_sara4_33 P1_sara4_33 S1_sara4_33 S2_sara4_33 P2_sara4_33 B_sara4_33 ⊢
            refine hK _ _ ⟨RL_sara4_33.out, B_sara4_33.out⟩ (fun _ => ?_)
            clear hK K
            try simp only [Act.put, List.setIfInBounds_toArray, List.set_cons_zero, List.set_cons_succ]
            refine wpAnyH_done (by kernel_rfl) ?_ _
            go_wp2_with fail
            go_meet
            exact ⟨_, _, _, _, rfl, rfl, RL_sara4_33.out, S1_sara4_33.out, S2_sara4_33.out, P1_sara4_33.out, P2_sara4_33.out, by omega, by omega, by omega, by omega, by omega, by omega, B_sara4_33.out⟩
          · obtain ⟨k0, k1, k2, k3, k4, f0, f1, f2, f3, f4⟩ := row5 S1_ara4_29_1.out
            rw [if_pos (by rfl)]
            go_simp
            clear f0 k0 f1 k1 f2 k2 f3 k3 f4 k4
            change K _ (st5 Vara4_29_1 (Vara4_11_1.heap.size) (.slice (some ⟨Da4.heap.size, 0, none⟩) 1 1) (.int .i64 x.x0) (.int .i64 x.x1) (.int .i64 x.y0) (.int .i64 x.y1))
            have RL_sara4_34 := Lib.hid (st5_far (g := Vara4_11_1.heap.size) RL_ara4_29_1.out (by omega) (.slice (some ⟨Da4.heap.size, 0, none⟩) 1 1) (.int .i64 x.x0) (.int .i64 x.x1) (.int .i64 x.y0) (.int .i64 x.y1))
            have P1_sara4_34 := Lib.hid (st5_far (g := Vara4_11_1.heap.size) P1_ara4_29_1.out (by omega) (.slice (some ⟨Da4.heap.size, 0, none⟩) 1 1) (.int .i64 x.x0) (.int .i64 x.x1) (.int .i64 x.y0) (.int .i64 x.y1))
            have S1_sara4_34 := Lib.hid (st5_row S1_ara4_29_1.out (.slice (some ⟨Da4.heap.size, 0, none⟩) 1 1) (.int .i64 x.x0) (.int .i64 x.x1) (.int .i64 x.y0) (.int .i64 x.y1))
            have S2_sara4_34 := Lib.hid (st5_far (g := Vara4_11_1.heap.size) S2_ara4_29_1.out (by omega) (.slice (some ⟨Da4.heap.size, 0, none⟩) 1 1) (.int .i64 x.x0) (.int .i64 x.x1) (.int .i64 x.y0) (.int .i64 x.y1))
            have B_sara4_34 := Lib.hid (st5_below (g := Vara4_11_1.heap.size) B_ara4_29_1.out (by omega) (.slice (some ⟨Da4.heap.size, 0, none⟩) 1 1) (.int .i64 x.x0) (.int .i64 x.x1) (.int .i64 x.y0) (.int .i64 x.y1))
            clear RL_ara4_29_1 P1_ara4_29_1 S1_ara4_29_1 S2_ara4_29_1 B_ara4_29_1
            generalize st5 Vara4_29_1 (Vara4_11_1.heap.size) (.slice (some ⟨Da4.heap.size, 0, none⟩) 1 1) (.int .i64 x.x0) (.int .i64 x.x1) (.int .i64 x.y0) (.int .i64 x.y1) = Xara4_34 at RL_sara4_34 P1_sara4_34 S1_sara4_34 S2_sara4_34 B_sara4_34 ⊢
            refine hK _ _ ⟨RL_sara4_34.out, B_sara4_34.out⟩ (fun _ => ?_)
            clear hK K
            try simp only [Act.put, List.setIfInBounds_toArray, List.set_cons_zero, List.set_cons_succ]
            refine wpAnyH_ready (rs := [8]) (by kernel_rfl) (by simp) ?_
            refine (AllReadyH.cons rfl (fun K hK => ?_) AllReadyH.nil)
            try rw [if_pos (by rfl)]
            go_simp
            have hltara4_35_1_0 : w.heap.size < Xara4_34.heap.size := RL_sara4_34.out.lt
            have hltara4_35_1_1 : Da4.heap.size < Xara4_34.heap.size := P1_sara4_34.out.lt
            have hltara4_35_1_2 : Vara4_11_1.heap.size < Xara4_34.heap.size := S1_sara4_34.out.lt
            have hltara4_35_1_3 : Vara4_23_1.heap.size < Xara4_34.heap.size := S2_sara4_34.out.lt
            have RL_ara4_35_1 := Lib.hid (RL_sara4_34.out.alloc (zI k))
            have P1_ara4_35_1 := Lib.hid (P1_sara4_34.out.alloc (zI k))
            have S1_ara4_35_1 := Lib.hid (S1_sara4_34.out.alloc (zI k))
            have S2_ara4_35_1 := Lib.hid (S2_sara4_34.out.alloc (zI k))
            have P2_ara4_35_1 := Lib.hid (row_last Xara4_34 (Xara4_34.heap.size) 3 [.int .i64 (k : Int)] (by simp))
            have B_ara4_35_1 := Lib.hid (B_sara4_34.out.alloc B_sara4_34.out.size (zI k))
            clear RL_sara4_34 P1_sara4_34 S1_sara4_34 S2_sara4_34 B_sara4_34
            generalize (Xara4_34.alloc (zI k)) = Vara4_35_1 at RL_ara4_35_1 P1_ara4_35_1 S1_ara4_35_1 S2_ara4_35_1 P2_ara4_35_1 B_ara4_35_1 ⊢
            refine hK _ _ ⟨RL_ara4_35_1.out, B_ara4_35_1.out⟩ (fun _ => ?_)
            clear hK K
            try simp only [Act.put, List.setIfInBounds_toArray, List.set_cons_zero, List.set_cons_succ]
            refine wpAnyH_take (i := 13) (oi := ⟨some 30, _, _, _, _, _⟩) (v := ?vara4_36) rfl (by kernel_rfl) (by kernel_rfl) (by kernel_rfl) (fun _ _ _ h => h) (Or.inl ⟨by rfl, ?yara4_36⟩) ⟨RL_ara4_35_1.out, B_ara4_35_1.out⟩ ?rara4_36
            case yara4_36 =>
              rintro w' hSw
              go_simp
              try with_reducible rfl
            try simp only [Act.put, List.setIfInBounds_toArray, List.set_cons_zero, List.set_cons_succ]
            refine wpAnyH_ready (rs := [17]) (by kernel_rfl) (by simp) ?_
            refine (AllReadyH.cons rfl (fun K hK => ?_) AllReadyH.nil)
            obtain ⟨k0, k1, k2, k3, k4, f0, f1, f2, f3, f4⟩ := row5 S2_ara4_35_1.out
            rw [if_pos (by rfl)]
            go_simp
            clear f0 k0 f1 k1 f2 k2 f3 k3 f4 k4
            change K _ (st5 Vara4_35_1 (Vara4_23_1.heap.size) (.slice (some ⟨Xara4_34.heap.size, 0, none⟩) 1 1) (.int .i64 y.x0) (.int .i64 y.x1) (.int .i64 y.y0) (.int .i64 y.y1))
            have RL_sara4_37 := Lib.hid (st5_far (g := Vara4_23_1.heap.size) RL_ara4_35_1.out (by omega) (.slice (some ⟨Xara4_34.heap.size, 0, none⟩) 1 1) (.int .i64 y.x0) (.int .i64 y.x1) (.int .i64 y.y0) (.int .i64 y.y1))
            have P1_sara4_37 := Lib.hid (st5_far (g := Vara4_23_1.heap.size) P1_ara4_35_1.out (by omega) (.slice (some ⟨Xara4_34.heap.size, 0, none⟩) 1 1) (.int .i64 y.x0) (.int .i64 y.x1) (.int .i64 y.y0) (.int .i64 y.y1))
            have S1_sara4_37 := Lib.hid (st5_far (g := Vara4_23_1.heap.size) S1_ara4_35_1.out (by omega) (.slice (some ⟨Xara4_34.heap.size, 0, none⟩) 1 1) (.int .i64 y.x0) (.int .i64 y.x1) (.int .i64 y.y0) (.int .i64 y.y1))
            have S2_sara4_37 := Lib.hid (st5_row S2_ara4_35_1.out (.slice (some ⟨Xara4_34.heap.size, 0, none⟩) 1 1) (.int .i64 y.x0) (.int .i64 y.x1) (.int .i64 y.y0) (.int .i64 y.y1))
            have P2_sara4_37 := Lib.hid (st5_far (g := Vara4_23_1.heap.size) P2_ara4_35_1.out (by omega) (.slice (some ⟨Xara4_34.heap.size, 0, none⟩) 1 1) (.int .i64 y.x0) (.int .i64 y.x1) (.int .i64 y.y0) (.int .i64 y.y1))
            have B_sara4_37 := Lib.hid (st5_below (g := Vara4_23_1.heap.size) B_ara4_35_1.out (by omega) (.slice (some ⟨Xara4_34.heap.size, 0, none⟩) 1 1) (.int .i64 y.x0) (.int .i64 y.x1) (.int .i64 y.y0) (.int .i64 y.y1))
            clear RL_ara4_35_1 P1_ara4_35_1 S1_ara4_35_1 S2_ara4_35_1 P2_ara4_35_1 B_ara4_35_1
            generalize st5 Vara4_35_1 (Vara4_23_1.heap.size) (.slice (some ⟨Xara4_34.heap.size, 0, none⟩) 1 1) (.int .i64 y.x0) (.int .i64 y.x1) (.int .i64 y.y0) (.int .i64 y.y1) = Xara4_37 at RL_sara4_37 P1_sara4_37 S1_sara4_37 S2_sara4_37 P2_sara4_37 B_sara4_37 ⊢
            refine hK _ _ ⟨RL_sara4_37.out, B_sara4_37.out⟩ (fun _ => ?_)
            clear hK K
            try simp only [Act.put, List.setIfInBounds_toArray, List.set_cons_zero, List.set_cons_succ]
            refine wpAnyH_done (by kernel_rfl) ?_ _
            go_wp2_with fail
            go_meet
            exact ⟨_, _, _, _, rfl, rfl, RL_sara4_37.out, S1_sara4_37.out, S2_sara4_37.out, P1_sara4_37.out, P2_sara4_37.out, by omega, by omega, by omega, by omega, by omega, by omega, B_sara4_37.out⟩
      · try rw [if_pos (by rfl)]
        go_simp
        have hltara4_38_1_0 : w.heap.size < Vara4_11_1.heap.size := RL_ara4_11_1.out.lt
        have hltara4_38_1_1 : Da4.heap.size < Vara4_11_1.heap.size := P1_ara4_11_1.out.lt
        have RL_ara4_38_1 := Lib.hid (RL_ara4_11_1.out.alloc zS)
        have P1_ara4_38_1 := Lib.hid (P1_ara4_11_1.out.alloc zS)
        have S2_ara4_38_1 := Lib.hid (row_last Vara4_11_1 (Vara4_11_1.heap.size) 66 [.slice none 0 0, .int .i64 0, .int .i64 0, .int .i64 0, .int .i64 0] (by simp))
        have B_ara4_38_1 := Lib.hid (B_ara4_11_1.out.alloc B_ara4_11_1.out.size zS)
        clear RL_ara4_11_1 P1_ara4_11_1 B_ara4_11_1
        generalize (Vara4_11_1.alloc zS) = Vara4_38_1 at RL_ara4_38_1 P1_ara4_38_1 S2_ara4_38_1 B_ara4_38_1 ⊢
        refine hK _ _ ⟨RL_ara4_38_1.out, B_ara4_38_1.out⟩ (fun _ => ?_)
        clear hK K
        try simp only [Act.put, List.setIfInBounds_toArray, List.set_cons_zero, List.set_cons_succ]
        refine wpAnyH_ready (rs := [8, 14]) (by kernel_rfl) (by simp) ?_
        refine (AllReadyH.cons rfl (fun K hK => ?_) (AllReadyH.cons rfl (fun K hK => ?_) AllReadyH.nil))
        · try rw [if_pos (by rfl)]
          go_simp
          have hltara4_39_1_0 : w.heap.size < Vara4_38_1.heap.size := RL_ara4_38_1.out.lt
          have hltara4_39_1_1 : Da4.heap.size < Vara4_38_1.heap.size := P1_ara4_38_1.out.lt
          have hltara4_39_1_2 : Vara4_11_1.heap.size < Vara4_38_1.heap.size := S2_ara4_38_1.out.lt
          have RL_ara4_39_1 := Lib.hid (RL_ara4_38_1.out.alloc (zI k))
          have P1_ara4_39_1 := Lib.hid (P1_ara4_38_1.out.alloc (zI k))
          have S2_ara4_39_1 := Lib.hid (S2_ara4_38_1.out.alloc (zI k))
          have P2_ara4_39_1 := Lib.hid (row_last Vara4_38_1 (Vara4_38_1.heap.size) 3 [.int .i64 (k : Int)] (by simp))
          have B_ara4_39_1 := Lib.hid (B_ara4_38_1.out.alloc B_ara4_38_1.out.size (zI k))
          clear RL_ara4_38_1 P1_ara4_38_1 S2_ara4_38_1 B_ara4_38_1
          generalize (Vara4_38_1.alloc (zI k)) = Vara4_39_1 at RL_ara4_39_1 P1_ara4_39_1 S2_ara4_39_1 P2_ara4_39_1 B_ara4_39_1 ⊢
          refine hK _ _ ⟨RL_ara4_39_1.out, B_ara4_39_1.out⟩ (fun _ => ?_)
          clear hK K
          try simp only [Act.put, List.setIfInBounds_toArray, List.set_cons_zero, List.set_cons_succ]
          refine wpAnyH_take (i := 13) (oi := ⟨some 30, _, _, _, _, _⟩) (v := ?vara4_40) rfl (by kernel_rfl) (by kernel_rfl) (by kernel_rfl) (fun _ _ _ h => h) (Or.inl ⟨by rfl, ?yara4_40⟩) ⟨RL_ara4_39_1.out, B_ara4_39_1.out⟩ ?rara4_40
          case yara4_40 =>
            rintro w' hSw
            go_simp
            try with_reducible rfl
          try simp only [Act.put, List.setIfInBounds_toArray, List.set_cons_zero, List.set_cons_succ]
          refine wpAnyH_ready (rs := [14]) (by kernel_rfl) (by simp) ?_
          refine (AllReadyH.cons rfl (fun K hK => ?_) AllReadyH.nil)
          try rw [if_pos (by rfl)]
          go_simp
          have hltara4_41_1_0 : w.heap.size < Vara4_39_1.heap.size := RL_ara4_39_1.out.lt
          have hltara4_41_1_1 : Da4.heap.size < Vara4_39_1.heap.size := P1_ara4_39_1.out.lt
          have hltara4_41_1_2 : Vara4_11_1.heap.size < Vara4_39_1.heap.size := S2_ara4_39_1.out.lt
          have hltara4_41_1_3 : Vara4_38_1.heap.size < Vara4_39_1.heap.size := P2_ara4_39_1.out.lt
          have RL_ara4_41_1 := Lib.hid (RL_ara4_39_1.out.alloc zS)
          have P1_ara4_41_1 := Lib.hid (P1_ara4_39_1.out.alloc zS)
          have S2_ara4_41_1 := Lib.hid (S2_ara4_39_1.out.alloc zS)
          have P2_ara4_41_1 := Lib.hid (P2_ara4_39_1.out.alloc zS)
          have S1_ara4_41_1 := Lib.hid (row_last Vara4_39_1 (Vara4_39_1.heap.size) 66 [.slice none 0 0, .int .i64 0, .int .i64 0, .int .i64 0, .int .i64 0] (by simp))
          have B_ara4_41_1 := Lib.hid (B_ara4_39_1.out.alloc B_ara4_39_1.out.size zS)
          clear RL_ara4_39_1 P1_ara4_39_1 S2_ara4_39_1 P2_ara4_39_1 B_ara4_39_1
          generalize (Vara4_39_1.alloc zS) = Vara4_41_1 at RL_ara4_41_1 P1_ara4_41_1 S2_ara4_41_1 P2_ara4_41_1 S1_ara4_41_1 B_ara4_41_1 ⊢
          refine hK _ _ ⟨RL_ara4_41_1.out, B_ara4_41_1.out⟩ (fun _ => ?_)
          clear hK K
          try simp only [Act.put, List.setIfInBounds_toArray, List.set_cons_zero, List.set_cons_succ]
          refine wpAnyH_ready (rs := [16]) (by kernel_rfl) (by simp) ?_
          refine (AllReadyH.cons rfl (fun K hK => ?_) AllReadyH.nil)
          obtain ⟨k0, k1, k2, k3, k4, f0, f1, f2, f3, f4⟩ := row5 S1_ara4_41_1.out
          rw [if_pos (by rfl)]
          go_simp
          clear f0 k0 f1 k1 f2 k2 f3 k3 f4 k4
          change K _ (st5 Vara4_41_1 (Vara4_39_1.heap.size) (.slice (some ⟨Da4.heap.size, 0, none⟩) 1 1) (.int .i64 x.x0) (.int .i64 x.x1) (.int .i64 x.y0) (.int .i64 x.y1))
          have RL_sara4_42 := Lib.hid (st5_far (g := Vara4_39_1.heap.size) RL_ara4_41_1.out (by omega) (.slice (some ⟨Da4.heap.size, 0, none⟩) 1 1) (.int .i64 x.x0) (.int .i64 x.x1) (.int .i64 x.y0) (.int .i64 x.y1))
          have P1_sara4_42 := Lib.hid (st5_far (g := Vara4_39_1.heap.size) P1_ara4_41_1.out (by omega) (.slice (some ⟨Da4.heap.size, 0, none⟩) 1 1) (.int .i64 x.x0) (.int .i64 x.x1) (.int .i64 x.y0) (.int .i64 x.y1))
          have S2_sara4_42 := Lib.hid (st5_far (g := Vara4_39_1.heap.size) S2_ara4_41_1.out (by omega) (.slice (some ⟨Da4.heap.size, 0, none⟩) 1 1) (.int .i64 x.x0) (.int .i64 x.x1) (.int .i64 x.y0) (.int .i64 x.y1))
          have P2_sara4_42 := Lib.hid (st5_far (g := Vara4_39_1.heap.size) P2_ara4_41_1.out (by omega) (.slice (some ⟨Da4.heap.size, 0, none⟩) 1 1) (.int .i64 x.x0) (.int .i64 x.x1) (.int .i64 x.y0) (.int .i64 x.y1))
          have S1_sara4_42 := Lib.hid (st5_row S1_ara4_41_1.out (.slice (some ⟨Da4.heap.size, 0, none⟩) 1 1) (.int .i64 x.x0) (.int .i64 x.x1) (.int .i64 x.y0) (.int .i64 x.y1))
          have B_sara4_42 := Lib.hid (st5_below (g := Vara4_39_1.heap.size) B_ara4_41_1.out (by omega) (.slice (some ⟨Da4.heap.size, 0, none⟩) 1 1) (.int .i64 x.x0) (.int .i64 x.x1) (.int .i64 x.y0) (.int .i64 x.y1))
          clear RL_ara4_41_1 P1_ara4_41_1 S2_ara4_41_1 P2_ara4_41_1 S1_ara4_41_1 B_ara4_41_1
          generalize st5 Vara4_41_1 (Vara4_39_1.heap.size) (.slice (some ⟨Da4.heap.size, 0, none⟩) 1 1) (.int .i64 x.x0) (.int .i64 x.x1) (.int .i64 x.y0) (.int .i64 x.y1) = Xara4_42 at RL_sara4_42 P1_sara4_42 S2_sara4_42 P2_sara4_42 S1_sara4_42 B_sara4_42 ⊢
          refine hK _ _ ⟨RL_sara4_42.out, B_sara4_42.out⟩ (fun _ => ?_)
          clear hK K
          try simp only [Act.put, List.setIfInBounds_toArray, List.set_cons_zero, List.set_cons_succ]
          refine wpAnyH_ready (rs := [17]) (by kernel_rfl) (by simp) ?_
          refine (AllReadyH.cons rfl (fun K hK => ?_) AllReadyH.nil)
          obtain ⟨k0, k1, k2, k3, k4, f0, f1, f2, f3, f4⟩ := row5 S2_sara4_42.out
          rw [if_pos (by rfl)]
          go_simp
          clear f0 k0 f1 k1 f2 k2 f3 k3 f4 k4
          change K _ (st5 Xara4_42 (Vara4_11_1.heap.size) (.slice (some ⟨Vara4_38_1.heap.size, 0, none⟩) 1 1) (.int .i64 y.x0) (.int .i64 y.x1) (.int .i64 y.y0) (.int .i64 y.y1))
          have RL_sara4_43 := Lib.hid (st5_far (g := Vara4_11_1.heap.size) RL_sara4_42.out (by omega) (.slice (some ⟨Vara4_38_1.heap.size, 0, none⟩) 1 1) (.int .i64 y.x0) (.int .i64 y.x1) (.int .i64 y.y0) (.int .i64 y.y1))
          have P1_sara4_43 := Lib.hid (st5_far (g := Vara4_11_1.heap.size) P1_sara4_42.out (by omega) (.slice (some ⟨Vara4_38_1.heap.size, 0, none⟩) 1 1) (.int .i64 y.x0) (.int .i64 y.x1) (.int .i64 y.y0) (.int .i64 y.y1))
          have S2_sara4_43 := Lib.hid (st5_row S2_sara4_42.out (.slice (some ⟨Vara4_38_1.heap.size, 0, none⟩) 1 1) (.int .i64 y.x0) (.int .i64 y.x1) (.int .i64 y.y0) (.int .i64 y.y1))
          have P2_sara4_43 := Lib.hid (st5_far (g := Vara4_11_1.heap.size) P2_sara4_42.out (by omega) (.slice (some ⟨Vara4_38_1.heap.size, 0, none⟩) 1 1) (.int .i64 y.x0) (.int .i64 y.x1) (.int .i64 y.y0) (.int .i64 y.y1))
          have S1_sara4_43 := Lib.hid (st5_far (g := Vara4_11_1.heap.size) S1_sara4_42.out (by omega) (.slice (some ⟨Vara4_38_1.heap.size, 0, none⟩) 1 1) (.int .i64 y.x0) (.int .i64 y.x1) (.int .i64 y.y0) (.int .i64 y.y1))
          have B_sara4_43 := Lib.hid (st5_below (g := Vara4_11_1.heap.size) B_sara4_42.out (by omega) (.slice (some ⟨Vara4_38_1.heap.size, 0, none⟩) 1 1) (.int .i64 y.x0) (.int .i64 y.x1) (.int .i64 y.y0) (.int .i64 y.y1))
          clear RL_sara4_42 P1_sara4_42 S2_sara4_42 P2_sara4_42 S1_sara4_42 B_sara4_42
          generalize st5 Xara4_42 (Vara4_11_1.heap.size) (.slice (some ⟨Vara4_38_1.heap.size, 0, none⟩) 1 1) (.int .i64 y.x0) (.int .i64 y.x1) (.int .i64 y.y0) (.int .i64 y.y1) = Xara4_43 at RL_sara4_43 P1_sara4_43 S2_sara4_43 P2_sara4_43 S1_sara4_43 B_sara4_43 ⊢
          refine hK _ _ ⟨RL_sara4_43.out, B_sara4_43.out⟩ (fun _ => ?_)
          clear hK K
          try simp only [Act.put, List.setIfInBounds_toArray, List.set_cons_zero, List.set_cons_succ]
          refine wpAnyH_done (by kernel_rfl) ?_ _
          go_wp2_with fail
          go_meet
          exact ⟨_, _, _, _, rfl, rfl, RL_sara4_43.out, S1_sara4_43.out, S2_sara4_43.out, P1_sara4_43.out, P2_sara4_43.out, by omega, by omega, by omega, by omega, by omega, by omega, B_sara4_43.out⟩
        · try rw [if_pos (by rfl)]
          go_simp
          have hltara4_44_1_0 : w.heap.size < Vara4_38_1.heap.size := RL_ara4_38_1.out.lt
          have hltara4_44_1_1 : Da4.heap.size < Vara4_38_1.heap.size := P1_ara4_38_1.out.lt
          have hltara4_44_1_2 : Vara4_11_1.heap.size < Vara4_38_1.heap.size := S2_ara4_38_1.out.lt
          have RL_ara4_44_1 := Lib.hid (RL_ara4_38_1.out.alloc zS)
          have P1_ara4_44_1 := Lib.hid (P1_ara4_38_1.out.alloc zS)
          have S2_ara4_44_1 := Lib.hid (S2_ara4_38_1.out.alloc zS)
          have S1_ara4_44_1 := Lib.hid (row_last Vara4_38_1 (Vara4_38_1.heap.size) 66 [.slice none 0 0, .int .i64 0, .int .i64 0, .int .i64 0, .int .i64 0] (by simp))
          have B_ara4_44_1 := Lib.hid (B_ara4_38_1.out.alloc B_ara4_38_1.out.size zS)
          clear RL_ara4_38_1 P1_ara4_38_1 S2_ara4_38_1 B_ara4_38_1
          generalize (Vara4_38_1.alloc zS) = Vara4_44_1 at RL_ara4_44_1 P1_ara4_44_1 S2_ara4_44_1 S1_ara4_44_1 B_ara4_44_1 ⊢
          refine hK _ _ ⟨RL_ara4_44_1.out, B_ara4_44_1.out⟩ (fun _ => ?_)
          clear hK K
          try simp only [Act.put, List.setIfInBounds_toArray, List.set_cons_zero, List.set_cons_succ]
          refine wpAnyH_ready (rs := [8, 16]) (by kernel_rfl) (by simp) ?_
          refine (AllReadyH.cons rfl (fun K hK => ?_) (AllReadyH.cons rfl (fun K hK => ?_) AllReadyH.nil))
          · try rw [if_pos (by rfl)]
            go_simp
            have hltara4_45_1_0 : w.heap.size < Vara4_44_1.heap.size := RL_ara4_44_1.out.lt
            have hltara4_45_1_1 : Da4.heap.size < Vara4_44_1.heap.size := P1_ara4_44_1.out.lt
            have hltara4_45_1_2 : Vara4_11_1.heap.size < Vara4_44_1.heap.size := S2_ara4_44_1.out.lt
            have hltara4_45_1_3 : Vara4_38_1.heap.size < Vara4_44_1.heap.size := S1_ara4_44_1.out.lt
            have RL_ara4_45_1 := Lib.hid (RL_ara4_44_1.out.alloc (zI k))
            have P1_ara4_45_1 := Lib.hid (P1_ara4_44_1.out.alloc (zI k))
            have S2_ara4_45_1 := Lib.hid (S2_ara4_44_1.out.alloc (zI k))
            have S1_ara4_45_1 := Lib.hid (S1_ara4_44_1.out.alloc (zI k))
            have P2_ara4_45_1 := Lib.hid (row_last Vara4_44_1 (Vara4_44_1.heap.size) 3 [.int .i64 (k : Int)] (by simp))
            have B_ara4_45_1 := Lib.hid (B_ara4_44_1.out.alloc B_ara4_44_1.out.size (zI k))
            clear RL_ara4_44_1 P1_ara4_44_1 S2_ara4_44_1 S1_ara4_44_1 B_ara4_44_1
            generalize (Vara4_44_1.alloc (zI k)) = Vara4_45_1 at RL_ara4_45_1 P1_ara4_45_1 S2_ara4_45_1 S1_ara4_45_1 P2_ara4_45_1 B_ara4_45_1 ⊢
            refine hK _ _ ⟨RL_ara4_45_1.out, B_ara4_45_1.out⟩ (fun _ => ?_)
            clear hK K
            try simp only [Act.put, List.setIfInBounds_toArray, List.set_cons_zero, List.set_cons_succ]
            refine wpAnyH_take (i := 13) (oi := ⟨some 30, _, _, _, _, _⟩) (v := ?vara4_46) rfl (by kernel_rfl) (by kernel_rfl) (by kernel_rfl) (fun _ _ _ h => h) (Or.inl ⟨by rfl, ?yara4_46⟩) ⟨RL_ara4_45_1.out, B_ara4_45_1.out⟩ ?rara4_46
            case yara4_46 =>
              rintro w' hSw
              go_simp
              try with_reducible rfl
            try simp only [Act.put, List.setIfInBounds_toArray, List.set_cons_zero, List.set_cons_succ]
            refine wpAnyH_ready (rs := [16]) (by kernel_rfl) (by simp) ?_
            refine (AllReadyH.cons rfl (fun K hK => ?_) AllReadyH.nil)
            obtain ⟨k0, k1, k2, k3, k4, f0, f1, f2, f3, f4⟩ := row5 S1_ara4_45_1.out
            rw [if_pos (by rfl)]
            go_simp
            clear f0 k0 f1 k1 f2 k2 f3 k3 f4 k4
            change K _ (st5 Vara4_45_1 (Vara4_38_1.heap.size) (.slice (some ⟨Da4.heap.size, 0, none⟩) 1 1) (.int .i64 x.x0) (.int .i64 x.x1) (.int .i64 x.y0) (.int .i64 x.y1))
            have RL_sara4_47 := Lib.hid (st5_far (g := Vara4_38_1.heap.size) RL_ara4_45_1.out (by omega) (.slice (some ⟨Da4.heap.size, 0, none⟩) 1 1) (.int .i64 x.x0) (.int .i64 x.x1) (.int .i64 x.y0) (.int .i64 x.y1))
            have P1_sara4_47 := Lib.hid (st5_far (g := Vara4_38_1.heap.size) P1_ara4_45_1.out (by omega) (.slice (some ⟨Da4.heap.size, 0, none⟩) 1 1) (.int .i64 x.x0) (.int .i64 x.x1) (.int .i64 x.y0) (.int .i64 x.y1))
            have S2_sara4_47 := Lib.hid (st5_far (g := Vara4_38_1.heap.size) S2_ara4_45_1.out (by omega) (.slice (some ⟨Da4.heap.size, 0, none⟩) 1 1) (.int .i64 x.x0) (.int .i64 x.x1) (.int .i64 x.y0) (.int .i64 x.y1))
            have S1_sara4_47 := Lib.hid (st5_row S1_ara4_45_1.out (.slice (some ⟨Da4.heap.size, 0, none⟩) 1 1) (.int .i64 x.x0) (.int .i64 x.x1) (.int .i64 x.y0) (.int .i64 x.y1))
            have P2_sara4_47 := Lib.hid (st5_far (g := Vara4_38_1.heap.size) P2_ara4_45_1.out (by omega) (.slice (some ⟨Da4.heap.size, 0, none⟩) 1 1) (.int .i64 x.x0) (.int .i64 x.x1) (.int .i64 x.y0) (.int .i64 x.y1))
            have B_sara4_47 := Lib.hid (st5_below (g := Vara4_38_1.heap.size) B_ara4_45_1.out (by omega) (.slice (some ⟨Da4.heap.size, 0, none⟩) 1 1) (.int .i64 x.x0) (.int .i64 x.x1) (.int .i64 x.y0) (.int .i64 x.y1))
            clear RL_ara4_45_1 P1_ara4_45_1 S2_ara4_45_1 S1_ara4_45_1 P2_ara4_45_1 B_ara4_45_1
            generalize st5 Vara4_45_1 (Vara4_38_1.heap.size) (.slice (some ⟨Da4.heap.size, 0, none⟩) 1 1) (.int .i64 x.x0) (.int .i64 x.x1) (.int .i64 x.y0) (.int .i64 x.y1) = Xara4_47 at RL_sara4_47 P1_sara4_47 S2_sara4_47 S1_sara4_47 P2_sara4_47 B_sara4_47 ⊢
            refine hK _ _ ⟨RL_sara4_47.out, B_sara4_47.out⟩ (fun _ => ?_)
            clear hK K
            try simp only [Act.put, List.setIfInBounds_toArray, List.set_cons_zero, List.set_cons_succ]
            refine wpAnyH_ready (rs := [17]) (by kernel_rfl) (by simp) ?_
            refine (AllReadyH.cons rfl (fun K hK => ?_) AllReadyH.nil)
            obtain ⟨k0, k1, k2, k3, k4, f0, f1, f2, f3, f4⟩ := row5 S2_sara4_47.out
            rw [if_pos (by rfl)]
            go_simp
            clear f0 k0 f1 k1 f2 k2 f3 k3 f4 k4
            change K _ (st5 Xara4_47 (Vara4_11_1.heap.size) (.slice (some ⟨Vara4_44_1.heap.size, 0, none⟩) 1 1) (.int .i64 y.x0) (.int .i64 y.x1) (.int .i64 y.y0) (.int .i64 y.y1))
            have RL_sara4_48 := Lib.hid (st5_far (g := Vara4_11_1.heap.size) RL_sara4_47.out (by omega) (.slice (some ⟨Vara4_44_1.heap.size, 0, none⟩) 1 1) (.int .i64 y.x0) (.int .i64 y.x1) (.int .i64 y.y0) (.int .i64 y.y1))
            have P1_sara4_48 := Lib.hid (st5_far (g := Vara4_11_1.heap.size) P1_sara4_47.out (by omega) (.slice (some ⟨Vara4_44_1.heap.size, 0, none⟩) 1 1) (.int .i64 y.x0) (.int .i64 y.x1) (.int .i64 y.y0) (.int .i64 y.y1))
            have S2_sara4_48 := Lib.hid (st5_row S2_sara4_47.out (.slice (some ⟨Vara4_44_1.heap.size, 0, none⟩) 1 1) (.int .i64 y.x0) (.int .i64 y.x1) (.int .i64 y.y0) (.int .i64 y.y1))
            have S1_sara4_48 := Lib.hid (st5_far (g := Vara4_11_1.heap.size) S1_sara4_47.out (by omega) (.slice (some ⟨Vara4_44_1.heap.size, 0, none⟩) 1 1) (.int .i64 y.x0) (.int .i64 y.x1) (.int .i64 y.y0) (.int .i64 y.y1))
            have P2_sara4_48 := Lib.hid (st5_far (g := Vara4_11_1.heap.size) P2_sara4_47.out (by omega) (.slice (some ⟨Vara4_44_1.heap.size, 0, none⟩) 1 1) (.int .i64 y.x0) (.int .i64 y.x1) (.int .i64 y.y0) (.int .i64 y.y1))
            have B_sara4_48 := Lib.hid (st5_below (g := Vara4_11_1.heap.size) B_sara4_47.out (by omega) (.slice (some ⟨Vara4_44_1.heap.size, 0, none⟩) 1 1) (.int .i64 y.x0) (.int .i64 y.x1) (.int .i64 y.y0) (.int .i64 y.y1))
            clear RL_sara4_47 P1_sara4_47 S2_sara4_47 S1_sara4_47 P2_sara4_47 B_sara4_47
            generalize st5 Xara4_47 (Vara4_11_1.heap.size) (.slice (some ⟨Vara4_44_1.heap.size, 0, none⟩) 1 1) (.int .i64 y.x0) (.int .i64 y.x1) (.int .i64 y.y0) (.int .i64 y.y1) = Xara4_48 at RL_sara4_48 P1_sara4_48 S2_sara4_48 S1_sara4_48 P2_sara4_48 B_sara4_48 ⊢
            refine hK _ _ ⟨RL_sara4_48.out, B_sara4_48.out⟩ (fun _ => ?_)
            clear hK K
            try simp only [Act.put, List.setIfInBounds_toArray, List.set_cons_zero, List.set_cons_succ]
            refine wpAnyH_done (by kernel_rfl) ?_ _
            go_wp2_with fail
            go_meet
            exact ⟨_, _, _, _, rfl, rfl, RL_sara4_48.out, S1_sara4_48.out, S2_sara4_48.out, P1_sara4_48.out, P2_sara4_48.out, by omega, by omega, by omega, by omega, by omega, by omega, B_sara4_48.out⟩
          · obtain ⟨k0, k1, k2, k3, k4, f0, f1, f2, f3, f4⟩ := row5 S1_ara4_44_1.out
            rw [if_pos (by rfl)]
            go_simp
            clear f0 k0 f1 k1 f2 k2 f3 k3 f4 k4
            change K _ (st5 Vara4_44_1 (Vara4_38_1.heap.size) (.slice (some ⟨Da4.heap.size, 0, none⟩) 1 1) (.int .i64 x.x0) (.int .i64 x.x1) (.int .i64 x.y0) (.int .i64 x.y1))
            have RL_sara4_49 := Lib.hid (st5_far (g := Vara4_38_1.heap.size) RL_ara4_44_1.out (by omega) (.slice (some ⟨Da4.heap.size, 0, none⟩) 1 1) (.int .i64 x.x0) (.int .i64 x.x1) (.int .i64 x.y0) (.int .i64 x.y1))
            have P1_sara4_49 := Lib.hid (st5_far (g := Vara4_38_1.heap.size) P1_ara4_44_1.out (by omega) (.slice (some ⟨Da4.heap.size, 0, none⟩) 1 1) (.int .i64 x.x0) (.int .i64 x.x1) (.int .i64 x.y0) (.int .i64 x.y1))
            have S2_sara4_49 := Lib.hid (st5_far (g := Vara4_38_1.heap.size) S2_ara4_44_1.out (by omega) (.slice (some ⟨Da4.heap.size, 0, none⟩) 1 1) (.int .i64 x.x0) (.int .i64 x.x1) (.int .i64 x.y0) (.int .i64 x.y1))
            have S1_sara4_49 := Lib.hid (st5_row S1_ara4_44_1.out (.slice (some ⟨Da4.heap.size, 0, none⟩) 1 1) (.int .i64 x.x0) (.int .i64 x.x1) (.int .i64 x.y0) (.int .i64 x.y1))
            have B_sara4_49 := Lib.hid (st5_below (g := Vara4_38_1.heap.size) B_ara4_44_1.out (by omega) (.slice (some ⟨Da4.heap.size, 0, none⟩) 1 1) (.int .i64 x.x0) (.int .i64 x.x1) (.int .i64 x.y0) (.int .i64 x.y1))
            clear RL_ara4_44_1 P1_ara4_44_1 S2_ara4_44_1 S1_ara4_44_1 B_ara4_44_1
            generalize st5 Vara4_44_1 (Vara4_38_1.heap.size) (.slice (some ⟨Da4.heap.size, 0, none⟩) 1 1) (.int .i64 x.x0) (.int .i64 x.x1) (.int .i64 x.y0) (.int .i64 x.y1) = Xara4_49 at RL_sara4_49 P1_sara4_49 S2_sara4_49 S1_sara4_49 B_sara4_49 ⊢
            refine hK _ _ ⟨RL_sara4_49.out, B_sara4_49.out⟩ (fun _ => ?_)
            clear hK K
            try simp only [Act.put, List.setIfInBounds_toArray, List.set_cons_zero, List.set_cons_succ]
            refine wpAnyH_ready (rs := [8]) (by kernel_rfl) (by simp) ?_
            refine (AllReadyH.cons rfl (fun K hK => ?_) AllReadyH.nil)
            try rw [if_pos (by rfl)]
            go_simp
            have hltara4_50_1_0 : w.heap.size < Xara4_49.heap.size := RL_sara4_49.out.lt
            have hltara4_50_1_1 : Da4.heap.size < Xara4_49.heap.size := P1_sara4_49.out.lt
            have hltara4_50_1_2 : Vara4_11_1.heap.size < Xara4_49.heap.size := S2_sara4_49.out.lt
            have hltara4_50_1_3 : Vara4_38_1.heap.size < Xara4_49.heap.size := S1_sara4_49.out.lt
            have RL_ara4_50_1 := Lib.hid (RL_sara4_49.out.alloc (zI k))
            have P1_ara4_50_1 := Lib.hid (P1_sara4_49.out.alloc (zI k))
            have S2_ara4_50_1 := Lib.hid (S2_sara4_49.out.alloc (zI k))
            have S1_ara4_50_1 := Lib.hid (S1_sara4_49.out.alloc (zI k))
            have P2_ara4_50_1 := Lib.hid (row_last Xara4_49 (Xara4_49.heap.size) 3 [.int .i64 (k : Int)] (by simp))
            have B_ara4_50_1 := Lib.hid (B_sara4_49.out.alloc B_sara4_49.out.size (zI k))
            clear RL_sara4_49 P1_sara4_49 S2_sara4_49 S1_sara4_49 B_sara4_49
            generalize (Xara4_49.alloc (zI k)) = Vara4_50_1 at RL_ara4_50_1 P1_ara4_50_1 S2_ara4_50_1 S1_ara4_50_1 P2_ara4_50_1 B_ara4_50_1 ⊢
            refine hK _ _ ⟨RL_ara4_50_1.out, B_ara4_50_1.out⟩ (fun _ => ?_)
            clear hK K
            try simp only [Act.put, List.setIfInBounds_toArray, List.set_cons_zero, List.set_cons_succ]
            refine wpAnyH_take (i := 13) (oi := ⟨some 30, _, _, _, _, _⟩) (v := ?vara4_51) rfl (by kernel_rfl) (by kernel_rfl) (by kernel_rfl) (fun _ _ _ h => h) (Or.inl ⟨by rfl, ?yara4_51⟩) ⟨RL_ara4_50_1.out, B_ara4_50_1.out⟩ ?rara4_51
            case yara4_51 =>
              rintro w' hSw
              go_simp
              try with_reducible rfl
            try simp only [Act.put, List.setIfInBounds_toArray, List.set_cons_zero, List.set_cons_succ]
            refine wpAnyH_ready (rs := [17]) (by kernel_rfl) (by simp) ?_
            refine (AllReadyH.cons rfl (fun K hK => ?_) AllReadyH.nil)
            obtain ⟨k0, k1, k2, k3, k4, f0, f1, f2, f3, f4⟩ := row5 S2_ara4_50_1.out
            rw [if_pos (by rfl)]
            go_simp
            clear f0 k0 f1 k1 f2 k2 f3 k3 f4 k4
            change K _ (st5 Vara4_50_1 (Vara4_11_1.heap.size) (.slice (some ⟨Xara4_49.heap.size, 0, none⟩) 1 1) (.int .i64 y.x0) (.int .i64 y.x1) (.int .i64 y.y0) (.int .i64 y.y1))
            have RL_sara4_52 := Lib.hid (st5_far (g := Vara4_11_1.heap.size) RL_ara4_50_1.out (by omega) (.slice (some ⟨Xara4_49.heap.size, 0, none⟩) 1 1) (.int .i64 y.x0) (.int .i64 y.x1) (.int .i64 y.y0) (.int .i64 y.y1))
            have P1_sara4_52 := Lib.hid (st5_far (g := Vara4_11_1.heap.size) P1_ara4_50_1.out (by omega) (.slice (some ⟨Xara4_49.heap.size, 0, none⟩) 1 1) (.int .i64 y.x0) (.int .i64 y.x1) (.int .i64 y.y0) (.int .i64 y.y1))
            have S2_sara4_52 := Lib.hid (st5_row S2_ara4_50_1.out (.slice (some ⟨Xara4_49.heap.size, 0, none⟩) 1 1) (.int .i64 y.x0) (.int .i64 y.x1) (.int .i64 y.y0) (.int .i64 y.y1))
            have S1_sara4_52 := Lib.hid (st5_far (g := Vara4_11_1.heap.size) S1_ara4_50_1.out (by omega) (.slice (some ⟨Xara4_49.heap.size, 0, none⟩) 1 1) (.int .i64 y.x0) (.int .i64 y.x1) (.int .i64 y.y0) (.int .i64 y.y1))
            have P2_sara4_52 := Lib.hid (st5_far (g := Vara4_11_1.heap.size) P2_ara4_50_1.out (by omega) (.slice (some ⟨Xara4_49.heap.size, 0, none⟩) 1 1) (.int .i64 y.x0) (.int .i64 y.x1) (.int .i64 y.y0) (.int .i64 y.y1))
            have B_sara4_52 := Lib.hid (st5_below (g := Vara4_11_1.heap.size) B_ara4_50_1.out (by omega) (.slice (some ⟨Xara4_49.heap.size, 0, none⟩) 1 1) (.int .i64 y.x0) (.int .i64 y.x1) (.int .i64 y.y0) (.int .i64 y.y1))
            clear RL_ara4_50_1 P1_ara4_50_1 S2_ara4_50_1 S1_ara4_50_1 P2_ara4_50_1 B_ara4_50_1
            generalize st5 Vara4_50_1 (Vara4_11_1.heap.size) (.slice (some ⟨Xara4_49.heap.size, 0, none⟩) 1 1) (.int .i64 y.x0) (.int .i64 y.x1) (.int .i64 y.y0) (.int .i64 y.y1) = Xara4_52 at RL_sara4_52 P1_sara4_52 S2_sara4_52 S1_sara4_52 P2_sara4_52 B_sara4_52 ⊢
            refine hK _ _ ⟨RL_sara4_52.out, B_sara4_52.out⟩ (fun _ => ?_)
            clear hK K
            try simp only [Act.put, List.setIfInBounds_toArray, List.set_cons_zero, List.set_cons_succ]
            refine wpAnyH_done (by kernel_rfl) ?_ _
            go_wp2_with fail
            go_meet
            exact ⟨_, _, _, _, rfl, rfl, RL_sara4_52.out, S1_sara4_52.out, S2_sara4_52.out, P1_sara4_52.out, P2_sara4_52.out, by omega, by omega, by omega, by omega, by omega, by omega, B_sara4_52.out⟩
    · try rw [if_pos (by rfl)]
      go_simp
      have hltara4_53_1_0 : w.heap.size < Da4.heap.size := RL_a4.out.lt
      have RL_ara4_53_1 := Lib.hid (RL_a4.out.alloc (zI k))
      have P2_ara4_53_1 := Lib.hid (row_last Da4 (Da4.heap.size) 3 [.int .i64 (k : Int)] (by simp))
      have B_ara4_53_1 := Lib.hid (B_a4.out.alloc B_a4.out.size (zI k))
      clear RL_a4 B_a4
      generalize (Da4.alloc (zI k)) = Vara4_53_1 at RL_ara4_53_1 P2_ara4_53_1 B_ara4_53_1 ⊢
      refine hK _ _ ⟨RL_ara4_53_1.out, B_ara4_53_1.out⟩ (fun _ => ?_)
      clear hK K
      try simp only [Act.put, List.setIfInBounds_toArray, List.set_cons_zero, List.set_cons_succ]
      refine wpAnyH_take (i := 13) (oi := ⟨some 30, _, _, _, _, _⟩) (v := ?vara4_54) rfl (by kernel_rfl) (by kernel_rfl) (by kernel_rfl) (fun _ _ _ h => h) (Or.inl ⟨by rfl, ?yara4_54⟩) ⟨RL_ara4_53_1.out, B_ara4_53_1.out⟩ ?rara4_54
      case yara4_54 =>
        rintro w' hSw
        go_simp
        try with_reducible rfl
      try simp only [Act.put, List.setIfInBounds_toArray, List.set_cons_zero, List.set_cons_succ]
      refine wpAnyH_ready (rs := [1, 14, 15]) (by kernel_rfl) (by simp) ?_
      refine (AllReadyH.cons rfl (fun K hK => ?_) (AllReadyH.cons rfl (fun K hK => ?_) (AllReadyH.cons rfl (fun K hK => ?_) AllReadyH.nil)))
      · try rw [if_pos (by rfl)]
        go_simp
        have hltara4_55_1_0 : w.heap.size < Vara4_53_1.heap.size := RL_ara4_53_1.out.lt
        have hltara4_55_1_1 : Da4.heap.size < Vara4_53_1.heap.size := P2_ara4_53_1.out.lt
        have RL_ara4_55_1 := Lib.hid (RL_ara4_53_1.out.alloc (zI i))
        have P2_ara4_55_1 := Lib.hid (P2_ara4_53_1.out.alloc (zI i))
        have P1_ara4_55_1 := Lib.hid (row_last Vara4_53_1 (Vara4_53_1.heap.size) 3 [.int .i64 (i : Int)] (by simp))
        have B_ara4_55_1 := Lib.hid (B_ara4_53_1.out.alloc B_ara4_53_1.out.size (zI i))
        clear RL_ara4_53_1 P2_ara4_53_1 B_ara4_53_1
        generalize (Vara4_53_1.alloc (zI i)) = Vara4_55_1 at RL_ara4_55_1 P2_ara4_55_1 P1_ara4_55_1 B_ara4_55_1 ⊢
        refine hK _ _ ⟨RL_ara4_55_1.out, B_ara4_55_1.out⟩ (fun _ => ?_)
        clear hK K
        try simp only [Act.put, List.setIfInBounds_toArray, List.set_cons_zero, List.set_cons_succ]
        refine wpAnyH_take (i := 6) (oi := ⟨some 23, _, _, _, _, _⟩) (v := ?vara4_56) rfl (by kernel_rfl) (by kernel_rfl) (by kernel_rfl) (fun _ _ _ h => h) (Or.inl ⟨by rfl, ?yara4_56⟩) ⟨RL_ara4_55_1.out, B_ara4_55_1.out⟩ ?rara4_56
        case yara4_56 =>
          rintro w' hSw
          go_simp
          try with_reducible rfl
        try simp only [Act.put, List.setIfInBounds_toArray, List.set_cons_zero, List.set_cons_succ]
        refine wpAnyH_ready (rs := [14, 15]) (by kernel_rfl) (by simp) ?_
        refine (AllReadyH.cons rfl (fun K hK => ?_) (AllReadyH.cons rfl (fun K hK => ?_) AllReadyH.nil))
        · try rw [if_pos (by rfl)]
          go_simp
          have hltara4_57_1_0 : w.heap.size < Vara4_55_1.heap.size := RL_ara4_55_1.out.lt
          have hltara4_57_1_1 : Da4.heap.size < Vara4_55_1.heap.size := P2_ara4_55_1.out.lt
          have hltara4_57_1_2 : Vara4_53_1.heap.size < Vara4_55_1.heap.size := P1_ara4_55_1.out.lt
          have RL_ara4_57_1 := Lib.hid (RL_ara4_55_1.out.alloc zS)
          have P2_ara4_57_1 := Lib.hid (P2_ara4_55_1.out.alloc zS)
          have P1_ara4_57_1 := Lib.hid (P1_ara4_55_1.out.alloc zS)
          have S1_ara4_57_1 := Lib.hid (row_last Vara4_55_1 (Vara4_55_1.heap.size) 66 [.slice none 0 0, .int .i64 0, .int .i64 0, .int .i64 0, .int .i64 0] (by simp))
          have B_ara4_57_1 := Lib.hid (B_ara4_55_1.out.alloc B_ara4_55_1.out.size zS)
          clear RL_ara4_55_1 P2_ara4_55_1 P1_ara4_55_1 B_ara4_55_1
          generalize (Vara4_55_1.alloc zS) = Vara4_57_1 at RL_ara4_57_1 P2_ara4_57_1 P1_ara4_57_1 S1_ara4_57_1 B_ara4_57_1 ⊢
          refine hK _ _ ⟨RL_ara4_57_1.out, B_ara4_57_1.out⟩ (fun _ => ?_)
          clear hK K
          try simp only [Act.put, List.setIfInBounds_toArray, List.set_cons_zero, List.set_cons_succ]
          refine wpAnyH_ready (rs := [15]) (by kernel_rfl) (by simp) ?_
          refine (AllReadyH.cons rfl (fun K hK => ?_) AllReadyH.nil)
          try rw [if_pos (by rfl)]
          go_simp
          have hltara4_58_1_0 : w.heap.size < Vara4_57_1.heap.size := RL_ara4_57_1.out.lt
          have hltara4_58_1_1 : Da4.heap.size < Vara4_57_1.heap.size := P2_ara4_57_1.out.lt
          have hltara4_58_1_2 : Vara4_53_1.heap.size < Vara4_57_1.heap.size := P1_ara4_57_1.out.lt
          have hltara4_58_1_3 : Vara4_55_1.heap.size < Vara4_57_1.heap.size := S1_ara4_57_1.out.lt
          have RL_ara4_58_1 := Lib.hid (RL_ara4_57_1.out.alloc zS)
          have P2_ara4_58_1 := Lib.hid (P2_ara4_57_1.out.alloc zS)
          have P1_ara4_58_1 := Lib.hid (P1_ara4_57_1.out.alloc zS)
          have S1_ara4_58_1 := Lib.hid (S1_ara4_57_1.out.alloc zS)
          have S2_ara4_58_1 := Lib.hid (row_last Vara4_57_1 (Vara4_57_1.heap.size) 66 [.slice none 0 0, .int .i64 0, .int .i64 0, .int .i64 0, .int .i64 0] (by simp))
          have B_ara4_58_1 := Lib.hid (B_ara4_57_1.out.alloc B_ara4_57_1.out.size zS)
          clear RL_ara4_57_1 P2_ara4_57_1 P1_ara4_57_1 S1_ara4_57_1 B_ara4_57_1
          generalize (Vara4_57_1.alloc zS) = Vara4_58_1 at RL_ara4_58_1 P2_ara4_58_1 P1_ara4_58_1 S1_ara4_58_1 S2_ara4_58_1 B_ara4_58_1 ⊢
          refine hK _ _ ⟨RL_ara4_58_1.out, B_ara4_58_1.out⟩ (fun _ => ?_)
          clear hK K
          try simp only [Act.put, List.setIfInBounds_toArray, List.set_cons_zero, List.set_cons_succ]
          refine wpAnyH_ready (rs := [16]) (by kernel_rfl) (by simp) ?_
          refine (AllReadyH.cons rfl (fun K hK => ?_) AllReadyH.nil)
          obtain ⟨k0, k1, k2, k3, k4, f0, f1, f2, f3, f4⟩ := row5 S1_ara4_58_1.out
          rw [if_pos (by rfl)]
          go_simp
          clear f0 k0 f1 k1 f2 k2 f3 k3 f4 k4
          change K _ (st5 Vara4_58_1 (Vara4_55_1.heap.size) (.slice (some ⟨Vara4_53_1.heap.size, 0, none⟩) 1 1) (.int .i64 x.x0) (.int .i64 x.x1) (.int .i64 x.y0) (.int .i64 x.y1))
          have RL_sara4_59 := Lib.hid (st5_far (g := Vara4_55_1.heap.size) RL_ara4_58_1.out (by omega) (.slice (some ⟨Vara4_53_1.heap.size, 0, none⟩) 1 1) (.int .i64 x.x0) (.int .i64 x.x1) (.int .i64 x.y0) (.int .i64 x.y1))
          have P2_sara4_59 := Lib.hid (st5_far (g := Vara4_55_1.heap.size) P2_ara4_58_1.out (by omega) (.slice (some ⟨Vara4_53_1.heap.size, 0, none⟩) 1 1) (.int .i64 x.x0) (.int .i64 x.x1) (.int .i64 x.y0) (.int .i64 x.y1))
          have P1_sara4_59 := Lib.hid (st5_far (g := Vara4_55_1.heap.size) P1_ara4_58_1.out (by omega) (.slice (some ⟨Vara4_53_1.heap.size, 0, none⟩) 1 1) (.int .i64 x.x0) (.int .i64 x.x1) (.int .i64 x.y0) (.int .i64 x.y1))
          have S1_sara4_59 := Lib.hid (st5_row S1_ara4_58_1.out (.slice (some ⟨Vara4_53_1.heap.size, 0, none⟩) 1 1) (.int .i64 x.x0) (.int .i64 x.x1) (.int .i64 x.y0) (.int .i64 x.y1))
          have S2_sara4_59 := Lib.hid (st5_far (g := Vara4_55_1.heap.size) S2_ara4_58_1.out (by omega) (.slice (some ⟨Vara4_53_1.heap.size, 0, none⟩) 1 1) (.int .i64 x.x0) (.int .i64 x.x1) (.int .i64 x.y0) (.int .i64 x.y1))
          have B_sara4_59 := Lib.hid (st5_below (g := Vara4_55_1.heap.size) B_ara4_58_1.out (by omega) (.slice (some ⟨Vara4_53_1.heap.size, 0, none⟩) 1 1) (.int .i64 x.x0) (.int .i64 x.x1) (.int .i64 x.y0) (.int .i64 x.y1))
          clear RL_ara4_58_1 P2_ara4_58_1 P1_ara4_58_1 S1_ara4_58_1 S2_ara4_58_1 B_ara4_58_1
          generalize st5 Vara4_58_1 (Vara4_55_1.heap.size) (.slice (some ⟨Vara4_53_1.heap.size, 0, none⟩) 1 1) (.int .i64 x.x0) (.int .i64 x.x1) (.int .i64 x.y0) (.int .i64 x.y1) = Xara4_59 at RL_sara4_59 P2_sara4_59 P1_sara4_59 S1_sara4_59 S2_sara4_59 B_sara4_59 ⊢
          refine hK _ _ ⟨RL_sara4_59.out, B_sara4_59.out⟩ (fun _ => ?_)
          clear hK K
          try simp only [Act.put, List.setIfInBounds_toArray, List.set_cons_zero, List.set_cons_succ]
          refine wpAnyH_ready (rs := [17]) (by kernel_rfl) (by simp) ?_
          refine (AllReadyH.cons rfl (fun K hK => ?_) AllReadyH.nil)
          obtain ⟨k0, k1, k2, k3, k4, f0, f1, f2, f3, f4⟩ := row5 S2_sara4_59.out
          rw [if_pos (by rfl)]
          go_simp
          clear f0 k0 f1 k1 f2 k2 f3 k3 f4 k4
          change K _ (st5 Xara4_59 (Vara4_57_1.heap.size) (.slice (some ⟨Da4.heap.size, 0, none⟩) 1 1) (.int .i64 y.x0) (.int .i64 y.x1) (.int .i64 y.y0) (.int .i64 y.y1))
          have RL_sara4_60 := Lib.hid (st5_far (g := Vara4_57_1.heap.size) RL_sara4_59.out (by omega) (.slice (some ⟨Da4.heap.size, 0, none⟩) 1 1) (.int .i64 y.x0) (.int .i64 y.x1) (.int .i64 y.y0) (.int .i64 y.y1))
          have P2_sara4_60 := Lib.hid (st5_far (g := Vara4_57_1.heap.size) P2_sara4_59.out (by omega) (.slice (some ⟨Da4.heap.size, 0, none⟩) 1 1) (.int .i64 y.x0) (.int .i64 y.x1) (.int .i64 y.y0) (.int .i64 y.y1))
          have P1_sara4_60 := Lib.hid (st5_far (g := Vara4_57_1.heap.size) P1_sara4_59.out (by omega) (.slice (some ⟨Da4.heap.size, 0, none⟩) 1 1) (.int .i64 y.x0) (.int .i64 y.x1) (.int .i64 y.y0) (.int .i64 y.y1))
          have S1_sara4_60 := Lib.hid (st5_far (g := Vara4_57_1.heap.size) S1_sara4_59.out (by omega) (.slice (some ⟨Da4.heap.size, 0, none⟩) 1 1) (.int .i64 y.x0) (.int .i64 y.x1) (.int .i64 y.y0) (.int .i64 y.y1))
          have S2_sara4_60 := Lib.hid (st5_row S2_sara4_59.out (.slice (some ⟨Da4.heap.size, 0, none⟩) 1 1) (.int .i64 y.x0) (.int .i64 y.x1) (.int .i64 y.y0) (.int .i64 y.y1))
          have B_sara4_60 := Lib.hid (st5_below (g := Vara4_57_1.heap.size) B_sara4_59.out (by omega) (.slice (some ⟨Da4.heap.size, 0, none⟩) 1 1) (.int .i64 y.x0) (.int .i64 y.x1) (.int .i64 y.y0) (.int .i64 y.y1))
          clear RL_sara4_59 P2_sara4_59 P1_sara4_59 S1_sara4_59 S2_sara4_59 B_sara4_59
          generalize st5 Xara4_59 (Vara4_57_1.heap.size) (.slice (some ⟨Da4.heap.size, 0, none⟩) 1 1) (.int .i64 y.x0) (.int .i64 y.x1) (.int .i64 y.y0) (.int .i64 y.y1) = Xara4_60 at RL_sara4_60 P2_sara4_60 P1_sara4_60 S1_sara4_60 S2_sara4_60 B_sara4_60 ⊢
          refine hK _ _ ⟨RL_sara4_60.out, B_sara4_60.out⟩ (fun _ => ?_)
          clear hK K
          try simp only [Act.put, List.setIfInBounds_toArray, List.set_cons_zero, List.set_cons_succ]
          refine wpAnyH_done (by kernel_rfl) ?_ _
          go_wp2_with fail
          go_meet
          exact ⟨_, _, _, _, rfl, rfl, RL_sara4_60.out, S1_sara4_60.out, S2_sara4_60.out, P1_sara4_60.out, P2_sara4_60.out, by omega, by omega, by omega, by omega, by omega, by omega, B_sara4_60.out⟩
        · try rw [if_pos (by rfl)]
          go_simp
          have hltara4_61_1_0 : w.heap.size < Vara4_55_1.heap.size := RL_ara4_55_1.out.lt
          have hltara4_61_1_1 : Da4.heap.size < Vara4_55_1.heap.size := P2_ara4_55_1.out.lt
          have hltara4_61_1_2 : Vara4_53_1.heap.size < Vara4_55_1.heap.size := P1_ara4_55_1.out.lt
          have RL_ara4_61_1 := Lib.hid (RL_ara4_55_1.out.alloc zS)
          have P2_ara4_61_1 := Lib.hid (P2_ara4_55_1.out.alloc zS)
          have P1_ara4_61_1 := Lib.hid (P1_ara4_55_1.out.alloc zS)
          have S2_ara4_61_1 := Lib.hid (row_last Vara4_55_1 (Vara4_55_1.heap.size) 66 [.slice none 0 0, .int .i64 0, .int .i64 0, .int .i64 0, .int .i64 0] (by simp))
          have B_ara4_61_1 := Lib.hid (B_ara4_55_1.out.alloc B_ara4_55_1.out.size zS)
          clear RL_ara4_55_1 P2_ara4_55_1 P1_ara4_55_1 B_ara4_55_1
          generalize (Vara4_55_1.alloc zS) = Vara4_61_1 at RL_ara4_61_1 P2_ara4_61_1 P1_ara4_61_1 S2_ara4_61_1 B_ara4_61_1 ⊢
          refine hK _ _ ⟨RL_ara4_61_1.out, B_ara4_61_1.out⟩ (fun _ => ?_)
          clear hK K
          try simp only [Act.put, List.setIfInBounds_toArray, List.set_cons_zero, List.set_cons_succ]
          refine wpAnyH_ready (rs := [14]) (by kernel_rfl) (by simp) ?_
          refine (AllReadyH.cons rfl (fun K hK => ?_) AllReadyH.nil)
          try rw [if_pos (by rfl)]
          go_simp
          have hltara4_62_1_0 : w.heap.size < Vara4_61_1.heap.size := RL_ara4_61_1.out.lt
          have hltara4_62_1_1 : Da4.heap.size < Vara4_61_1.heap.size := P2_ara4_61_1.out.lt
          have hltara4_62_1_2 : Vara4_53_1.heap.size < Vara4_61_1.heap.size := P1_ara4_61_1.out.lt
          have hltara4_62_1_3 : Vara4_55_1.heap.size < Vara4_61_1.heap.size := S2_ara4_61_1.out.lt
          have RL_ara4_62_1 := Lib.hid (RL_ara4_61_1.out.alloc zS)
          have P2_ara4_62_1 := Lib.hid (P2_ara4_61_1.out.alloc zS)
          have P1_ara4_62_1 := Lib.hid (P1_ara4_61_1.out.alloc zS)
          have S2_ara4_62_1 := Lib.hid (S2_ara4_61_1.out.alloc zS)
          have S1_ara4_62_1 := Lib.hid (row_last Vara4_61_1 (Vara4_61_1.heap.size) 66 [.slice none 0 0, .int .i64 0, .int .i64 0, .int .i64 0, .int .i64 0] (by simp))
          have B_ara4_62_1 := Lib.hid (B_ara4_61_1.out.alloc B_ara4_61_1.out.size zS)
          clear RL_ara4_61_1 P2_ara4_61_1 P1_ara4_61_1 S2_ara4_61_1 B_ara4_61_1
          generalize (Vara4_61_1.alloc zS) = Vara4_62_1 at RL_ara4_62_1 P2_ara4_62_1 P1_ara4_62_1 S2_ara4_62_1 S1_ara4_62_1 B_ara4_62_1 ⊢
          refine hK _ _ ⟨RL_ara4_62_1.out, B_ara4_62_1.out⟩ (fun _ => ?_)
          clear hK K
          try simp only [Act.put, List.setIfInBounds_toArray, List.set_cons_zero, List.set_cons_succ]
          refine wpAnyH_ready (rs := [16]) (by kernel_rfl) (by simp) ?_
          refine (AllReadyH.cons rfl (fun K hK => ?_) AllReadyH.nil)
          obtain ⟨k0, k1, k2, k3, k4, f0, f1, f2, f3, f4⟩ := row5 S1_ara4_62_1.out
          rw [if_pos (by rfl)]
          go_simp
          clear f0 k0 f1 k1 f2 k2 f3 k3 f4 k4
          change K _ (st5 Vara4_62_1 (Vara4_61_1.heap.size) (.slice (some ⟨Vara4_53_1.heap.size, 0, none⟩) 1 1) (.int .i64 x.x0) (.int .i64 x.x1) (.int .i64 x.y0) (.int .i64 x.y1))
          have RL_sara4_63 := Lib.hid (st5_far (g := Vara4_61_1.heap.size) RL_ara4_62_1.out (by omega) (.slice (some ⟨Vara4_53_1.heap.size, 0, none⟩) 1 1) (.int .i64 x.x0) (.int .i64 x.x1) (.int .i64 x.y0) (.int .i64 x.y1))
          have P2_sara4_63 := Lib.hid (st5_far (g := Vara4_61_1.heap.size) P2_ara4_62_1.out (by omega) (.slice (some ⟨Vara4_53_1.heap.size, 0, none⟩) 1 1) (.int .i64 x.x0) (.int .i64 x.x1) (.int .i64 x.y0) (.int .i64 x.y1))
          have P1_sara4_63 := Lib.hid (st5_far (g := Vara4_61_1.heap.size) P1_ara4_62_1.out (by omega) (.slice (some ⟨Vara4_53_1.heap.size, 0, none⟩) 1 1) (.int .i64 x.x0) (.int .i64 x.x1) (.int .i64 x.y0) (.int .i64 x.y1))
          have S2_sara4_63 := Lib.hid (st5_far (g := Vara4_61_1.heap.size) S2_ara4_62_1.out (by omega) (.slice (some ⟨Vara4_53_1.heap.size, 0, none⟩) 1 1) (.int .i64 x.x0) (.int .i64 x.x1) (.int .i64 x.y0) (.int .i64 x.y1))
          have S1_sara4_63 := Lib.hid (st5_row S1_ara4_62_1.out (.slice (some ⟨Vara4_53_1.heap.size, 0, none⟩) 1 1) (.int .i64 x.x0) (.int .i64 x.x1) (.int .i64 x.y0) (.int .i64 x.y1))
          have B_sara4_63 := Lib.hid (st5_below (g := Vara4_61_1.heap.size) B_ara4_62_1.out (by omega) (.slice (some ⟨Vara4_53_1.heap.size, 0, none⟩) 1 1) (.int .i64 x.x0) (.int .i64 x.x1) (.int .i64 x.y0) (.int .i64 x.y1))
          clear RL_ara4_62_1 P2_ara4_62_1 P1_ara4_62_1 S2_ara4_62_1 S1_ara4_62_1 B_ara4_62_1
          generalize st5 Vara4_62_1 (Vara4_61_1.heap.size) (.slice (some ⟨Vara4_53_1.heap.size, 0, none⟩) 1 1) (.int .i64 x.x0) (.int .i64 x.x1) (.int .i64 x.y0) (.int .i64 x.y1) = Xara4_63 at RL_sara4_63 P2_sara4_63 P1_sara4_63 S2_sara4_63 S1_sara4_63 B_sara4_63 ⊢
          refine hK _ _ ⟨RL_sara4_63.out, B_sara4_63.out⟩ (fun _ => ?_)
          clear hK K
          try simp only [Act.put, List.setIfInBounds_toArray, List.set_cons_zero, List.set_cons_succ]
          refine wpAnyH_ready (rs := [17]) (by kernel_rfl) (by simp) ?_
          refine (AllReadyH.cons rfl (fun K hK => ?_) AllReadyH.nil)
          obtain ⟨k0, k1, k2, k3, k4, f0, f1, f2, f3, f4⟩ := row5 S2_sara4_63.out
          rw [if_pos (by rfl)]
          go_simp
          clear f0 k0 f1 k1 f2 k2 f3 k3 f4 k4
          change K _ (st5 Xara4_63 (Vara4_55_1.heap.size) (.slice (some ⟨Da4.heap.size, 0, none⟩) 1 1) (.int .i64 y.x0) (.int .i64 y.x1) (.int .i64 y.y0) (.int .i64 y.y1))
          have RL_sara4_64 := Lib.hid (st5_far (g := Vara4_55_1.heap.size) RL_sara4_63.out (by omega) (.slice (some ⟨Da4.heap.size, 0, none⟩) 1 1) (.int .i64 y.x0) (.int .i64 y.x1) (.int .i64 y.y0) (.int .i64 y.y1))
          have P2_sara4_64 := Lib.hid (st5_far (g := Vara4_55_1.heap.size) P2_sara4_63.out (by omega) (.slice (some ⟨Da4.heap.size, 0, none⟩) 1 1) (.int .i64 y.x0) (.int .i64 y.x1) (.int .i64 y.y0) (.int .i64 y.y1))
          have P1_sara4_64 := Lib.hid (st5_far (g := Vara4_55_1.heap.size) P1_sara4_63.out (by omega) (.slice (some ⟨Da4.heap.size, 0, none⟩) 1 1) (.int .i64 y.x0) (.int .i64 y.x1) (.int .i64 y.y0) (.int .i64 y.y1))
          have S2_sara4_64 := Lib.hid (st5_row S2_sara4_63.out (.slice (some ⟨Da4.heap.size, 0, none⟩) 1 1) (.int .i64 y.x0) (.int .i64 y.x1) (.int .i64 y.y0) (.int .i64 y.y1))
          have S1_sara4_64 := Lib.hid (st5_far (g := Vara4_55_1.heap.size) S1_sara4_63.out (by omega) (.slice (some ⟨Da4.heap.size, 0, none⟩) 1 1) (.int .i64 y.x0) (.int .i64 y.x1) (.int .i64 y.y0) (.int .i64 y.y1))
          have B_sara4_64 := Lib.hid (st5_below (g := Vara4_55_1.heap.size) B_sara4_63.out (by omega) (.slice (some ⟨Da4.heap.size, 0, none⟩) 1 1) (.int .i64 y.x0) (.int .i64 y.x1) (.int .i64 y.y0) (.int .i64 y.y1))
          clear RL_sara4_63 P2_sara4_63 P1_sara4_63 S2_sara4_63 S1_sara4_63 B_sara4_63
          generalize st5 Xara4_63 (Vara4_55_1.heap.size) (.slice (some ⟨Da4.heap.size, 0, none⟩) 1 1) (.int .i64 y.x0) (.int .i64 y.x1) (.int .i64 y.y0) (.int .i64 y.y1) = Xara4_64 at RL_sara4_64 P2_sara4_64 P1_sara4_64 S2_sara4_64 S1_sara4_64 B_sara4_64 ⊢
          refine hK _ _ ⟨RL_sara4_64.out, B_sara4_64.out⟩ (fun _ => ?_)
          clear hK K
          try simp only [Act.put, List.setIfInBounds_toArray, List.set_cons_zero, List.set_cons_succ]
          refine wpAnyH_done (by kernel_rfl) ?_ _
          go_wp2_with fail
          go_meet
          exact ⟨_, _, _, _, rfl, rfl, RL_sara4_64.out, S1_sara4_64.out, S2_sara4_64.out, P1_sara4_64.out, P2_sara4_64.out, by omega, by omega, by omega, by omega, by omega, by omega, B_sara4_64.out⟩
      · try rw [if_pos (by rfl)]
        go_simp
        have hltara4_65_1_0 : w.heap.size < Vara4_53_1.heap.size := RL_ara4_53_1.out.lt
        have hltara4_65_1_1 : Da4.heap.size < Vara4_53_1.heap.size := P2_ara4_53_1.out.lt
        have RL_ara4_65_1 := Lib.hid (RL_ara4_53_1.out.alloc zS)
        have P2_ara4_65_1 := Lib.hid (P2_ara4_53_1.out.alloc zS)
        have S1_ara4_65_1 := Lib.hid (row_last Vara4_53_1 (Vara4_53_1.heap.size) 66 [.slice none 0 0, .int .i64 0, .int .i64 0, .int .i64 0, .int .i64 0] (by simp))
        have B_ara4_65_1 := Lib.hid (B_ara4_53_1.out.alloc B_ara4_53_1.out.size zS)
        clear RL_ara4_53_1 P2_ara4_53_1 B_ara4_53_1
        generalize (Vara4_53_1.alloc zS) = Vara4_65_1 at RL_ara4_65_1 P2_ara4_65_1 S1_ara4_65_1 B_ara4_65_1 ⊢
        refine hK _ _ ⟨RL_ara4_65_1.out, B_ara4_65_1.out⟩ (fun _ => ?_)
        clear hK K
        try simp only [Act.put, List.setIfInBounds_toArray, List.set_cons_zero, List.set_cons_succ]
        refine wpAnyH_ready (rs := [1, 15]) (by kernel_rfl) (by simp) ?_
        refine (AllReadyH.cons rfl (fun K hK => ?_) (AllReadyH.cons rfl (fun K hK => ?_) AllReadyH.nil))
        · try rw [if_pos (by rfl)]
          go_simp
          have hltara4_66_1_0 : w.heap.size < Vara4_65_1.heap.size := RL_ara4_65_1.out.lt
          have hltara4_66_1_1 : Da4.heap.size < Vara4_65_1.heap.size := P2_ara4_65_1.out.lt
          have hltara4_66_1_2 : Vara4_53_1.heap.size < Vara4_65_1.heap.size := S1_ara4_65_1.out.lt
          have RL_ara4_66_1 := Lib.hid (RL_ara4_65_1.out.alloc (zI i))
          have P2_ara4_66_1 := Lib.hid (P2_ara4_65_1.out.alloc (zI i))
          have S1_ara4_66_1 := Lib.hid (S1_ara4_65_1.out.alloc (zI i))
          have P1_ara4_66_1 := Lib.hid (row_last Vara4_65_1 (Vara4_65_1.heap.size) 3 [.int .i64 (i : Int)] (by simp))
          have B_ara4_66_1 := Lib.hid (B_ara4_65_1.out.alloc B_ara4_65_1.out.size (zI i))
          clear RL_ara4_65_1 P2_ara4_65_1 S1_ara4_65_1 B_ara4_65_1
          generalize (Vara4_65_1.alloc (zI i)) = Vara4_66_1 at RL_ara4_66_1 P2_ara4_66_1 S1_ara4_66_1 P1_ara4_66_1 B_ara4_66_1 ⊢
          refine hK _ _ ⟨RL_ara4_66_1.out, B_ara4_66_1.out⟩ (fun _ => ?_)
          clear hK K
          try simp only [Act.put, List.setIfInBounds_toArray, List.set_cons_zero, List.set_cons_succ]
          refine wpAnyH_take (i := 6) (oi := ⟨some 23, _, _, _, _, _⟩) (v := ?vara4_67) rfl (by kernel_rfl) (by kernel_rfl) (by kernel_rfl) (fun _ _ _ h => h) (Or.inl ⟨by rfl, ?yara4_67⟩) ⟨RL_ara4_66_1.out, B_ara4_66_1.out⟩ ?rara4_67
          case yara4_67 =>
            rintro w' hSw
            go_simp
            try with_reducible rfl
          try simp only [Act.put, List.setIfInBounds_toArray, List.set_cons_zero, List.set_cons_succ]
          refine wpAnyH_ready (rs := [15]) (by kernel_rfl) (by simp) ?_
          refine (AllReadyH.cons rfl (fun K hK => ?_) AllReadyH.nil)
          try rw [if_pos (by rfl)]
          go_simp
          have hltara4_68_1_0 : w.heap.size < Vara4_66_1.heap.size := RL_ara4_66_1.out.lt
          have hltara4_68_1_1 : Da4.heap.size < Vara4_66_1.heap.size := P2_ara4_66_1.out.lt
          have hltara4_68_1_2 : Vara4_53_1.heap.size < Vara4_66_1.heap.size := S1_ara4_66_1.out.lt
          have hltara4_68_1_3 : Vara4_65_1.heap.size < Vara4_66_1.heap.size := P1_ara4_66_1.out.lt
          have RL_ara4_68_1 := Lib.hid (RL_ara4_66_1.out.alloc zS)
          have P2_ara4_68_1 := Lib.hid (P2_ara4_66_1.out.alloc zS)
          have S1_ara4_68_1 := Lib.hid (S1_ara4_66_1.out.alloc zS)
          have P1_ara4_68_1 := Lib.hid (P1_ara4_66_1.out.alloc zS)
          have S2_ara4_68_1 := Lib.hid (row_last Vara4_66_1 (Vara4_66_1.heap.size) 66 [.slice none 0 0, .int .i64 0, .int .i64 0, .int .i64 0, .int .i64 0] (by simp))
          have B_ara4_68_1 := Lib.hid (B_ara4_66_1.out.alloc B_ara4_66_1.out.size zS)
          clear RL_ara4_66_1 P2_ara4_66_1 S1_ara4_66_1 P1_ara4_66_1 B_ara4_66_1
          generalize (Vara4_66_1.alloc zS) = Vara4_68_1 at RL_ara4_68_1 P2_ara4_68_1 S1_ara4_68_1 P1_ara4_68_1 S2_ara4_68_1 B_ara4_68_1 ⊢
          refine hK _ _ ⟨RL_ara4_68_1.out, B_ara4_68_1.out⟩ (fun _ => ?_)
          clear hK K
          try simp only [Act.put, List.setIfInBounds_toArray, List.set_cons_zero, List.set_cons_succ]
          refine wpAnyH_ready (rs := [16]) (by kernel_rfl) (by simp) ?_
          refine (AllReadyH.cons rfl (fun K hK => ?_) AllReadyH.nil)
          obtain ⟨k0, k1, k2, k3, k4, f0, f1, f2, f3, f4⟩ := row5 S1_ara4_68_1.out
          rw [if_pos (by rfl)]
          go_simp
          clear f0 k0 f1 k1 f2 k2 f3 k3 f4 k4
          change K _ (st5 Vara4_68_1 (Vara4_53_1.heap.size) (.slice (some ⟨Vara4_65_1.heap.size, 0, none⟩) 1 1) (.int .i64 x.x0) (.int .i64 x.x1) (.int .i64 x.y0) (.int .i64 x.y1))
          have RL_sara4_69 := Lib.hid (st5_far (g := Vara4_53_1.heap.size) RL_ara4_68_1.out (by omega) (.slice (some ⟨Vara4_65_1.heap.size, 0, none⟩) 1 1) (.int .i64 x.x0) (.int .i64 x.x1) (.int .i64 x.y0) (.int .i64 x.y1))
          have P2_sara4_69 := Lib.hid (st5_far (g := Vara4_53_1.heap.size) P2_ara4_68_1.out (by omega) (.slice (some ⟨Vara4_65_1.heap.size, 0, none⟩) 1 1) (.int .i64 x.x0) (.int .i64 x.x1) (.int .i64 x.y0) (.int .i64 x.y1))
          have S1_sara4_69 := Lib.hid (st5_row S1_ara4_68_1.out (.slice (some ⟨Vara4_65_1.heap.size, 0, none⟩) 1 1) (.int .i64 x.x0) (.int .i64 x.x1) (.int .i64 x.y0) (.int .i64 x.y1))
          have P1_sara4_69 := Lib.hid (st5_far (g := Vara4_53_1.heap.size) P1_ara4_68_1.out (by omega) (.slice (some ⟨Vara4_65_1.heap.size, 0, none⟩) 1 1) (.int .i64 x.x0) (.int .i64 x.x1) (.int .i64 x.y0) (.int .i64 x.y1))
          have S2_sara4_69 := Lib.hid (st5_far (g := Vara4_53_1.heap.size) S2_ara4_68_1.out (by omega) (.slice (some ⟨Vara4_65_1.heap.size, 0, none⟩) 1 1) (.int .i64 x.x0) (.int .i64 x.x1) (.int .i64 x.y0) (.int .i64 x.y1))
          have B_sara4_69 := Lib.hid (st5_below (g := Vara4_53_1.heap.size) B_ara4_68_1.out (by omega) (.slice (some ⟨Vara4_65_1.heap.size, 0, none⟩) 1 1) (.int .i64 x.x0) (.int .i64 x.x1) (.int .i64 x.y0) (.int .i64 x.y1))
          clear RL_ara4_68_1 P2_ara4_68_1 S1_ara4_68_1 P1_ara4_68_1 S2_ara4_68_1 B_ara4_68_1
          generalize st5 Vara4_68_1 (Vara4_53_1.heap.size) (.slice (some ⟨Vara4_65_1.heap.size, 0, none⟩) 1 1) (.int .i64 x.x0) (.int .i64 x.x1) (.int .i64 x.y0) (.int .i64 x.y1) = Xara4_69 at RL_sara4_69 P2_sara4_69 S1_sara4_69 P1_sara4_69 S2_sara4_69 B_sara4_69 ⊢
          refine hK _ _ ⟨RL_sara4_69.out, B_sara4_69.out⟩ (fun _ => ?_)
          clear hK K
          try simp only [Act.put, List.setIfInBounds_toArray, List.set_cons_zero, List.set_cons_succ]
          refine wpAnyH_ready (rs := [17]) (by kernel_rfl) (by simp) ?_
          refine (AllReadyH.cons rfl (fun K hK => ?_) AllReadyH.nil)
          obtain ⟨k0, k1, k2, k3, k4, f0, f1, f2, f3, f4⟩ := row5 S2_sara4_69.out
          rw [if_pos (by rfl)]
          go_simp
          clear f0 k0 f1 k1 f2 k2 f3 k3 f4 k4
          change K _ (st5 Xara4_69 (Vara4_66_1.heap.size) (.slice (some ⟨Da4.heap.size, 0, none⟩) 1 1) (.int .i64 y.x0) (.int .i64 y.x1) (.int .i64 y.y0) (.int .i64 y.y1))
          have RL_sara4_70 := Lib.hid (st5_far (g := Vara4_66_1.heap.size) RL_sara4_69.out (by omega) (.slice (some ⟨Da4.heap.size, 0, none⟩) 1 1) (.int .i64 y.x0) (.int .i64 y.x1) (.int .i64 y.y0) (.int .i64 y.y1))
          have P2_sara4_70 := Lib.hid (st5_far (g := Vara4_66_1.heap.size) P2_sara4_69.out (by omega) (.slice (some ⟨Da4.heap.size, 0, none⟩) 1 1) (.int .i64 y.x0) (.int .i64 y.x1) (.int .i64 y.y0) (.int .i64 y.y1))
          have S1_sara4_70 := Lib.hid (st5_far (g := Vara4_66_1.heap.size) S1_sara4_69.out (by omega) (.slice (some ⟨Da4.heap.size, 0, none⟩) 1 1) (.int .i64 y.x0) (.int .i64 y.x1) (.int .i64 y.y0) (.int .i64 y.y1))
          have P1_sara4_70 := Lib.hid (st5_far (g := Vara4_66_1.heap.size) P1_sara4_69.out (by omega) (.slice (some ⟨Da4.heap.size, 0, none⟩) 1 1) (.int .i64 y.x0) (.int .i64 y.x1) (.int .i64 y.y0) (.int .i64 y.y1))
          have S2_sara4_70 := Lib.hid (st5_row S2_sara4_69.out (.slice (some ⟨Da4.heap.size, 0, none⟩) 1 1) (.int .i64 y.x0) (.int .i64 y.x1) (.int .i64 y.y0) (.int .i64 y.y1))
          have B_sara4_70 := Lib.hid (st5_below (g := Vara4_66_1.heap.size) B_sara4_69.out (by omega) (.slice (some ⟨Da4.heap.size, 0, none⟩) 1 1) (.int .i64 y.x0) (.int .i64 y.x1) (.int .i64 y.y0) (.int .i64 y.y1))
          clear RL_sara4_69 P2_sara4_69 S1_sara4_69 P1_sara4_69 S2_sara4_69 B_sara4_69
          generalize st5 Xara4_69 (Vara4_66_1.heap.size) (.slice (some ⟨Da4.heap.size, 0, none⟩) 1 1) (.int .i64 y.x0) (.int .i64 y.x1) (.int .i64 y.y0) (.int .i64 y.y1) = Xara4_70 at RL_sara4_70 P2_sara4_70 S1_sara4_70 P1_sara4_70 S2_sara4_70 B_sara4_70 ⊢
          refine hK _ _ ⟨RL_sara4_70.out, B_sara4_70.out⟩ (fun _ => ?_)
          clear hK K
          try simp only [Act.put, List.setIfInBounds_toArray, List.set_cons_zero, List.set_cons_succ]
          refine wpAnyH_done (by kernel_rfl) ?_ _
          go_wp2_with fail
          go_meet
          exact ⟨_, _, _, _, rfl, rfl, RL_sara4_70.out, S1_sara4_70.out, S2_sara4_70.out, P1_sara4_70.out, P2_sara4_70.out, by omega, by omega, by omega, by omega, by omega, by omega, B_sara4_70.out⟩
        · try rw [if_pos (by rfl)]
          go_simp
          have hltara4_71_1_0 : w.heap.size < Vara4_65_1.heap.size := RL_ara4_65_1.out.lt
          have hltara4_71_1_1 : Da4.heap.size < Vara4_65_1.heap.size := P2_ara4_65_1.out.lt
          have hltara4_71_1_2 : Vara4_53_1.heap.size < Vara4_65_1.heap.size := S1_ara4_65_1.out.lt
          have RL_ara4_71_1 := Lib.hid (RL_ara4_65_1.out.alloc zS)
          have P2_ara4_71_1 := Lib.hid (P2_ara4_65_1.out.alloc zS)
          have S1_ara4_71_1 := Lib.hid (S1_ara4_65_1.out.alloc zS)
          have S2_ara4_71_1 := Lib.hid (row_last Vara4_65_1 (Vara4_65_1.heap.size) 66 [.slice none 0 0, .int .i64 0, .int .i64 0, .int .i64 0, .int .i64 0] (by simp))
          have B_ara4_71_1 := Lib.hid (B_ara4_65_1.out.alloc B_ara4_65_1.out.size zS)
          clear RL_ara4_65_1 P2_ara4_65_1 S1_ara4_65_1 B_ara4_65_1
          generalize (Vara4_65_1.alloc zS) = Vara4_71_1 at RL_ara4_71_1 P2_ara4_71_1 S1_ara4_71_1 S2_ara4_71_1 B_ara4_71_1 ⊢
          refine hK _ _ ⟨RL_ara4_71_1.out, B_ara4_71_1.out⟩ (fun _ => ?_)
          clear hK K
          try simp only [Act.put, List.setIfInBounds_toArray, List.set_cons_zero, List.set_cons_succ]
          refine wpAnyH_ready (rs := [1]) (by kernel_rfl) (by simp) ?_
          refine (AllReadyH.cons rfl (fun K hK => ?_) AllReadyH.nil)
          try rw [if_pos (by rfl)]
          go_simp
          have hltara4_72_1_0 : w.heap.size < Vara4_71_1.heap.size := RL_ara4_71_1.out.lt
          have hltara4_72_1_1 : Da4.heap.size < Vara4_71_1.heap.size := P2_ara4_71_1.out.lt
          have hltara4_72_1_2 : Vara4_53_1.heap.size < Vara4_71_1.heap.size := S1_ara4_71_1.out.lt
          have hltara4_72_1_3 : Vara4_65_1.heap.size < Vara4_71_1.heap.size := S2_ara4_71_1.out.lt
          have RL_ara4_72_1 := Lib.hid (RL_ara4_71_1.out.alloc (zI i))
          have P2_ara4_72_1 := Lib.hid (P2_ara4_71_1.out.alloc (zI i))
          have S1_ara4_72_1 := Lib.hid (S1_ara4_71_1.out.alloc (zI i))
          have S2_ara4_72_1 := Lib.hid (S2_ara4_71_1.out.alloc (zI i))
          have P1_ara4_72_1 := Lib.hid (row_last Vara4_71_1 (Vara4_71_1.heap.size) 3 [.int .i64 (i : Int)] (by simp))
          have B_ara4_72_1 := Lib.hid (B_ara4_71_1.out.alloc B_ara4_71_1.out.size (zI i))
          clear RL_ara4_71_1 P2_ara4_71_1 S1_ara4_71_1 S2_ara4_71_1 B_ara4_71_1
          generalize (Vara4_71_1.alloc (zI i)) = Vara4_72_1 at RL_ara4_72_1 P2_ara4_72_1 S1_ara4_72_1 S2_ara4_72_1 P1_ara4_72_1 B_ara4_72_1 ⊢
          refine hK _ _ ⟨RL_ara4_72_1.out, B_ara4_72_1.out⟩ (fun _ => ?_)
          clear hK K
          try simp only [Act.put, List.setIfInBounds_toArray, List.set_cons_zero, List.set_cons_succ]
          refine wpAnyH_take (i := 6) (oi := ⟨some 23, _, _, _, _, _⟩) (v := ?vara4_73) rfl (by kernel_rfl) (by kernel_rfl) (by kernel_rfl) (fun _ _ _ h => h) (Or.inl ⟨by rfl, ?yara4_73⟩) ⟨RL_ara4_72_1.out, B_ara4_72_1.out⟩ ?rara4_73
          case yara4_73 =>
            rintro w' hSw
            go_simp
            try with_reducible rfl
          try simp only [Act.put, List.setIfInBounds_toArray, List.set_cons_zero, List.set_cons_succ]
          refine wpAnyH_ready (rs := [16]) (by kernel_rfl) (by simp) ?_
          refine (AllReadyH.cons rfl (fun K hK => ?_) AllReadyH.nil)
          obtain ⟨k0, k1, k2, k3, k4, f0, f1, f2, f3, f4⟩ := row5 S1_ara4_72_1.out
          rw [if_pos (by rfl)]
          go_simp
          clear f0 k0 f1 k1 f2 k2 f3 k3 f4 k4
          change K _ (st5 Vara4_72_1 (Vara4_53_1.heap.size) (.slice (some ⟨Vara4_71_1.heap.size, 0, none⟩) 1 1) (.int .i64 x.x0) (.int .i64 x.x1) (.int .i64 x.y0) (.int .i64 x.y1))
          have RL_sara4_74 := Lib.hid (st5_far (g := Vara4_53_1.heap.size) RL_ara4_72_1.out (by omega) (.slice (some ⟨Vara4_71_1.heap.size, 0, none⟩) 1 1) (.int .i64 x.x0) (.int .i64 x.x1) (.int .i64 x.y0) (.int .i64 x.y1))
          have P2_sara4_74 := Lib.hid (st5_far (g := Vara4_53_1.heap.size) P2_ara4_72_1.out (by omega) (.slice (some ⟨Vara4_71_1.heap.size, 0, none⟩) 1 1) (.int .i64 x.x0) (.int .i64 x.x1) (.int .i64 x.y0) (.int .i64 x.y1))
          have S1_sara4_74 := Lib.hid (st5_row S1_ara4_72_1.out (.slice (some ⟨Vara4_71_1.heap.size, 0, none⟩) 1 1) (.int .i64 x.x0) (.int .i64 x.x1) (.int .i64 x.y0) (.int .i64 x.y1))
          have S2_sara4_74 := Lib.hid (st5_far (g := Vara4_53_1.heap.size) S2_ara4_72_1.out (by omega) (.slice (some ⟨Vara4_71_1.heap.size, 0, none⟩) 1 1) (.int .i64 x.x0) (.int .i64 x.x1) (.int .i64 x.y0) (.int .i64 x.y1))
          have P1_sara4_74 := Lib.hid (st5_far (g := Vara4_53_1.heap.size) P1_ara4_72_1.out (by omega) (.slice (some ⟨Vara4_71_1.heap.size, 0, none⟩) 1 1) (.int .i64 x.x0) (.int .i64 x.x1) (.int .i64 x.y0) (.int .i64 x.y1))
          have B_sara4_74 := Lib.hid (st5_below (g := Vara4_53_1.heap.size) B_ara4_72_1.out (by omega) (.slice (some ⟨Vara4_71_1.heap.size, 0, none⟩) 1 1) (.int .i64 x.x0) (.int .i64 x.x1) (.int .i64 x.y0) (.int .i64 x.y1))
          clear RL_ara4_72_1 P2_ara4_72_1 S1_ara4_72_1 S2_ara4_72_1 P1_ara4_72_1 B_ara4_72_1
          generalize st5 Vara4_72_1 (Vara4_53_1.heap.size) (.slice (some ⟨Vara4_71_1.heap.size, 0, none⟩) 1 1) (.int .i64 x.x0) (.int .i64 x.x1) (.int .i64 x.y0) (.int .i64 x.y1) = Xara4_74 at RL_sara4_74 P2_sara4_74 S1_sara4_74 S2_sara4_74 P1_sara4_74 B_sara4_74 ⊢
          refine hK _ _ ⟨RL_sara4_74.out, B_sara4_74.out⟩ (fun _ => ?_)
          clear hK K
          try simp only [Act.put, List.setIfInBounds_toArray, List.set_cons_zero, List.set_cons_succ]
          refine wpAnyH_ready (rs := [17]) (by kernel_rfl) (by simp) ?_
          refine (AllReadyH.cons rfl (fun K hK => ?_) AllReadyH.nil)
          obtain ⟨k0, k1, k2, k3, k4, f0, f1, f2, f3, f4⟩ := row5 S2_sara4_74.out
          rw [if_pos (by rfl)]
          go_simp
          clear f0 k0 f1 k1 f2 k2 f3 k3 f4 k4
          change K _ (st5 Xara4_74 (Vara4_65_1.heap.size) (.slice (some ⟨Da4.heap.size, 0, none⟩) 1 1) (.int .i64 y.x0) (.int .i64 y.x1) (.int .i64 y.y0) (.int .i64 y.y1))
          have RL_sara4_75 := Lib.hid (st5_far (g := Vara4_65_1.heap.size) RL_sara4_74.out (by omega) (.slice (some ⟨Da4.heap.size, 0, none⟩) 1 1) (.int .i64 y.x0) (.int .i64 y.x1) (.int .i64 y.y0) (.int .i64 y.y1))
          have P2_sara4_75 := Lib.hid (st5_far (g := Vara4_65_1.heap.size) P2_sara4_74.out (by omega) (.slice (some ⟨Da4.heap.size, 0, none⟩) 1 1) (.int .i64 y.x0) (.int .i64 y.x1) (.int .i64 y.y0) (.int .i64 y.y1))
          have S1_sara4_75 := Lib.hid (st5_far (g := Vara4_65_1.heap.size) S1_sara4_74.out (by omega) (.slice (some ⟨Da4.heap.size, 0, none⟩) 1 1) (.int .i64 y.x0) (.int .i64 y.x1) (.int .i64 y.y0) (.int .i64 y.y1))
          have S2_sara4_75 := Lib.hid (st5_row S2_sara4_74.out (.slice (some ⟨Da4.heap.size, 0, none⟩) 1 1) (.int .i64 y.x0) (.int .i64 y.x1) (.int .i64 y.y0) (.int .i64 y.y1))
          have P1_sara4_75 := Lib.hid (st5_far (g := Vara4_65_1.heap.size) P1_sara4_74.out (by omega) (.slice (some ⟨Da4.heap.size, 0, none⟩) 1 1) (.int .i64 y.x0) (.int .i64 y.x1) (.int .i64 y.y0) (.int .i64 y.y1))
          have B_sara4_75 := Lib.hid (st5_below (g := Vara4_65_1.heap.size) B_sara4_74.out (by omega) (.slice (some ⟨Da4.heap.size, 0, none⟩) 1 1) (.int .i64 y.x0) (.int .i64 y.x1) (.int .i64 y.y0) (.int .i64 y.y1))
          clear RL_sara4_74 P2_sara4_74 S1_sara4_74 S2_sara4_74 P1_sara4_74 B_sara4_74
          generalize st5 Xara4_74 (Vara4_65_1.heap.size) (.slice (some ⟨Da4.heap.size, 0, none⟩) 1 1) (.int .i64 y.x0) (.int .i64 y.x1) (.int .i64 y.y0) (.int .i64 y.y1) = Xara4_75 at RL_sara4_75 P2_sara4_75 S1_sara4_75 S2_sara4_75 P1_sara4_75 B_sara4_75 ⊢
          refine hK _ _ ⟨RL_sara4_75.out, B_sara4_75.out⟩ (fun _ => ?_)
          clear hK K
          try simp only [Act.put, List.setIfInBounds_toArray, List.set_cons_zero, List.set_cons_succ]
          refine wpAnyH_done (by kernel_rfl) ?_ _
          go_wp2_with fail
          go_meet
          exact ⟨_, _, _, _, rfl, rfl, RL_sara4_75.out, S1_sara4_75.out, S2_sara4_75.out, P1_sara4_75.out, P2_sara4_75.out, by omega, by omega, by omega, by omega, by omega, by omega, B_sara4_75.out⟩
      · try rw [if_pos (by rfl)]
        go_simp
        have hltara4_76_1_0 : w.heap.size < Vara4_53_1.heap.size := RL_ara4_53_1.out.lt
        have hltara4_76_1_1 : Da4.heap.size < Vara4_53_1.heap.size := P2_ara4_53_1.out.lt
        have RL_ara4_76_1 := Lib.hid (RL_ara4_53_1.out.alloc zS)
        have P2_ara4_76_1 := Lib.hid (P2_ara4_53_1.out.alloc zS)
        have S2_ara4_76_1 := Lib.hid (row_last Vara4_53_1 (Vara4_53_1.heap.size) 66 [.slice none 0 0, .int .i64 0, .int .i64 0, .int .i64 0, .int .i64 0] (by simp))
        have B_ara4_76_1 := Lib.hid (B_ara4_53_1.out.alloc B_ara4_53_1.out.size zS)
        clear RL_ara4_53_1 P2_ara4_53_1 B_ara4_53_1
        generalize (Vara4_53_1.alloc zS) = Vara4_76_1 at RL_ara4_76_1 P2_ara4_76_1 S2_ara4_76_1 B_ara4_76_1 ⊢
        refine hK _ _ ⟨RL_ara4_76_1.out, B_ara4_76_1.out⟩ (fun _ => ?_)
        clear hK K
        try simp only [Act.put, List.setIfInBounds_toArray, List.set_cons_zero, List.set_cons_succ]
        refine wpAnyH_ready (rs := [1, 14]) (by kernel_rfl) (by simp) ?_
        refine (AllReadyH.cons rfl (fun K hK => ?_) (AllReadyH.cons rfl (fun K hK => ?_) AllReadyH.nil))
        · try rw [if_pos (by rfl)]
          go_simp
          have hltara4_77_1_0 : w.heap.size < Vara4_76_1.heap.size := RL_ara4_76_1.out.lt
          have hltara4_77_1_1 : Da4.heap.size < Vara4_76_1.heap.size := P2_ara4_76_1.out.lt
          have hltara4_77_1_2 : Vara4_53_1.heap.size < Vara4_76_1.heap.size := S2_ara4_76_1.out.lt
          have RL_ara4_77_1 := Lib.hid (RL_ara4_76_1.out.alloc (zI i))
          have P2_ara4_77_1 := Lib.hid (P2_ara4_76_1.out.alloc (zI i))
          have S2_ara4_77_1 := Lib.hid (S2_ara4_76_1.out.alloc (zI i))
          have P1_ara4_77_1 := Lib.hid (row_last Vara4_76_1 (Vara4_76_1.heap.size) 3 [.int .i64 (i : Int)] (by simp))
          have B_ara4_77_1 := Lib.hid (B_ara4_76_1.out.alloc B_ara4_76_1.out.size (zI i))
          clear RL_ara4_76_1 P2_ara4_76_1 S2_ara4_76_1 B_ara4_76_1
          generalize (Vara4_76_1.alloc (zI i)) = Vara4_77_1 at RL_ara4_77_1 P2_ara4_77_1 S2_ara4_77_1 P1_ara4_77_1 B_ara4_77_1 ⊢
          refine hK _ _ ⟨RL_ara4_77_1.out, B_ara4_77_1.out⟩ (fun _ => ?_)
          clear hK K
          try simp only [Act.put, List.setIfInBounds_toArray, List.set_cons_zero, List.set_cons_succ]
          refine wpAnyH_take (i := 6) (oi := ⟨some 23, _, _, _, _, _⟩) (v := ?vara4_78) rfl (by kernel_rfl) (by kernel_rfl) (by kernel_rfl) (fun _ _ _ h => h) (Or.inl ⟨by rfl, ?yara4_78⟩) ⟨RL_ara4_77_1.out, B_ara4_77_1.out⟩ ?rara4_78
          case yara4_78 =>
            rintro w' hSw
            go_simp
            try with_reducible rfl
          try simp only [Act.put, List.setIfInBounds_toArray, List.set_cons_zero, List.set_cons_succ]
          refine wpAnyH_ready (rs := [14]) (by kernel_rfl) (by simp) ?_
          refine (AllReadyH.cons rfl (fun K hK => ?_) AllReadyH.nil)
          try rw [if_pos (by rfl)]
          go_simp
          have hltara4_79_1_0 : w.heap.size < Vara4_77_1.heap.size := RL_ara4_77_1.out.lt
          have hltara4_79_1_1 : Da4.heap.size < Vara4_77_1.heap.size := P2_ara4_77_1.out.lt
          have hltara4_79_1_2 : Vara4_53_1.heap.size < Vara4_77_1.heap.size := S2_ara4_77_1.out.lt
          have hltara4_79_1_3 : Vara4_76_1.heap.size < Vara4_77_1.heap.size := P1_ara4_77_1.out.lt
          have RL_ara4_79_1 := Lib.hid (RL_ara4_77_1.out.alloc zS)
          have P2_ara4_79_1 := Lib.hid (P2_ara4_77_1.out.alloc zS)
          have S2_ara4_79_1 := Lib.hid (S2_ara4_77_1.out.alloc zS)
          have P1_ara4_79_1 := Lib.hid (P1_ara4_77_1.out.alloc zS)
          have S1_ara4_79_1 := Lib.hid (row_last Vara4_77_1 (Vara4_77_1.heap.size) 66 [.slice none 0 0, .int .i64 0, .int .i64 0, .int .i64 0, .int .i64 0] (by simp))
          have B_ara4_79_1 := Lib.hid (B_ara4_77_1.out.alloc B_ara4_77_1.out.size zS)
          clear RL_ara4_77_1 P2_ara4_77_1 S2_ara4_77_1 P1_ara4_77_1 B_ara4_77_1
          generalize (Vara4_77_1.alloc zS) = Vara4_79_1 at RL_ara4_79_1 P2_ara4_79_1 S2_ara4_79_1 P1_ara4_79_1 S1_ara4_79_1 B_ara4_79_1 ⊢
          refine hK _ _ ⟨RL_ara4_79_1.out, B_ara4_79_1.out⟩ (fun _ => ?_)
          clear hK K
          try simp only [Act.put, List.setIfInBounds_toArray, List.set_cons_zero, List.set_cons_succ]
          refine wpAnyH_ready (rs := [16]) (by kernel_rfl) (by simp) ?_
          refine (AllReadyH.cons rfl (fun K hK => ?_) AllReadyH.nil)
          obtain ⟨k0, k1, k2, k3, k4, f0, f1, f2, f3, f4⟩ := row5 S1_ara4_79_1.out
          rw [if_pos (by rfl)]
          go_simp
          clear f0 k0 f1 k1 f2 k2 f3 k3 f4 k4
          change K _ (st5 Vara4_79_1 (Vara4_77_1.heap.size) (.slice (some ⟨Vara4_76_1.heap.size, 0, none⟩) 1 1) (.int .i64 x.x0) (.int .i64 x.x1) (.int .i64 x.y0) (.int .i64 x.y1))
          have RL_sara4_80 := Lib.hid (st5_far (g := Vara4_77_1.heap.size) RL_ara4_79_1.out (by omega) (.slice (some ⟨Vara4_76_1.heap.size, 0, none⟩) 1 1) (.int .i64 x.x0) (.int .i64 x.x1) (.int .i64 x.y0) (.int .i64 x.y1))
          have P2_sara4_80 := Lib.hid (st5_far (g := Vara4_77_1.heap.size) P2_ara4_79_1.out (by omega) (.slice (some ⟨Vara4_76_1.heap.size, 0, none⟩) 1 1) (.int .i64 x.x0) (.int .i64 x.x1) (.int .i64 x.y0) (.int .i64 x.y1))
          have S2_sara4_80 := Lib.hid (st5_far (g := Vara4_77_1.heap.size) S2_ara4_79_1.out (by omega) (.slice (some ⟨Vara4_76_1.heap.size, 0, none⟩) 1 1) (.int .i64 x.x0) (.int .i64 x.x1) (.int .i64 x.y0) (.int .i64 x.y1))
          have P1_sara4_80 := Lib.hid (st5_far (g := Vara4_77_1.heap.size) P1_ara4_79_1.out (by omega) (.slice (some ⟨Vara4_76_1.heap.size, 0, none⟩) 1 1) (.int .i64 x.x0) (.int .i64 x.x1) (.int .i64 x.y0) (.int .i64 x.y1))
          have S1_sara4_80 := Lib.hid (st5_row S1_ara4_79_1.out (.slice (some ⟨Vara4_76_1.heap.size, 0, none⟩) 1 1) (.int .i64 x.x0) (.int .i64 x.x1) (.int .i64 x.y0) (.int .i64 x.y1))
          have B_sara4_80 := Lib.hid (st5_below (g := Vara4_77_1.heap.size) B_ara4_79_1.out (by omega) (.slice (some ⟨Vara4_76_1.heap.size, 0, none⟩) 1 1) (.int .i64 x.x0) (.int .i64 x.x1) (.int .i64 x.y0) (.int .i64 x.y1))
          clear RL_ara4_79_1 P2_ara4_79_1 S2_ara4_79_1 P1_ara4_79_1 S1_ara4_79_1 B_ara4_79_1
          generalize st5 Vara4_79_1 (Vara4_77_1.heap.size) (.slice (some ⟨Vara4_76_1.heap.size, 0, none⟩) 1 1) (.int .i64 x.x0) (.int .i64 x.x1) (.int .i64 x.y0) (.int .i64 x.y1) = Xara4_80 at RL_sara4_80 P2_sara4_80 S2_sara4_80 P1_sara4_80 S1_sara4_80 B_sara4_80 ⊢
          refine hK _ _ ⟨RL_sara4_80.out, B_sara4_80.out⟩ (fun _ => ?_)
          clear hK K
          try simp only [Act.put, List.setIfInBounds_toArray, List.set_cons_zero, List.set_cons_succ]
          refine wpAnyH_ready (rs := [17]) (by kernel_rfl) (by simp) ?_
          refine (AllReadyH.cons rfl (fun K hK => ?_) AllReadyH.nil)
          obtain ⟨k0, k1, k2, k3, k4, f0, f1, f2, f3, f4⟩ := row5 S2_sara4_80.out
          rw [if_pos (by rfl)]
          go_simp
          clear f0 k0 f1 k1 f2 k2 f3 k3 f4 k4
          change K _ (st5 Xara4_80 (Vara4_53_1.heap.size) (.slice (some ⟨Da4.heap.size, 0, none⟩) 1 1) (.int .i64 y.x0) (.int .i64 y.x1) (.int .i64 y.y0) (.int .i64 y.y1))
          have RL_sara4_81 := Lib.hid (st5_far (g := Vara4_53_1.heap.size) RL_sara4_80.out (by omega) (.slice (some ⟨Da4.heap.size, 0, none⟩) 1 1) (.int .i64 y.x0) (.int .i64 y.x1) (.int .i64 y.y0) (.int .i64 y.y1))
          have P2_sara4_81 := Lib.hid (st5_far (g := Vara4_53_1.heap.size) P2_sara4_80.out (by omega) (.slice (some ⟨Da4.heap.size, 0, none⟩) 1 1) (.int .i64 y.x0) (.int .i64 y.x1) (.int .i64 y.y0) (.int .i64 y.y1))
          have S2_sara4_81 := Lib.hid (st5_row S2_sara4_80.out (.slice (some ⟨Da4.heap.size, 0, none⟩) 1 1) (.int .i64 y.x0) (.int .i64 y.x1) (.int .i64 y.y0) (.int .i64 y.y1))
          have P1_sara4_81 := Lib.hid (st5_far (g := Vara4_53_1.heap.size) P1_sara4_80.out (by omega) (.slice (some ⟨Da4.heap.size, 0, none⟩) 1 1) (.int .i64 y.x0) (.int .i64 y.x1) (.int .i64 y.y0) (.int .i64 y.y1))
          have S1_sara4_81 := Lib.hid (st5_far (g := Vara4_53_1.heap.size) S1_sara4_80.out (by omega) (.slice (some ⟨Da4.heap.size, 0, none⟩) 1 1) (.int .i64 y.x0) (.int .i64 y.x1) (.int .i64 y.y0) (.int .i64 y.y1))
          have B_sara4_81 := Lib.hid (st5_below (g := Vara4_53_1.heap.size) B_sara4_80.out (by omega) (.slice (some ⟨Da4.heap.size, 0, none⟩) 1 1) (.int .i64 y.x0) (.int .i64 y.x1) (.int .i64 y.y0) (.int .i64 y.y1))
          clear RL_sara4_80 P2_sara4_80 S2_sara4_80 P1_sara4_80 S1_sara4_80 B_sara4_80
          generalize st5 Xara4_80 (Vara4_53_1.heap.size) (.slice (some ⟨Da4.heap.size, 0, none⟩) 1 1) (.int .i64 y.x0) (.int .i64 y.x1) (.int .i64 y.y0) (.int .i64 y.y1) = Xara4_81 at RL_sara4_81 P2_sara4_81 S2_sara4_81 P1_sara4_81 S1_sara4_81 B_sara4_81 ⊢
          refine hK _ _ ⟨RL_sara4_81.out, B_sara4_81.out⟩ (fun _ => ?_)
          clear hK K
          try simp only [Act.put, List.setIfInBounds_toArray, List.set_cons_zero, List.set_cons_succ]
          refine wpAnyH_done (by kernel_rfl) ?_ _
          go_wp2_with fail
          go_meet
          exact ⟨_, _, _, _, rfl, rfl, RL_sara4_81.out, S1_sara4_81.out, S2_sara4_81.out, P1_sara4_81.out, P2_sara4_81.out, by omega, by omega, by omega, by omega, by omega, by omega, B_sara4_81.out⟩
        · try rw [if_pos (by rfl)]
          go_simp
          have hltara4_82_1_0 : w.heap.size < Vara4_76_1.heap.size := RL_ara4_76_1.out.lt
          have hltara4_82_1_1 : Da4.heap.size < Vara4_76_1.heap.size := P2_ara4_76_1.out.lt
          have hltara4_82_1_2 : Vara4_53_1.heap.size < Vara4_76_1.heap.size := S2_ara4_76_1.out.lt
          have RL_ara4_82_1 := Lib.hid (RL_ara4_76_1.out.alloc zS)
          have P2_ara4_82_1 := Lib.hid (P2_ara4_76_1.out.alloc zS)
          have S2_ara4_82_1 := Lib.hid (S2_ara4_76_1.out.alloc zS)
          have S1_ara4_82_1 := Lib.hid (row_last Vara4_76_1 (Vara4_76_1.heap.size) 66 [.slice none 0 0, .int .i64 0, .int .i64 0, .int .i64 0, .int .i64 0] (by simp))
          have B_ara4_82_1 := Lib.hid (B_ara4_76_1.out.alloc B_ara4_76_1.out.size zS)
          clear RL_ara4_76_1 P2_ara4_76_1 S2_ara4_76_1 B_ara4_76_1
          generalize (Vara4_76_1.alloc zS) = Vara4_82_1 at RL_ara4_82_1 P2_ara4_82_1 S2_ara4_82_1 S1_ara4_82_1 B_ara4_82_1 ⊢
          refine hK _ _ ⟨RL_ara4_82_1.out, B_ara4_82_1.out⟩ (fun _ => ?_)
          clear hK K
          try simp only [Act.put, List.setIfInBounds_toArray, List.set_cons_zero, List.set_cons_succ]
          refine wpAnyH_ready (rs := [1]) (by kernel_rfl) (by simp) ?_
          refine (AllReadyH.cons rfl (fun K hK => ?_) AllReadyH.nil)
          try rw [if_pos (by rfl)]
          go_simp
          have hltara4_83_1_0 : w.heap.size < Vara4_82_1.heap.size := RL_ara4_82_1.out.lt
          have hltara4_83_1_1 : Da4.heap.size < Vara4_82_1.heap.size := P2_ara4_82_1.out.lt
          have hltara4_83_1_2 : Vara4_53_1.heap.size < Vara4_82_1.heap.size := S2_ara4_82_1.out.lt
          have hltara4_83_1_3 : Vara4_76_1.heap.size < Vara4_82_1.heap.size := S1_ara4_82_1.out.lt
          have RL_ara4_83_1 := Lib.hid (RL_ara4_82_1.out.alloc (zI i))
          have P2_ara4_83_1 := Lib.hid (P2_ara4_82_1.out.alloc (zI i))
          have S2_ara4_83_1 := Lib.hid (S2_ara4_82_1.out.alloc (zI i))
          have S1_ara4_83_1 := Lib.hid (S1_ara4_82_1.out.alloc (zI i))
          have P1_ara4_83_1 := Lib.hid (row_last Vara4_82_1 (Vara4_82_1.heap.size) 3 [.int .i64 (i : Int)] (by simp))
          have B_ara4_83_1 := Lib.hid (B_ara4_82_1.out.alloc B_ara4_82_1.out.size (zI i))
          clear RL_ara4_82_1 P2_ara4_82_1 S2_ara4_82_1 S1_ara4_82_1 B_ara4_82_1
          generalize (Vara4_82_1.alloc (zI i)) = Vara4_83_1 at RL_ara4_83_1 P2_ara4_83_1 S2_ara4_83_1 S1_ara4_83_1 P1_ara4_83_1 B_ara4_83_1 ⊢
          refine hK _ _ ⟨RL_ara4_83_1.out, B_ara4_83_1.out⟩ (fun _ => ?_)
          clear hK K
          try simp only [Act.put, List.setIfInBounds_toArray, List.set_cons_zero, List.set_cons_succ]
          refine wpAnyH_take (i := 6) (oi := ⟨some 23, _, _, _, _, _⟩) (v := ?vara4_84) rfl (by kernel_rfl) (by kernel_rfl) (by kernel_rfl) (fun _ _ _ h => h) (Or.inl ⟨by rfl, ?yara4_84⟩) ⟨RL_ara4_83_1.out, B_ara4_83_1.out⟩ ?rara4_84
          case yara4_84 =>
            rintro w' hSw
            go_simp
            try with_reducible rfl
          try simp only [Act.put, List.setIfInBounds_toArray, List.set_cons_zero, List.set_cons_succ]
          refine wpAnyH_ready (rs := [16]) (by kernel_rfl) (by simp) ?_
          refine (AllReadyH.cons rfl (fun K hK => ?_) AllReadyH.nil)
          obtain ⟨k0, k1, k2, k3, k4, f0, f1, f2, f3, f4⟩ := row5 S1_ara4_83_1.out
          rw [if_pos (by rfl)]
          go_simp
          clear f0 k0 f1 k1 f2 k2 f3 k3 f4 k4
          change K _ (st5 Vara4_83_1 (Vara4_76_1.heap.size) (.slice (some ⟨Vara4_82_1.heap.size, 0, none⟩) 1 1) (.int .i64 x.x0) (.int .i64 x.x1) (.int .i64 x.y0) (.int .i64 x.y1))
          have RL_sara4_85 := Lib.hid (st5_far (g := Vara4_76_1.heap.size) RL_ara4_83_1.out (by omega) (.slice (some ⟨Vara4_82_1.heap.size, 0, none⟩) 1 1) (.int .i64 x.x0) (.int .i64 x.x1) (.int .i64 x.y0) (.int .i64 x.y1))
          have P2_sara4_85 := Lib.hid (st5_far (g := Vara4_76_1.heap.size) P2_ara4_83_1.out (by omega) (.slice (some ⟨Vara4_82_1.heap.size, 0, none⟩) 1 1) (.int .i64 x.x0) (.int .i64 x.x1) (.int .i64 x.y0) (.int .i64 x.y1))
          have S2_sara4_85 := Lib.hid (st5_far (g := Vara4_76_1.heap.size) S2_ara4_83_1.out (by omega) (.slice (some ⟨Vara4_82_1.heap.size, 0, none⟩) 1 1) (.int .i64 x.x0) (.int .i64 x.x1) (.int .i64 x.y0) (.int .i64 x.y1))
          have S1_sara4_85 := Lib.hid (st5_row S1_ara4_83_1.out (.slice (some ⟨Vara4_82_1.heap.size, 0, none⟩) 1 1) (.int .i64 x.x0) (.int .i64 x.x1) (.int .i64 x.y0) (.int .i64 x.y1))
          have P1_sara4_85 := Lib.hid (st5_far (g := Vara4_76_1.heap.size) P1_ara4_83_1.out (by omega) (.slice (some ⟨Vara4_82_1.heap.size, 0, none⟩) 1 1) (.int .i64 x.x0) (.int .i64 x.x1) (.int .i64 x.y0) (.int .i64 x.y1))
          have B_sara4_85 := Lib.hid (st5_below (g := Vara4_76_1.heap.size) B_ara4_83_1.out (by omega) (.slice (some ⟨Vara4_82_1.heap.size, 0, none⟩) 1 1) (.int .i64 x.x0) (.int .i64 x.x1) (.int .i64 x.y0) (.int .i64 x.y1))
          clear RL_ara4_83_1 P2_ara4_83_1 S2_ara4_83_1 S1_ara4_83_1 P1_ara4_83_1 B_ara4_83_1
          generalize st5 Vara4_83_1 (Vara4_76_1.heap.size) (.slice (some ⟨Vara4_82_1.heap.size, 0, none⟩) 1 1) (.int .i64 x.x0) (.int .i64 x.x1) (.int .i64 x.y0) (.int .i64 x.y1) = Xara4_85 at RL_sara4_85 P2_sara4_85 S2_sara4_85 S1_sara4_85 P1_sara4_85 B_sara4_85 ⊢
          refine hK _ _ ⟨RL_sara4_85.out, B_sara4_85.out⟩ (fun _ => ?_)
          clear hK K
          try simp only [Act.put, List.setIfInBounds_toArray, List.set_cons_zero, List.set_cons_succ]
          refine wpAnyH_ready (rs := [17]) (by kernel_rfl) (by simp) ?_
          refine (AllReadyH.cons rfl (fun K hK => ?_) AllReadyH.nil)
          obtain ⟨k0, k1, k2, k3, k4, f0, f1, f2, f3, f4⟩ := row5 S2_sara4_85.out
          rw [if_pos (by rfl)]
          go_simp
          clear f0 k0 f1 k1 f2 k2 f3 k3 f4 k4
          change K _ (st5 Xara4_85 (Vara4_53_1.heap.size) (.slice (some ⟨Da4.heap.size, 0, none⟩) 1 1) (.int .i64 y.x0) (.int .i64 y.x1) (.int .i64 y.y0) (.int .i64 y.y1))
          have RL_sara4_86 := Lib.hid (st5_far (g := Vara4_53_1.heap.size) RL_sara4_85.out (by omega) (.slice (some ⟨Da4.heap.size, 0, none⟩) 1 1) (.int .i64 y.x0) (.int .i64 y.x1) (.int .i64 y.y0) (.int .i64 y.y1))
          have P2_sara4_86 := Lib.hid (st5_far (g := Vara4_53_1.heap.size) P2_sara4_85.out (by omega) (.slice (some ⟨Da4.heap.size, 0, none⟩) 1 1) (.int .i64 y.x0) (.int .i64 y.x1) (.int .i64 y.y0) (.int .i64 y.y1))
          have S2_sara4_86 := Lib.hid (st5_row S2_sara4_85.out (.slice (some ⟨Da4.heap.size, 0, none⟩) 1 1) (.int .i64 y.x0) (.int .i64 y.x1) (.int .i64 y.y0) (.int .i64 y.y1))
          have S1_sara4_86 := Lib.hid (st5_far (g := Vara4_53_1.heap.size) S1_sara4_85.out (by omega) (.slice (some ⟨Da4.heap.size, 0, none⟩) 1 1) (.int .i64 y.x0) (.int .i64 y.x1) (.int .i64 y.y0) (.int .i64 y.y1))
          have P1_sara4_86 := Lib.hid (st5_far (g := Vara4_53_1.heap.size) P1_sara4_85.out (by omega) (.slice (some ⟨Da4.heap.size, 0, none⟩) 1 1) (.int .i64 y.x0) (.int .i64 y.x1) (.int .i64 y.y0) (.int .i64 y.y1))
          have B_sara4_86 := Lib.hid (st5_below (g := Vara4_53_1.heap.size) B_sara4_85.out (by omega) (.slice (some ⟨Da4.heap.size, 0, none⟩) 1 1) (.int .i64 y.x0) (.int .i64 y.x1) (.int .i64 y.y0) (.int .i64 y.y1))
          clear RL_sara4_85 P2_sara4_85 S2_sara4_85 S1_sara4_85 P1_sara4_85 B_sara4_85
          generalize st5 Xara4_85 (Vara4_53_1.heap.size) (.slice (some ⟨Da4.heap.size, 0, none⟩) 1 1) (.int .i64 y.x0) (.int .i64 y.x1) (.int .i64 y.y0) (.int .i64 y.y1) = Xara4_86 at RL_sara4_86 P2_sara4_86 S2_sara4_86 S1_sara4_86 P1_sara4_86 B_sara4_86 ⊢
          refine hK _ _ ⟨RL_sara4_86.out, B_sara4_86.out⟩ (fun _ => ?_)
          clear hK K
          try simp only [Act.put, List.setIfInBounds_toArray, List.set_cons_zero, List.set_cons_succ]
          refine wpAnyH_done (by kernel_rfl) ?_ _
          go_wp2_with fail
          go_meet
          exact ⟨_, _, _, _, rfl, rfl, RL_sara4_86.out, S1_sara4_86.out, S2_sara4_86.out, P1_sara4_86.out, P2_sara4_86.out, by omega, by omega, by omega, by omega, by omega, by omega, B_sara4_86.out⟩
    · try rw [if_pos (by rfl)]
      go_simp
      have hltara4_87_1_0 : w.heap.size < Da4.heap.size := RL_a4.out.lt
      have RL_ara4_87_1 := Lib.hid (RL_a4.out.alloc zS)
      have S1_ara4_87_1 := Lib.hid (row_last Da4 (Da4.heap.size) 66 [.slice none 0 0, .int .i64 0, .int .i64 0, .int .i64 0, .int .i64 0] (by simp))
      have B_ara4_87_1 := Lib.hid (B_a4.out.alloc B_a4.out.size zS)
      clear RL_a4 B_a4
      generalize (Da4.alloc zS) = Vara4_87_1 at RL_ara4_87_1 S1_ara4_87_1 B_ara4_87_1 ⊢
      refine hK _ _ ⟨RL_ara4_87_1.out, B_ara4_87_1.out⟩ (fun _ => ?_)
      clear hK K
      try simp only [Act.put, List.setIfInBounds_toArray, List.set_cons_zero, List.set_cons_succ]
      refine wpAnyH_ready (rs := [1, 8, 15]) (by kernel_rfl) (by simp) ?_
      refine (AllReadyH.cons rfl (fun K hK => ?_) (AllReadyH.cons rfl (fun K hK => ?_) (AllReadyH.cons rfl (fun K hK => ?_) AllReadyH.nil)))
      · try rw [if_pos (by rfl)]
        go_simp
        have hltara4_88_1_0 : w.heap.size < Vara4_87_1.heap.size := RL_ara4_87_1.out.lt
        have hltara4_88_1_1 : Da4.heap.size < Vara4_87_1.heap.size := S1_ara4_87_1.out.lt
        have RL_ara4_88_1 := Lib.hid (RL_ara4_87_1.out.alloc (zI i))
        have S1_ara4_88_1 := Lib.hid (S1_ara4_87_1.out.alloc (zI i))
        have P1_ara4_88_1 := Lib.hid (row_last Vara4_87_1 (Vara4_87_1.heap.size) 3 [.int .i64 (i : Int)] (by simp))
        have B_ara4_88_1 := Lib.hid (B_ara4_87_1.out.alloc B_ara4_87_1.out.size (zI i))
        clear RL_ara4_87_1 S1_ara4_87_1 B_ara4_87_1
        generalize (Vara4_87_1.alloc (zI i)) = Vara4_88_1 at RL_ara4_88_1 S1_ara4_88_1 P1_ara4_88_1 B_ara4_88_1 ⊢
        refine hK _ _ ⟨RL_ara4_88_1.out, B_ara4_88_1.out⟩ (fun _ => ?_)
        clear hK K
        try simp only [Act.put, List.setIfInBounds_toArray, List.set_cons_zero, List.set_cons_succ]
        refine wpAnyH_take (i := 6) (oi := ⟨some 23, _, _, _, _, _⟩) (v := ?vara4_89) rfl (by kernel_rfl) (by kernel_rfl) (by kernel_rfl) (fun _ _ _ h => h) (Or.inl ⟨by rfl, ?yara4_89⟩) ⟨RL_ara4_88_1.out, B_ara4_88_1.out⟩ ?rara4_89
        case yara4_89 =>
          rintro w' hSw
          go_simp
          try with_reducible rfl
        try simp only [Act.put, List.setIfInBounds_toArray, List.set_cons_zero, List.set_cons_succ]
        refine wpAnyH_ready (rs := [8, 15]) (by kernel_rfl) (by simp) ?_
        refine (AllReadyH.cons rfl (fun K hK => ?_) (AllReadyH.cons rfl (fun K hK => ?_) AllReadyH.nil))
        · try rw [if_pos (by rfl)]
          go_simp
          have hltara4_90_1_0 : w.heap.size < Vara4_88_1.heap.size := RL_ara4_88_1.out.lt
          have hltara4_90_1_1 : Da4.heap.size < Vara4_88_1.heap.size := S1_ara4_88_1.out.lt
          have hltara4_90_1_2 : Vara4_87_1.heap.size < Vara4_88_1.heap.size := P1_ara4_88_1.out.lt
          have RL_ara4_90_1 := Lib.hid (RL_ara4_88_1.out.alloc (zI k))
          have S1_ara4_90_1 := Lib.hid (S1_ara4_88_1.out.alloc (zI k))
          have P1_ara4_90_1 := Lib.hid (P1_ara4_88_1.out.alloc (zI k))
          have P2_ara4_90_1 := Lib.hid (row_last Vara4_88_1 (Vara4_88_1.heap.size) 3 [.int .i64 (k : Int)] (by simp))
          have B_ara4_90_1 := Lib.hid (B_ara4_88_1.out.alloc B_ara4_88_1.out.size (zI k))
          clear RL_ara4_88_1 S1_ara4_88_1 P1_ara4_88_1 B_ara4_88_1
          generalize (Vara4_88_1.alloc (zI k)) = Vara4_90_1 at RL_ara4_90_1 S1_ara4_90_1 P1_ara4_90_1 P2_ara4_90_1 B_ara4_90_1 ⊢
          refine hK _ _ ⟨RL_ara4_90_1.out, B_ara4_90_1.out⟩ (fun _ => ?_)
          clear hK K
          try simp only [Act.put, List.setIfInBounds_toArray, List.set_cons_zero, List.set_cons_succ]
          refine wpAnyH_take (i := 13) (oi := ⟨some 30, _, _, _, _, _⟩) (v := ?vara4_91) rfl (by kernel_rfl) (by kernel_rfl) (by kernel_rfl) (fun _ _ _ h => h) (Or.inl ⟨by rfl, ?yara4_91⟩) ⟨RL_ara4_90_1.out, B_ara4_90_1.out⟩ ?rara4_91
          case yara4_91 =>
            rintro w' hSw
            go_simp
            try with_reducible rfl
          try simp only [Act.put, List.setIfInBounds_toArray, List.set_cons_zero, List.set_cons_succ]
          refine wpAnyH_ready (rs := [15]) (by kernel_rfl) (by simp) ?_
          refine (AllReadyH.cons rfl (fun K hK => ?_) AllReadyH.nil)
          try rw [if_pos (by rfl)]
          go_simp
          have hltara4_92_1_0 : w.heap.size < Vara4_90_1.heap.size := RL_ara4_90_1.out.lt
          have hltara4_92_1_1 : Da4.heap.size < Vara4_90_1.heap.size := S1_ara4_90_1.out.lt
          have hltara4_92_1_2 : Vara4_87_1.heap.size < Vara4_90_1.heap.size := P1_ara4_90_1.out.lt
          have hltara4_92_1_3 : Vara4_88_1.heap.size < Vara4_90_1.heap.size := P2_ara4_90_1.out.lt
          have RL_ara4_92_1 := Lib.hid (RL_ara4_90_1.out.alloc zS)
          have S1_ara4_92_1 := Lib.hid (S1_ara4_90_1.out.alloc zS)
          have P1_ara4_92_1 := Lib.hid (P1_ara4_90_1.out.alloc zS)
          have P2_ara4_92_1 := Lib.hid (P2_ara4_90_1.out.alloc zS)
          have S2_ara4_92_1 := Lib.hid (row_last Vara4_90_1 (Vara4_90_1.heap.size) 66 [.slice none 0 0, .int .i64 0, .int .i64 0, .int .i64 0, .int .i64 0] (by simp))
          have B_ara4_92_1 := Lib.hid (B_ara4_90_1.out.alloc B_ara4_90_1.out.size zS)
          clear RL_ara4_90_1 S1_ara4_90_1 P1_ara4_90_1 P2_ara4_90_1 B_ara4_90_1
          generalize (Vara4_90_1.alloc zS) = Vara4_92_1 at RL_ara4_92_1 S1_ara4_92_1 P1_ara4_92_1 P2_ara4_92_1 S2_ara4_92_1 B_ara4_92_1 ⊢
          refine hK _ _ ⟨RL_ara4_92_1.out, B_ara4_92_1.out⟩ (fun _ => ?_)
          clear hK K
          try simp only [Act.put, List.setIfInBounds_toArray, List.set_cons_zero, List.set_cons_succ]
          refine wpAnyH_ready (rs := [16]) (by kernel_rfl) (by simp) ?_
          refine (AllReadyH.cons rfl (fun K hK => ?_) AllReadyH.nil)
          obtain ⟨k0, k1, k2, k3, k4, f0, f1, f2, f3, f4⟩ := row5 S1_ara4_92_1.out
          rw [if_pos (by rfl)]
          go_simp
          clear f0 k0 f1 k1 f2 k2 f3 k3 f4 k4
          change K _ (st5 Vara4_92_1 (Da4.heap.size) (.slice (some ⟨Vara4_87_1.heap.size, 0, none⟩) 1 1) (.int .i64 x.x0) (.int .i64 x.x1) (.int .i64 x.y0) (.int .i64 x.y1))
          have RL_sara4_93 := Lib.hid (st5_far (g := Da4.heap.size) RL_ara4_92_1.out (by omega) (.slice (some ⟨Vara4_87_1.heap.size, 0, none⟩) 1 1) (.int .i64 x.x0) (.int .i64 x.x1) (.int .i64 x.y0) (.int .i64 x.y1))
          have S1_sara4_93 := Lib.hid (st5_row S1_ara4_92_1.out (.slice (some ⟨Vara4_87_1.heap.size, 0, none⟩) 1 1) (.int .i64 x.x0) (.int .i64 x.x1) (.int .i64 x.y0) (.int .i64 x.y1))
          have P1_sara4_93 := Lib.hid (st5_far (g := Da4.heap.size) P1_ara4_92_1.out (by omega) (.slice (some ⟨Vara4_87_1.heap.size, 0, none⟩) 1 1) (.int .i64 x.x0) (.int .i64 x.x1) (.int .i64 x.y0) (.int .i64 x.y1))
          have P2_sara4_93 := Lib.hid (st5_far (g := Da4.heap.size) P2_ara4_92_1.out (by omega) (.slice (some ⟨Vara4_87_1.heap.size, 0, none⟩) 1 1) (.int .i64 x.x0) (.int .i64 x.x1) (.int .i64 x.y0) (.int .i64 x.y1))
          have S2_sara4_93 := Lib.hid (st5_far (g := Da4.heap.size) S2_ara4_92_1.out (by omega) (.slice (some ⟨Vara4_87_1.heap.size, 0, none⟩) 1 1) (.int .i64 x.x0) (.int .i64 x.x1) (.int .i64 x.y0) (.int .i64 x.y1))
          have B_sara4_93 := Lib.hid (st5_below (g := Da4.heap.size) B_ara4_92_1.out (by omega) (.slice (some ⟨Vara4_87_1.heap.size, 0, none⟩) 1 1) (.int .i64 x.x0) (.int .i64 x.x1) (.int .i64 x.y0) (.int .i64 x.y1))
          clear RL_ara4_92_1 S1_ara4_92_1 P1_ara4_92_1 P2_ara4_92_1 S2_ara4_92_1 B_ara4_92_1
          generalize st5 Vara4_92_1 (Da4.heap.size) (.slice (some ⟨Vara4_87_1.heap.size, 0, none⟩) 1 1) (.int .i64 x.x0) (.int .i64 x.x1) (.int .i64 x.y0) (.int .i64 x.y1) = Xara4_93 at RL_sara4_93 S1_sara4_93 P1_sara4_93 P2_sara4_93 S2_sara4_93 B_sara4_93 ⊢
          refine hK _ _ ⟨RL_sara4_93.out, B_sara4_93.out⟩ (fun _ => ?_)
          clear hK K
          try simp only [Act.put, List.setIfInBounds_toArray, List.set_cons_zero, List.set_cons_succ]
          refine wpAnyH_ready (rs := [17]) (by kernel_rfl) (by simp) ?_
          refine (AllReadyH.cons rfl (fun K hK => ?_) AllReadyH.nil)
          obtain ⟨k0, k1, k2, k3, k4, f0, f1, f2, f3, f4⟩ := row5 S2_sara4_93.out
          rw [if_pos (by rfl)]
          go_simp
          clear f0 k0 f1 k1 f2 k2 f3 k3 f4 k4
          change K _ (st5 Xara4_93 (Vara4_90_1.heap.size) (.slice (some ⟨Vara4_88_1.heap.size, 0, none⟩) 1 1) (.int .i64 y.x0) (.int .i64 y.x1) (.int .i64 y.y0) (.int .i64 y.y1))
          have RL_sara4_94 := Lib.hid (st5_far (g := Vara4_90_1.heap.size) RL_sara4_93.out (by omega) (.slice (some ⟨Vara4_88_1.heap.size, 0, none⟩) 1 1) (.int .i64 y.x0) (.int .i64 y.x1) (.int .i64 y.y0) (.int .i64 y.y1))
          have S1_sara4_94 := Lib.hid (st5_far (g := Vara4_90_1.heap.size) S1_sara4_93.out (by omega) (.slice (some ⟨Vara4_88_1.heap.size, 0, none⟩) 1 1) (.int .i64 y.x0) (.int .i64 y.x1) (.int .i64 y.y0) (.int .i64 y.y1))
          have P1_sara4_94 := Lib.hid (st5_far (g := Vara4_90_1.heap.size) P1_sara4_93.out (by omega) (.slice (some ⟨Vara4_88_1.heap.size, 0, none⟩) 1 1) (.int .i64 y.x0) (.int .i64 y.x1) (.int .i64 y.y0) (.int .i64 y.y1))
          have P2_sara4_94 := Lib.hid (st5_far (g := Vara4_90_1.heap.size) P2_sara4_93.out (by omega) (.slice (some ⟨Vara4_88_1.heap.size, 0, none⟩) 1 1) (.int .i64 y.x0) (.int .i64 y.x1) (.int .i64 y.y0) (.int .i64 y.y1))
          have S2_sara4_94 := Lib.hid (st5_row S2_sara4_93.out (.slice (some ⟨Vara4_88_1.heap.size, 0, none⟩) 1 1) (.int .i64 y.x0) (.int .i64 y.x1) (.int .i64 y.y0) (.int .i64 y.y1))
          have B_sara4_94 := Lib.hid (st5_below (g := Vara4_90_1.heap.size) B_sara4_93.out (by omega) (.slice (some ⟨Vara4_88_1.heap.size, 0, none⟩) 1 1) (.int .i64 y.x0) (.int .i64 y.x1) (.int .i64 y.y0) (.int .i64 y.y1))
          clear RL_sara4_93 S1_sara4_93 P1_sara4_93 P2_sara4_93 S2_sara4_93 B_sara4_93
          generalize st5 Xara4_93 (Vara4_90_1.heap.size) (.slice (some ⟨Vara4_88_1.heap.size, 0, none⟩) 1 1) (.int .i64 y.x0) (.int .i64 y.x1) (.int .i64 y.y0) (.int .i64 y.y1) = Xara4_94 at RL_sara4_94 S1_sara4_94 P1_sara4_94 P2_sara4_94 S2_sara4_94 B_sara4_94 ⊢
          refine hK _ _ ⟨RL_sara4_94.out, B_sara4_94.out⟩ (fun _ => ?_)
          clear hK K
          try simp only [Act.put, List.setIfInBounds_toArray, List.set_cons_zero, List.set_cons_succ]
          refine wpAnyH_done (by kernel_rfl) ?_ _
          go_wp2_with fail
          go_meet
          exact ⟨_, _, _, _, rfl, rfl, RL_sara4_94.out, S1_sara4_94.out, S2_sara4_94.out, P1_sara4_94.out, P2_sara4_94.out, by omega, by omega, by omega, by omega, by omega, by omega, B_sara4_94.out⟩
        · try rw [if_pos (by rfl)]
          go_simp
          have hltara4_95_1_0 : w.heap.size < Vara4_88_1.heap.size := RL_ara4_88_1.out.lt
          have hltara4_95_1_1 : Da4.heap.size < Vara4_88_1.heap.size := S1_ara4_88_1.out.lt
          have hltara4_95_1_2 : Vara4_87_1.heap.size < Vara4_88_1.heap.size := P1_ara4_88_1.out.lt
          have RL_ara4_95_1 := Lib.hid (RL_ara4_88_1.out.alloc zS)
          have S1_ara4_95_1 := Lib.hid (S1_ara4_88_1.out.alloc zS)
          have P1_ara4_95_1 := Lib.hid (P1_ara4_88_1.out.alloc zS)
          have S2_ara4_95_1 := Lib.hid (row_last Vara4_88_1 (Vara4_88_1.heap.size) 66 [.slice none 0 0, .int .i64 0, .int .i64 0, .int .i64 0, .int .i64 0] (by simp))
          have B_ara4_95_1 := Lib.hid (B_ara4_88_1.out.alloc B_ara4_88_1.out.size zS)
          clear RL_ara4_88_1 S1_ara4_88_1 P1_ara4_88_1 B_ara4_88_1
          generalize (Vara4_88_1.alloc zS) = Vara4_95_1 at RL_ara4_95_1 S1_ara4_95_1 P1_ara4_95_1 S2_ara4_95_1 B_ara4_95_1 ⊢
          refine hK _ _ ⟨RL_ara4_95_1.out, B_ara4_95_1.out⟩ (fun _ => ?_)
          clear hK K
          try simp only [Act.put, List.setIfInBounds_toArray, List.set_cons_zero, List.set_cons_succ]
          refine wpAnyH_ready (rs := [8, 16]) (by kernel_rfl) (by simp) ?_
          refine (AllReadyH.cons rfl (fun K hK => ?_) (AllReadyH.cons rfl (fun K hK => ?_) AllReadyH.nil))
          · try rw [if_pos (by rfl)]
            go_simp
            have hltara4_96_1_0 : w.heap.size < Vara4_95_1.heap.size := RL_ara4_95_1.out.lt
            have hltara4_96_1_1 : Da4.heap.size < Vara4_95_1.heap.size := S1_ara4_95_1.out.lt
            have hltara4_96_1_2 : Vara4_87_1.heap.size < Vara4_95_1.heap.size := P1_ara4_95_1.out.lt
            have hltara4_96_1_3 : Vara4_88_1.heap.size < Vara4_95_1.heap.size := S2_ara4_95_1.out.lt
            have RL_ara4_96_1 := Lib.hid (RL_ara4_95_1.out.alloc (zI k))
            have S1_ara4_96_1 := Lib.hid (S1_ara4_95_1.out.alloc (zI k))
            have P1_ara4_96_1 := Lib.hid (P1_ara4_95_1.out.alloc (zI k))
            have S2_ara4_96_1 := Lib.hid (S2_ara4_95_1.out.alloc (zI k))
            have P2_ara4_96_1 := Lib.hid (row_last Vara4_95_1 (Vara4_95_1.heap.size) 3 [.int .i64 (k : Int)] (by simp))
            have B_ara4_96_1 := Lib.hid (B_ara4_95_1.out.alloc B_ara4_95_1.out.size (zI k))
            clear RL_ara4_95_1 S1_ara4_95_1 P1_ara4_95_1 S2_ara4_95_1 B_ara4_95_1
            generalize (Vara4_95_1.alloc (zI k)) = Vara4_96_1 at RL_ara4_96_1 S1_ara4_96_1 P1_ara4_96_1 S2_ara4_96_1 P2_ara4_96_1 B_ara4_96_1 ⊢
            refine hK _ _ ⟨RL_ara4_96_1.out, B_ara4_96_1.out⟩ (fun _ => ?_)
            clear hK K
            try simp only [Act.put, List.setIfInBounds_toArray, List.set_cons_zero, List.set_cons_succ]
            refine wpAnyH_take (i := 13) (oi := ⟨some 30, _, _, _, _, _⟩) (v := ?vara4_97) rfl (by kernel_rfl) (by kernel_rfl) (by kernel_rfl) (fun _ _ _ h => h) (Or.inl ⟨by rfl, ?yara4_97⟩) ⟨RL_ara4_96_1.out, B_ara4_96_1.out⟩ ?rara4_97
            case yara4_97 =>
              rintro w' hSw
              go_simp
              try with_reducible rfl
            try simp only [Act.put, List.setIfInBounds_toArray, List.set_cons_zero, List.set_cons_succ]
            refine wpAnyH_ready (rs := [16]) (by kernel_rfl) (by simp) ?_
            refine (AllReadyH.cons rfl (fun K hK => ?_) AllReadyH.nil)
            obtain ⟨k0, k1, k2, k3, k4, f0, f1, f2, f3, f4⟩ := row5 S1_ara4_96_1.out
            rw [if_pos (by rfl)]
            go_simp
            clear f0 k0 f1 k1 f2 k2 f3 k3 f4 k4
            change K _ (st5 Vara4_96_1 (Da4.heap.size) (.slice (some ⟨Vara4_87_1.heap.size, 0, none⟩) 1 1) (.int .i64 x.x0) (.int .i64 x.x1) (.int .i64 x.y0) (.int .i64 x.y1))
            have RL_sara4_98 := Lib.hid (st5_far (g := Da4.heap.size) RL_ara4_96_1.out (by omega) (.slice (some ⟨Vara4_87_1.heap.size, 0, none⟩) 1 1) (.int .i64 x.x0) (.int .i64 x.x1) (.int .i64 x.y0) (.int .i64 x.y1))
            have S1_sara4_98 := Lib.hid (st5_row S1_ara4_96_1.out (.slice (some ⟨Vara4_87_1.heap.size, 0, none⟩) 1 1) (.int .i64 x.x0) (.int .i64 x.x1) (.int .i64 x.y0) (.int .i64 x.y1))
            have P1_sara4_98 := Lib.hid (st5_far (g := Da4.heap.size) P1_ara4_96_1.out (by omega) (.slice (some ⟨Vara4_87_1.heap.size, 0, none⟩) 1 1) (.int .i64 x.x0) (.int .i64 x.x1) (.int .i64 x.y0) (.int .i64 x.y1))
            have S2_sara4_98 := Lib.hid (st5_far (g := Da4.heap.size) S2_ara4_96_1.out (by omega) (.slice (some ⟨Vara4_87_1.heap.size, 0, none⟩) 1 1) (.int .i64 x.x0) (.int .i64 x.x1) (.int .i64 x.y0) (.int .i64 x.y1))
            have P2_sara4_98 := Lib.hid (st5_far (g := Da4.heap.size) P2_ara4_96_1.out (by omega) (.slice (some ⟨Vara4_87_1.heap.size, 0, none⟩) 1 1) (.int .i64 x.x0) (.int .i64 x.x1) (.int .i64 x.y0) (.int .i64 x.y1))
            have B_sara4_98 := Lib.hid (st5_below (g := Da4.heap.size) B_ara4_96_1.out (by omega) (.slice (some ⟨Vara4_87_1.heap.size, 0, none⟩) 1 1) (.int .i64 x.x0) (.int .i64 x.x1) (.int .i64 x.y0) (.int .i64 x.y1))
            clear RL_ara4_96_1 S1_ara4_96_1 P1_ara4_96_1 S2_ara4_96_1 P2_ara4_96_1 B_ara4_96_1
            generalize st5 Vara4_96_1 (Da4.heap.size) (.slice (some ⟨Vara4_87_1.heap.size, 0, none⟩) 1 1) (.int .i64 x.x0) (.int .i64 x.x1) (.int .i64 x.y0) (.int .i64 x.y1) = Xara4_98 at RL_sara4_98 S1_sara4_98 P1_sara4_98 S2_sara4_98 P2_sara4_98 B_sara4_98 ⊢
            refine hK _ _ ⟨RL_sara4_98.out, B_sara4_98.out⟩ (fun _ => ?_)
            clear hK K
            try simp only [Act.put, List.setIfInBounds_toArray, List.set_cons_zero, List.set_cons_succ]
            refine wpAnyH_ready (rs := [17]) (by kernel_rfl) (by simp) ?_
            refine (AllReadyH.cons rfl (fun K hK => ?_) AllReadyH.nil)
            obtain ⟨k0, k1, k2, k3, k4, f0, f1, f2, f3, f4⟩ := row5 S2_sara4_98.out
            rw [if_pos (by rfl)]
            go_simp
            clear f0 k0 f1 k1 f2 k2 f3 k3 f4 k4
            change K _ (st5 Xara4_98 (Vara4_88_1.heap.size) (.slice (some ⟨Vara4_95_1.heap.size, 0, none⟩) 1 1) (.int .i64 y.x0) (.int .i64 y.x1) (.int .i64 y.y0) (.int .i64 y.y1))
            have RL_sara4_99 := Lib.hid (st5_far (g := Vara4_88_1.heap.size) RL_sara4_98.out (by omega) (.slice (some ⟨Vara4_95_1.heap.size, 0, none⟩) 1 1) (.int .i64 y.x0) (.int .i64 y.x1) (.int .i64 y.y0) (.int .i64 y.y1))
            have S1_sara4_99 := Lib.hid (st5_far (g := Vara4_88_1.heap.size) S1_sara4_98.out (by omega) (.slice (some ⟨Vara4_95_1.heap.size, 0, none⟩) 1 1) (.int .i64 y.x0) (.int .i64 y.x1) (.int .i64 y.y0) (.int .i64 y.y1))
            have P1_sara4_99 := Lib.hid (st5_far (g := Vara4_88_1.heap.size) P1_sara4_98.out (by omega) (.slice (some ⟨Vara4_95_1.heap.size, 0, none⟩) 1 1) (.int .i64 y.x0) (.int .i64 y.x1) (.int .i64 y.y0) (.int .i64 y.y1))
            have S2_sara4_99 := Lib.hid (st5_row S2_sara4_98.out (.slice (some ⟨Vara4_95_1.heap.size, 0, none⟩) 1 1) (.int .i64 y.x0) (.int .i64 y.x1) (.int .i64 y.y0) (.int .i64 y.y1))
            have P2_sara4_99 := Lib.hid (st5_far (g := Vara4_88_1.heap.size) P2_sara4_98.out (by omega) (.slice (some ⟨Vara4_95_1.heap.size, 0, none⟩) 1 1) (.int .i64 y.x0) (.int .i64 y.x1) (.int .i64 y.y0) (.int .i64 y.y1))
            have B_sara4_99 := Lib.hid (st5_below (g := Vara4_88_1.heap.size) B_sara4_98.out (by omega) (.slice (some ⟨Vara4_95_1.heap.size, 0, none⟩) 1 1) (.int .i64 y.x0) (.int .i64 y.x1) (.int .i64 y.y0) (.int .i64 y.y1))
            clear RL_sara4_98 S1_sara4_98 P1_sara4_98 S2_sara4_98 P2_sara4_98 B_sara4_98
            generalize st5 Xara4_98 (Vara4_88_1.heap.size) (.slice (some ⟨Vara4_95_1.heap.size, 0, none⟩) 1 1) (.int .i64 y.x0) (.int .i64 y.x1) (.int .i64 y.y0) (.int .i64 y.y1) = Xara4_99 at RL_sara4_99 S1_sara4_99 P1_sara4_99 S2_sara4_99 P2_sara4_99 B_sara4_99 ⊢
            refine hK _ _ ⟨RL_sara4_99.out, B_sara4_99.out⟩ (fun _ => ?_)
            clear hK K
            try simp only [Act.put, List.setIfInBounds_toArray, List.set_cons_zero, List.set_cons_succ]
            refine wpAnyH_done (by kernel_rfl) ?_ _
            go_wp2_with fail
            go_meet
            exact ⟨_, _, _, _, rfl, rfl, RL_sara4_99.out, S1_sara4_99.out, S2_sara4_99.out, P1_sara4_99.out, P2_sara4_99.out, by omega, by omega, by omega, by omega, by omega, by omega, B_sara4_99.out⟩
          · obtain ⟨k0, k1, k2, k3, k4, f0, f1, f2, f3, f4⟩ := row5 S1_ara4_95_1.out
            rw [if_pos (by rfl)]
            go_simp
            clear f0 k0 f1 k1 f2 k2 f3 k3 f4 k4
            change K _ (st5 Vara4_95_1 (Da4.heap.size) (.slice (some ⟨Vara4_87_1.heap.size, 0, none⟩) 1 1) (.int .i64 x.x0) (.int .i64 x.x1) (.int .i64 x.y0) (.int .i64 x.y1))
            have RL_sara4_100 := Lib.hid (st5_far (g := Da4.heap.size) RL_ara4_95_1.out (by omega) (.slice (some ⟨Vara4_87_1.heap.size, 0, none⟩) 1 1) (.int .i64 x.x0) (.int .i64 x.x1) (.int .i64 x.y0) (.int .i64 x.y1))
            have S1_sara4_100 := Lib.hid (st5_row S1_ara4_95_1.out (.slice (some ⟨Vara4_87_1.heap.size, 0, none⟩) 1 1) (.int .i64 x.x0) (.int .i64 x.x1) (.int .i64 x.y0) (.int .i64 x.y1))
            have P1_sara4_100 := Lib.hid (st5_far (g := Da4.heap.size) P1_ara4_95_1.out (by omega) (.slice (some ⟨Vara4_87_1.heap.size, 0, none⟩) 1 1) (.int .i64 x.x0) (.int .i64 x.x1) (.int .i64 x.y0) (.int .i64 x.y1))
            have S2_sara4_100 := Lib.hid (st5_far (g := Da4.heap.size) S2_ara4_95_1.out (by omega) (.slice (some ⟨Vara4_87_1.heap.size, 0, none⟩) 1 1) (.int .i64 x.x0) (.int .i64 x.x1) (.int .i64 x.y0) (.int .i64 x.y1))
            have B_sara4_100 := Lib.hid (st5_below (g := Da4.heap.size) B_ara4_95_1.out (by omega) (.slice (some ⟨Vara4_87_1.heap.size, 0, none⟩) 1 1) (.int .i64 x.x0) (.int .i64 x.x1) (.int .i64 x.y0) (.int .i64 x.y1))
            clear RL_ara4_95_1 S1_ara4_95_1 P1_ara4_95_1 S2_ara4_95_1 B_ara4_95_1
            generalize st5 Vara4_95_1 (Da4.heap.size) (.slice (some ⟨Vara4_87_1.heap.size, 0, none⟩) 1 1) (.int .i64 x.x0) (.int .i64 x.x1) (.int .i64 x.y0) (.int .i64 x.y1) = Xara4_100 at RL_sara4_100 S1_sara4_100 P1_sara4_100 S2_sara4_100 B_sara4_100 ⊢
            refine hK _ _ ⟨RL_sara4_100.out, B_sara4_100.out⟩ (fun _ => ?_)
            clear hK K
            try simp only [Act.put, List.setIfInBounds_toArray, List.set_cons_zero, List.set_cons_succ]
            refine wpAnyH_ready (rs := [8]) (by kernel_rfl) (by simp) ?_
            refine (AllReadyH.cons rfl (fun K hK => ?_) AllReadyH.nil)
            try rw [if_pos (by rfl)]
            go_simp
            have hltara4_101_1_0 : w.heap.size < Xara4_100.heap.size := RL_sara4_100.out.lt
            have hltara4_101_1_1 : Da4.heap.size < Xara4_100.heap.size := S1_sara4_100.out.lt
            have hltara4_101_1_2 : Vara4_87_1.heap.size < Xara4_100.heap.size := P1_sara4_100.out.lt
            have hltara4_101_1_3 : Vara4_88_1.heap.size < Xara4_100.heap.size := S2_sara4_100.out.lt
            have RL_ara4_101_1 := Lib.hid (RL_sara4_100.out.alloc (zI k))
            have S1_ara4_101_1 := Lib.hid (S1_sara4_100.out.alloc (zI k))
            have P1_ara4_101_1 := Lib.hid (P1_sara4_100.out.alloc (zI k))
            have S2_ara4_101_1 := Lib.hid (S2_sara4_100.out.alloc (zI k))
            have P2_ara4_101_1 := Lib.hid (row_last Xara4_100 (Xara4_100.heap.size) 3 [.int .i64 (k : Int)] (by simp))
            have B_ara4_101_1 := Lib.hid (B_sara4_100.out.alloc B_sara4_100.out.size (zI k))
            clear RL_sara4_100 S1_sara4_100 P1_sara4_100 S2_sara4_100 B_sara4_100
            generalize (Xara4_100.alloc (zI k)) = Vara4_101_1 at RL_ara4_101_1 S1_ara4_101_1 P1_ara4_101_1 S2_ara4_101_1 P2_ara4_101_1 B_ara4_101_1 ⊢
            refine hK _ _ ⟨RL_ara4_101_1.out, B_ara4_101_1.out⟩ (fun _ => ?_)
            clear hK K
            try simp only [Act.put, List.setIfInBounds_toArray, List.set_cons_zero, List.set_cons_succ]
            refine wpAnyH_take (i := 13) (oi := ⟨some 30, _, _, _, _, _⟩) (v := ?vara4_102) rfl (by kernel_rfl) (by kernel_rfl) (by kernel_rfl) (fun _ _ _ h => h) (Or.inl ⟨by rfl, ?yara4_102⟩) ⟨RL_ara4_101_1.out, B_ara4_101_1.out⟩ ?rara4_102
            case yara4_102 =>
              rintro w' hSw
              go_simp
              try with_reducible rfl
            try simp only [Act.put, List.setIfInBounds_toArray, List.set_cons_zero, List.set_cons_succ]
            refine wpAnyH_ready (rs := [17]) (by kernel_rfl) (by simp) ?_
            refine (AllReadyH.cons rfl (fun K hK => ?_) AllReadyH.nil)
            obtain ⟨k0, k1, k2, k3, k4, f0, f1, f2, f3, f4⟩ := row5 S2_ara4_101_1.out
            rw [if_pos (by rfl)]
            go_simp
            clear f0 k0 f1 k1 f2 k2 f3 k3 f4 k4
            change K _ (st5 Vara4_101_1 (Vara4_88_1.heap.size) (.slice (some ⟨Xara4_100.heap.size, 0, none⟩) 1 1) (.int .i64 y.x0) (.int .i64 y.x1) (.int .i64 y.y0) (.int .i64 y.y1))
            have RL_sara4_103 := Lib.hid (st5_far (g := Vara4_88_1.heap.size) RL_ara4_101_1.out (by omega) (.slice (some ⟨Xara4_100.heap.size, 0, none⟩) 1 1) (.int .i64 y.x0) (.int .i64 y.x1) (.int .i64 y.y0) (.int .i64 y.y1))
            have S1_sara4_103 := Lib.hid (st5_far (g := Vara4_88_1.heap.size) S1_ara4_101_1.out (by omega) (.slice (some ⟨Xara4_100.heap.size, 0, none⟩) 1 1) (.int .i64 y.x0) (.int .i64 y.x1) (.int .i64 y.y0) (.int .i64 y.y1))
            have P1_sara4_103 := Lib.hid (st5_far (g := Vara4_88_1.heap.size) P1_ara4_101_1.out (by omega) (.slice (some ⟨Xara4_100.heap.size, 0, none⟩) 1 1) (.int .i64 y.x0) (.int .i64 y.x1) (.int .i64 y.y0) (.int .i64 y.y1))
            have S2_sara4_103 := Lib.hid (st5_row S2_ara4_101_1.out (.slice (some ⟨Xara4_100.heap.size, 0, none⟩) 1 1) (.int .i64 y.x0) (.int .i64 y.x1) (.int .i64 y.y0) (.int .i64 y.y1))
            have P2_sara4_103 := Lib.hid (st5_far (g := Vara4_88_1.heap.size) P2_ara4_101_1.out (by omega) (.slice (some ⟨Xara4_100.heap.size, 0, none⟩) 1 1) (.int .i64 y.x0) (.int .i64 y.x1) (.int .i64 y.y0) (.int .i64 y.y1))
            have B_sara4_103 := Lib.hid (st5_below (g := Vara4_88_1.heap.size) B_ara4_101_1.out (by omega) (.slice (some ⟨Xara4_100.heap.size, 0, none⟩) 1 1) (.int .i64 y.x0) (.int .i64 y.x1) (.int .i64 y.y0) (.int .i64 y.y1))
            clear RL_ara4_101_1 S1_ara4_101_1 P1_ara4_101_1 S2_ara4_101_1 P2_ara4_101_1 B_ara4_101_1
            generalize st5 Vara4_101_1 (Vara4_88_1.heap.size) (.slice (some ⟨Xara4_100.heap.size, 0, none⟩) 1 1) (.int .i64 y.x0) (.int .i64 y.x1) (.int .i64 y.y0) (.int .i64 y.y1) = Xara4_103 at RL_sara4_103 S1_sara4_103 P1_sara4_103 S2_sara4_103 P2_sara4_103 B_sara4_103 ⊢
            refine hK _ _ ⟨RL_sara4_103.out, B_sara4_103.out⟩ (fun _ => ?_)
            clear hK K
            try simp only [Act.put, List.setIfInBounds_toArray, List.set_cons_zero, List.set_cons_succ]
            refine wpAnyH_done (by kernel_rfl) ?_ _
            go_wp2_with fail
            go_meet
            exact ⟨_, _, _, _, rfl, rfl, RL_sara4_103.out, S1_sara4_103.out, S2_sara4_103.out, P1_sara4_103.out, P2_sara4_103.out, by omega, by omega, by omega, by omega, by omega, by omega, B_sara4_103.out⟩
      · try rw [if_pos (by rfl)]
        go_simp
        have hltara4_104_1_0 : w.heap.size < Vara4_87_1.heap.size := RL_ara4_87_1.out.lt
        have hltara4_104_1_1 : Da4.heap.size < Vara4_87_1.heap.size := S1_ara4_87_1.out.lt
        have RL_ara4_104_1 := Lib.hid (RL_ara4_87_1.out.alloc (zI k))
        have S1_ara4_104_1 := Lib.hid (S1_ara4_87_1.out.alloc (zI k))
        have P2_ara4_104_1 := Lib.hid (row_last Vara4_87_1 (Vara4_87_1.heap.size) 3 [.int .i64 (k : Int)] (by simp))
        have B_ara4_104_1 := Lib.hid (B_ara4_87_1.out.alloc B_ara4_87_1.out.size (zI k))
        clear RL_ara4_87_1 S1_ara4_87_1 B_ara4_87_1
        generalize (Vara4_87_1.alloc (zI k)) = Vara4_104_1 at RL_ara4_104_1 S1_ara4_104_1 P2_ara4_104_1 B_ara4_104_1 ⊢
        refine hK _ _ ⟨RL_ara4_104_1.out, B_ara4_104_1.out⟩ (fun _ => ?_)
        clear hK K
        try simp only [Act.put, List.setIfInBounds_toArray, List.set_cons_zero, List.set_cons_succ]
        refine wpAnyH_take (i := 13) (oi := ⟨some 30, _, _, _, _, _⟩) (v := ?vara4_105) rfl (by kernel_rfl) (by kernel_rfl) (by kernel_rfl) (fun _ _ _ h => h) (Or.inl ⟨by rfl, ?yara4_105⟩) ⟨RL_ara4_104_1.out, B_ara4_104_1.out⟩ ?rara4_105
        case yara4_105 =>
          rintro w' hSw
          go_simp
          try with_reducible rfl
        try simp only [Act.put, List.setIfInBounds_toArray, List.set_cons_zero, List.set_cons_succ]
        refine wpAnyH_ready (rs := [1, 15]) (by kernel_rfl) (by simp) ?_
        refine (AllReadyH.cons rfl (fun K hK => ?_) (AllReadyH.cons rfl (fun K hK => ?_) AllReadyH.nil))
        · try rw [if_pos (by rfl)]
          go_simp
          have hltara4_106_1_0 : w.heap.size < Vara4_104_1.heap.size := RL_ara4_104_1.out.lt
          have hltara4_106_1_1 : Da4.heap.size < Vara4_104_1.heap.size := S1_ara4_104_1.out.lt
          have hltara4_106_1_2 : Vara4_87_1.heap.size < Vara4_104_1.heap.size := P2_ara4_104_1.out.lt
          have RL_ara4_106_1 := Lib.hid (RL_ara4_104_1.out.alloc (zI i))
          have S1_ara4_106_1 := Lib.hid (S1_ara4_104_1.out.alloc (zI i))
          have P2_ara4_106_1 := Lib.hid (P2_ara4_104_1.out.alloc (zI i))
          have P1_ara4_106_1 := Lib.hid (row_last Vara4_104_1 (Vara4_104_1.heap.size) 3 [.int .i64 (i : Int)] (by simp))
          have B_ara4_106_1 := Lib.hid (B_ara4_104_1.out.alloc B_ara4_104_1.out.size (zI i))
          clear RL_ara4_104_1 S1_ara4_104_1 P2_ara4_104_1 B_ara4_104_1
          generalize (Vara4_104_1.alloc (zI i)) = Vara4_106_1 at RL_ara4_106_1 S1_ara4_106_1 P2_ara4_106_1 P1_ara4_106_1 B_ara4_106_1 ⊢
          refine hK _ _ ⟨RL_ara4_106_1.out, B_ara4_106_1.out⟩ (fun _ => ?_)
          clear hK K
          try simp only [Act.put, List.setIfInBounds_toArray, List.set_cons_zero, List.set_cons_succ]
          refine wpAnyH_take (i := 6) (oi := ⟨some 23, _, _, _, _, _⟩) (v := ?vara4_107) rfl (by kernel_rfl) (by kernel_rfl) (by kernel_rfl) (fun _ _ _ h => h) (Or.inl ⟨by rfl, ?yara4_107⟩) ⟨RL_ara4_106_1.out, B_ara4_106_1.out⟩ ?rara4_107
          case yara4_107 =>
            rintro w' hSw
            go_simp
            try with_reducible rfl
          try simp only [Act.put, List.setIfInBounds_toArray, List.set_cons_zero, List.set_cons_succ]
          refine wpAnyH_ready (rs := [15]) (by kernel_rfl) (by simp) ?_
          refine (AllReadyH.cons rfl (fun K hK => ?_) AllReadyH.nil)
          try rw [if_pos (by rfl)]
          go_simp
          have hltara4_108_1_0 : w.heap.size < Vara4_106_1.heap.size := RL_ara4_106_1.out.lt
          have hltara4_108_1_1 : Da4.heap.size < Vara4_106_1.heap.size := S1_ara4_106_1.out.lt
          have hltara4_108_1_2 : Vara4_87_1.heap.size < Vara4_106_1.heap.size := P2_ara4_106_1.out.lt
          have hltara4_108_1_3 : Vara4_104_1.heap.size < Vara4_106_1.heap.size := P1_ara4_106_1.out.lt
          have RL_ara4_108_1 := Lib.hid (RL_ara4_106_1.out.alloc zS)
          have S1_ara4_108_1 := Lib.hid (S1_ara4_106_1.out.alloc zS)
          have P2_ara4_108_1 := Lib.hid (P2_ara4_106_1.out.alloc zS)
          have P1_ara4_108_1 := Lib.hid (P1_ara4_106_1.out.alloc zS)
          have S2_ara4_108_1 := Lib.hid (row_last Vara4_106_1 (Vara4_106_1.heap.size) 66 [.slice none 0 0, .int .i64 0, .int .i64 0, .int .i64 0, .int .i64 0] (by simp))
          have B_ara4_108_1 := Lib.hid (B_ara4_106_1.out.alloc B_ara4_106_1.out.size zS)
          clear RL_ara4_106_1 S1_ara4_106_1 P2_ara4_106_1 P1_ara4_106_1 B_ara4_106_1
          generalize (Vara4_106_1.alloc zS) = Vara4_108_1 at RL_ara4_108_1 S1_ara4_108_1 P2_ara4_108_1 P1_ara4_108_1 S2_ara4_108_1 B_ara4_108_1 ⊢
          refine hK _ _ ⟨RL_ara4_108_1.out, B_ara4_108_1.out⟩ (fun _ => ?_)
          clear hK K
          try simp only [Act.put, List.setIfInBounds_toArray, List.set_cons_zero, List.set_cons_succ]
          refine wpAnyH_ready (rs := [16]) (by kernel_rfl) (by simp) ?_
          refine (AllReadyH.cons rfl (fun K hK => ?_) AllReadyH.nil)
          obtain ⟨k0, k1, k2, k3, k4, f0, f1, f2, f3, f4⟩ := row5 S1_ara4_108_1.out
          rw [if_pos (by rfl)]
          go_simp
          clear f0 k0 f1 k1 f2 k2 f3 k3 f4 k4
          change K _ (st5 Vara4_108_1 (Da4.heap.size) (.slice (some ⟨Vara4_104_1.heap.size, 0, none⟩) 1 1) (.int .i64 x.x0) (.int .i64 x.x1) (.int .i64 x.y0) (.int .i64 x.y1))
          have RL_sara4_109 := Lib.hid (st5_far (g := Da4.heap.size) RL_ara4_108_1.out (by omega) (.slice (some ⟨Vara4_104_1.heap.size, 0, none⟩) 1 1) (.int .i64 x.x0) (.int .i64 x.x1) (.int .i64 x.y0) (.int .i64 x.y1))
          have S1_sara4_109 := Lib.hid (st5_row S1_ara4_108_1.out (.slice (some ⟨Vara4_104_1.heap.size, 0, none⟩) 1 1) (.int .i64 x.x0) (.int .i64 x.x1) (.int .i64 x.y0) (.int .i64 x.y1))
          have P2_sara4_109 := Lib.hid (st5_far (g := Da4.heap.size) P2_ara4_108_1.out (by omega) (.slice (some ⟨Vara4_104_1.heap.size, 0, none⟩) 1 1) (.int .i64 x.x0) (.int .i64 x.x1) (.int .i64 x.y0) (.int .i64 x.y1))
          have P1_sara4_109 := Lib.hid (st5_far (g := Da4.heap.size) P1_ara4_108_1.out (by omega) (.slice (some ⟨Vara4_104_1.heap.size, 0, none⟩) 1 1) (.int .i64 x.x0) (.int .i64 x.x1) (.int .i64 x.y0) (.int .i64 x.y1))
          have S2_sara4_109 := Lib.hid (st5_far (g := Da4.heap.size) S2_ara4_108_1.out (by omega) (.slice (some ⟨Vara4_104_1.heap.size, 0, none⟩) 1 1) (.int .i64 x.x0) (.int .i64 x.x1) (.int .i64 x.y0) (.int .i64 x.y1))
          have B_sara4_109 := Lib.hid (st5_below (g := Da4.heap.size) B_ara4_108_1.out (by omega) (.slice (some ⟨Vara4_104_1.heap.size, 0, none⟩) 1 1) (.int .i64 x.x0) (.int .i64 x.x1) (.int .i64 x.y0) (.int .i64 x.y1))
          clear RL_ara4_108_1 S1_ara4_108_1 P2_ara4_108_1 P1_ara4_108_1 S2_ara4_108_1 B_ara4_108_1
          generalize st5 Vara4_108_1 (Da4.heap.size) (.slice (some ⟨Vara4_104_1.heap.size, 0, none⟩) 1 1) (.int .i64 x.x0) (.int .i64 x.x1) (.int .i64 x.y0) (.int .i64 x.y1) = Xara4_109 at RL_sara4_109 S1_sara4_109 P2_sara4_109 P1_sara4_109 S2_sara4_109 B_sara4_109 ⊢
          refine hK _ _ ⟨RL_sara4_109.out, B_sara4_109.out⟩ (fun _ => ?_)
          clear hK K
          try simp only [Act.put, List.setIfInBounds_toArray, List.set_cons_zero, List.set_cons_succ]
          refine wpAnyH_ready (rs := [17]) (by kernel_rfl) (by simp) ?_
          refine (AllReadyH.cons rfl (fun K hK => ?_) AllReadyH.nil)
          obtain ⟨k0, k1, k2, k3, k4, f0, f1, f2, f3, f4⟩ := row5 S2_sara4_109.out
          rw [if_pos (by rfl)]
          go_simp
          clear f0 k0 f1 k1 f2 k2 f3 k3 f4 k4
          change K _ (st5 Xara4_109 (Vara4_106_1.heap.size) (.slice (some ⟨Vara4_87_1.heap.size, 0, none⟩) 1 1) (.int .i64 y.x0) (.int .i64 y.x1) (.int .i64 y.y0) (.int .i64 y.y1))
          have RL_sara4_110 := Lib.hid (st5_far (g := Vara4_106_1.heap.size) RL_sara4_109.out (by omega) (.slice (some ⟨Vara4_87_1.heap.size, 0, none⟩) 1 1) (.int .i64 y.x0) (.int .i64 y.x1) (.int .i64 y.y0) (.int .i64 y.y1))
          have S1_sara4_110 := Lib.hid (st5_far (g := Vara4_106_1.heap.size) S1_sara4_109.out (by omega) (.slice (some ⟨Vara4_87_1.heap.size, 0, none⟩) 1 1) (.int .i64 y.x0) (.int .i64 y.x1) (.int .i64 y.y0) (.int .i64 y.y1))
          have P2_sara4_110 := Lib.hid (st5_far (g := Vara4_106_1.heap.size) P2_sara4_109.out (by omega) (.slice (some ⟨Vara4_87_1.heap.size, 0, none⟩) 1 1) (.int .i64 y.x0) (.int .i64 y.x1) (.int .i64 y.y0) (.int .i64 y.y1))
          have P1_sara4_110 := Lib.hid (st5_far (g := Vara4_106_1.heap.size) P1_sara4_109.out (by omega) (.slice (some ⟨Vara4_87_1.heap.size, 0, none⟩) 1 1) (.int .i64 y.x0) (.int .i64 y.x1) (.int .i64 y.y0) (.int .i64 y.y1))
          have S2_sara4_110 := Lib.hid (st5_row S2_sara4_109.out (.slice (some ⟨Vara4_87_1.heap.size, 0, none⟩) 1 1) (.int .i64 y.x0) (.int .i64 y.x1) (.int .i64 y.y0) (.int .i64 y.y1))
          have B_sara4_110 := Lib.hid (st5_below (g := Vara4_106_1.heap.size) B_sara4_109.out (by omega) (.slice (some ⟨Vara4_87_1.heap.size, 0, none⟩) 1 1) (.int .i64 y.x0) (.int .i64 y.x1) (.int .i64 y.y0) (.int .i64 y.y1))
          clear RL_sara4_109 S1_sara4_109 P2_sara4_109 P1_sara4_109 S2_sara4_109 B_sara4_109
          generalize st5 Xara4_109 (Vara4_106_1.heap.size) (.slice (some ⟨Vara4_87_1.heap.size, 0, none⟩) 1 1) (.int .i64 y.x0) (.int .i64 y.x1) (.int .i64 y.y0) (.int .i64 y.y1) = Xara4_110 at RL_sara4_110 S1_sara4_110 P2_sara4_110 P1_sara4_110 S2_sara4_110 B_sara4_110 ⊢
          refine hK _ _ ⟨RL_sara4_110.out, B_sara4_110.out⟩ (fun _ => ?_)
          clear hK K
          try simp only [Act.put, List.setIfInBounds_toArray, List.set_cons_zero, List.set_cons_succ]
          refine wpAnyH_done (by kernel_rfl) ?_ _
          go_wp2_with fail
          go_meet
          exact ⟨_, _, _, _, rfl, rfl, RL_sara4_110.out, S1_sara4_110.out, S2_sara4_110.out, P1_sara4_110.out, P2_sara4_110.out, by omega, by omega, by omega, by omega, by omega, by omega, B_sara4_110.out⟩
        · try rw [if_pos (by rfl)]
          go_simp
          have hltara4_111_1_0 : w.heap.size < Vara4_104_1.heap.size := RL_ara4_104_1.out.lt
          have hltara4_111_1_1 : Da4.heap.size < Vara4_104_1.heap.size := S1_ara4_104_1.out.lt
          have hltara4_111_1_2 : Vara4_87_1.heap.size < Vara4_104_1.heap.size := P2_ara4_104_1.out.lt
          have RL_ara4_111_1 := Lib.hid (RL_ara4_104_1.out.alloc zS)
          have S1_ara4_111_1 := Lib.hid (S1_ara4_104_1.out.alloc zS)
          have P2_ara4_111_1 := Lib.hid (P2_ara4_104_1.out.alloc zS)
          have S2_ara4_111_1 := Lib.hid (row_last Vara4_104_1 (Vara4_104_1.heap.size) 66 [.slice none 0 0, .int .i64 0, .int .i64 0, .int .i64 0, .int .i64 0] (by simp))
          have B_ara4_111_1 := Lib.hid (B_ara4_104_1.out.alloc B_ara4_104_1.out.size zS)
          clear RL_ara4_104_1 S1_ara4_104_1 P2_ara4_104_1 B_ara4_104_1
          generalize (Vara4_104_1.alloc zS) = Vara4_111_1 at RL_ara4_111_1 S1_ara4_111_1 P2_ara4_111_1 S2_ara4_111_1 B_ara4_111_1 ⊢
          refine hK _ _ ⟨RL_ara4_111_1.out, B_ara4_111_1.out⟩ (fun _ => ?_)
          clear hK K
          try simp only [Act.put, List.setIfInBounds_toArray, List.set_cons_zero, List.set_cons_succ]
          refine wpAnyH_ready (rs := [1]) (by kernel_rfl) (by simp) ?_
          refine (AllReadyH.cons rfl (fun K hK => ?_) AllReadyH.nil)
          try rw [if_pos (by rfl)]
          go_simp
          have hltara4_112_1_0 : w.heap.size < Vara4_111_1.heap.size := RL_ara4_111_1.out.lt
          have hltara4_112_1_1 : Da4.heap.size < Vara4_111_1.heap.size := S1_ara4_111_1.out.lt
          have hltara4_112_1_2 : Vara4_87_1.heap.size < Vara4_111_1.heap.size := P2_ara4_111_1.out.lt
          have hltara4_112_1_3 : Vara4_104_1.heap.size < Vara4_111_1.heap.size := S2_ara4_111_1.out.lt
          have RL_ara4_112_1 := Lib.hid (RL_ara4_111_1.out.alloc (zI i))
          have S1_ara4_112_1 := Lib.hid (S1_ara4_111_1.out.alloc (zI i))
          have P2_ara4_112_1 := Lib.hid (P2_ara4_111_1.out.alloc (zI i))
          have S2_ara4_112_1 := Lib.hid (S2_ara4_111_1.out.alloc (zI i))
          have P1_ara4_112_1 := Lib.hid (row_last Vara4_111_1 (Vara4_111_1.heap.size) 3 [.int .i64 (i : Int)] (by simp))
          have B_ara4_112_1 := Lib.hid (B_ara4_111_1.out.alloc B_ara4_111_1.out.size (zI i))
          clear RL_ara4_111_1 S1_ara4_111_1 P2_ara4_111_1 S2_ara4_111_1 B_ara4_111_1
          generalize (Vara4_111_1.alloc (zI i)) = Vara4_112_1 at RL_ara4_112_1 S1_ara4_112_1 P2_ara4_112_1 S2_ara4_112_1 P1_ara4_112_1 B_ara4_112_1 ⊢
          refine hK _ _ ⟨RL_ara4_112_1.out, B_ara4_112_1.out⟩ (fun _ => ?_)
          clear hK K
          try simp only [Act.put, List.setIfInBounds_toArray, List.set_cons_zero, List.set_cons_succ]
          refine wpAnyH_take (i := 6) (oi := ⟨some 23, _, _, _, _, _⟩) (v := ?vara4_113) rfl (by kernel_rfl) (by kernel_rfl) (by kernel_rfl) (fun _ _ _ h => h) (Or.inl ⟨by rfl, ?yara4_113⟩) ⟨RL_ara4_112_1.out, B_ara4_112_1.out⟩ ?rara4_113
          case yara4_113 =>
            rintro w' hSw
            go_simp
            try with_reducible rfl
          try simp only [Act.put, List.setIfInBounds_toArray, List.set_cons_zero, List.set_cons_succ]
          refine wpAnyH_ready (rs := [16]) (by kernel_rfl) (by simp) ?_
          refine (AllReadyH.cons rfl (fun K hK => ?_) AllReadyH.nil)
          obtain ⟨k0, k1, k2, k3, k4, f0, f1, f2, f3, f4⟩ := row5 S1_ara4_112_1.out
          rw [if_pos (by rfl)]
          go_simp
          clear f0 k0 f1 k1 f2 k2 f3 k3 f4 k4
          change K _ (st5 Vara4_112_1 (Da4.heap.size) (.slice (some ⟨Vara4_111_1.heap.size, 0, none⟩) 1 1) (.int .i64 x.x0) (.int .i64 x.x1) (.int .i64 x.y0) (.int .i64 x.y1))
          have RL_sara4_114 := Lib.hid (st5_far (g := Da4.heap.size) RL_ara4_112_1.out (by omega) (.slice (some ⟨Vara4_111_1.heap.size, 0, none⟩) 1 1) (.int .i64 x.x0) (.int .i64 x.x1) (.int .i64 x.y0) (.int .i64 x.y1))
          have S1_sara4_114 := Lib.hid (st5_row S1_ara4_112_1.out (.slice (some ⟨Vara4_111_1.heap.size, 0, none⟩) 1 1) (.int .i64 x.x0) (.int .i64 x.x1) (.int .i64 x.y0) (.int .i64 x.y1))
          have P2_sara4_114 := Lib.hid (st5_far (g := Da4.heap.size) P2_ara4_112_1.out (by omega) (.slice (some ⟨Vara4_111_1.heap.size, 0, none⟩) 1 1) (.int .i64 x.x0) (.int .i64 x.x1) (.int .i64 x.y0) (.int .i64 x.y1))
          have S2_sara4_114 := Lib.hid (st5_far (g := Da4.heap.size) S2_ara4_112_1.out (by omega) (.slice (some ⟨Vara4_111_1.heap.size, 0, none⟩) 1 1) (.int .i64 x.x0) (.int .i64 x.x1) (.int .i64 x.y0) (.int .i64 x.y1))
          have P1_sara4_114 := Lib.hid (st5_far (g := Da4.heap.size) P1_ara4_112_1.out (by omega) (.slice (some ⟨Vara4_111_1.heap.size, 0, none⟩) 1 1) (.int .i64 x.x0) (.int .i64 x.x1) (.int .i64 x.y0) (.int .i64 x.y1))
          have B_sara4_114 := Lib.hid (st5_below (g := Da4.heap.size) B_ara4_112_1.out (by omega) (.slice (some ⟨Vara4_111_1.heap.size, 0, none⟩) 1 1) (.int .i64 x.x0) (.int .i64 x.x1) (.int .i64 x.y0) (.int .i64 x.y1))
          clear RL_ara4_112_1 S1_ara4_112_1 P2_ara4_112_1 S2_ara4_112_1 P1_ara4_112_1 B_ara4_112_1
          generalize st5 Vara4_112_1 (Da4.heap.size) (.slice (some ⟨Vara4_111_1.heap.size, 0, none⟩) 1 1) (.int .i64 x.x0) (.int .i64 x.x1) (.int .i64 x.y0) (.int .i64 x.y1) = Xara4_114 at RL_sara4_114 S1_sara4_114 P2_sara4_114 S2_sara4_114 P1_sara4_114 B_sara4_114 ⊢
          refine hK _ _ ⟨RL_sara4_114.out, B_sara4_114.out⟩ (fun _ => ?_)
          clear hK K
          try simp only [Act.put, List.setIfInBounds_toArray, List.set_cons_zero, List.set_cons_succ]
          refine wpAnyH_ready (rs := [17]) (by kernel_rfl) (by simp) ?_
          refine (AllReadyH.cons rfl (fun K hK => ?_) AllReadyH.nil)
          obtain ⟨k0, k1, k2, k3, k4, f0, f1, f2, f3, f4⟩ := row5 S2_sara4_114.out
          rw [if_pos (by rfl)]
          go_simp
          clear f0 k0 f1 k1 f2 k2 f3 k3 f4 k4
          change K _ (st5 Xara4_114 (Vara4_104_1.heap.size) (.slice (some ⟨Vara4_87_1.heap.size, 0, none⟩) 1 1) (.int .i64 y.x0) (.int .i64 y.x1) (.int .i64 y.y0) (.int .i64 y.y1))
          have RL_sara4_115 := Lib.hid (st5_far (g := Vara4_104_1.heap.size) RL_sara4_114.out (by omega) (.slice (some ⟨Vara4_87_1.heap.size, 0, none⟩) 1 1) (.int .i64 y.x0) (.int .i64 y.x1) (.int .i64 y.y0) (.int .i64 y.y1))
          have S1_sara4_115 := Lib.hid (st5_far (g := Vara4_104_1.heap.size) S1_sara4_114.out (by omega) (.slice (some ⟨Vara4_87_1.heap.size, 0, none⟩) 1 1) (.int .i64 y.x0) (.int .i64 y.x1) (.int .i64 y.y0) (.int .i64 y.y1))
          have P2_sara4_115 := Lib.hid (st5_far (g := Vara4_104_1.heap.size) P2_sara4_114.out (by omega) (.slice (some ⟨Vara4_87_1.heap.size, 0, none⟩) 1 1) (.int .i64 y.x0) (.int .i64 y.x1) (.int .i64 y.y0) (.int .i64 y.y1))
          have S2_sara4_115 := Lib.hid (st5_row S2_sara4_114.out (.slice (some ⟨Vara4_87_1.heap.size, 0, none⟩) 1 1) (.int .i64 y.x0) (.int .i64 y.x1) (.int .i64 y.y0) (.int .i64 y.y1))
          have P1_sara4_115 := Lib.hid (st5_far (g := Vara4_104_1.heap.size) P1_sara4_114.out (by omega) (.slice (some ⟨Vara4_87_1.heap.size, 0, none⟩) 1 1) (.int .i64 y.x0) (.int .i64 y.x1) (.int .i64 y.y0) (.int .i64 y.y1))
          have B_sara4_115 := Lib.hid (st5_below (g := Vara4_104_1.heap.size) B_sara4_114.out (by omega) (.slice (some ⟨Vara4_87_1.heap.size, 0, none⟩) 1 1) (.int .i64 y.x0) (.int .i64 y.x1) (.int .i64 y.y0) (.int .i64 y.y1))
          clear RL_sara4_114 S1_sara4_114 P2_sara4_114 S2_sara4_114 P1_sara4_114 B_sara4_114
          generalize st5 Xara4_114 (Vara4_104_1.heap.size) (.slice (some ⟨Vara4_87_1.heap.size, 0, none⟩) 1 1) (.int .i64 y.x0) (.int .i64 y.x1) (.int .i64 y.y0) (.int .i64 y.y1) = Xara4_115 at RL_sara4_115 S1_sara4_115 P2_sara4_115 S2_sara4_115 P1_sara4_115 B_sara4_115 ⊢
          refine hK _ _ ⟨RL_sara4_115.out, B_sara4_115.out⟩ (fun _ => ?_)
          clear hK K
          try simp only [Act.put, List.setIfInBounds_toArray, List.set_cons_zero, List.set_cons_succ]
          refine wpAnyH_done (by kernel_rfl) ?_ _
          go_wp2_with fail
          go_meet
          exact ⟨_, _, _, _, rfl, rfl, RL_sara4_115.out, S1_sara4_115.out, S2_sara4_115.out, P1_sara4_115.out, P2_sara4_115.out, by omega, by omega, by omega, by omega, by omega, by omega, B_sara4_115.out⟩
      · try rw [if_pos (by rfl)]
        go_simp
        have hltara4_116_1_0 : w.heap.size < Vara4_87_1.heap.size := RL_ara4_87_1.out.lt
        have hltara4_116_1_1 : Da4.heap.size < Vara4_87_1.heap.size := S1_ara4_87_1.out.lt
        have RL_ara4_116_1 := Lib.hid (RL_ara4_87_1.out.alloc zS)
        have S1_ara4_116_1 := Lib.hid (S1_ara4_87_1.out.alloc zS)
        have S2_ara4_116_1 := Lib.hid (row_last Vara4_87_1 (Vara4_87_1.heap.size) 66 [.slice none 0 0, .int .i64 0, .int .i64 0, .int .i64 0, .int .i64 0] (by simp))
        have B_ara4_116_1 := Lib.hid (B_ara4_87_1.out.alloc B_ara4_87_1.out.size zS)
        clear RL_ara4_87_1 S1_ara4_87_1 B_ara4_87_1
        generalize (Vara4_87_1.alloc zS) = Vara4_116_1 at RL_ara4_116_1 S1_ara4_116_1 S2_ara4_116_1 B_ara4_116_1 ⊢
        refine hK _ _ ⟨RL_ara4_116_1.out, B_ara4_116_1.out⟩ (fun _ => ?_)
        clear hK K
        try simp only [Act.put, List.setIfInBounds_toArray, List.set_cons_zero, List.set_cons_succ]
        refine wpAnyH_ready (rs := [1, 8]) (by kernel_rfl) (by simp) ?_
        refine (AllReadyH.cons rfl (fun K hK => ?_) (AllReadyH.cons rfl (fun K hK => ?_) AllReadyH.nil))
        · try rw [if_pos (by rfl)]
          go_simp
          have hltara4_117_1_0 : w.heap.size < Vara4_116_1.heap.size := RL_ara4_116_1.out.lt
          have hltara4_117_1_1 : Da4.heap.size < Vara4_116_1.heap.size := S1_ara4_116_1.out.lt
          have hltara4_117_1_2 : Vara4_87_1.heap.size < Vara4_116_1.heap.size := S2_ara4_116_1.out.lt
          have RL_ara4_117_1 := Lib.hid (RL_ara4_116_1.out.alloc (zI i))
          have S1_ara4_117_1 := Lib.hid (S1_ara4_116_1.out.alloc (zI i))
          have S2_ara4_117_1 := Lib.hid (S2_ara4_116_1.out.alloc (zI i))
          have P1_ara4_117_1 := Lib.hid (row_last Vara4_116_1 (Vara4_116_1.heap.size) 3 [.int .i64 (i : Int)] (by simp))
          have B_ara4_117_1 := Lib.hid (B_ara4_116_1.out.alloc B_ara4_116_1.out.size (zI i))
          clear RL_ara4_116_1 S1_ara4_116_1 S2_ara4_116_1 B_ara4_116_1
          generalize (Vara4_116_1.alloc (zI i)) = Vara4_117_1 at RL_ara4_117_1 S1_ara4_117_1 S2_ara4_117_1 P1_ara4_117_1 B_ara4_117_1 ⊢
          refine hK _ _ ⟨RL_ara4_117_1.out, B_ara4_117_1.out⟩ (fun _ => ?_)
          clear hK K
          try simp only [Act.put, List.setIfInBounds_toArray, List.set_cons_zero, List.set_cons_succ]
          refine wpAnyH_take (i := 6) (oi := ⟨some 23, _, _, _, _, _⟩) (v := ?vara4_118) rfl (by kernel_rfl) (by kernel_rfl) (by kernel_rfl) (fun _ _ _ h => h) (Or.inl ⟨by rfl, ?yara4_118⟩) ⟨RL_ara4_117_1.out, B_ara4_117_1.out⟩ ?rara4_118
          case yara4_118 =>
            rintro w' hSw
            go_simp
            try with_reducible rfl
          try simp only [Act.put, List.setIfInBounds_toArray, List.set_cons_zero, List.set_cons_succ]
          refine wpAnyH_ready (rs := [8, 16]) (by kernel_rfl) (by simp) ?_
          refine (AllReadyH.cons rfl (fun K hK => ?_) (AllReadyH.cons rfl (fun K hK => ?_) AllReadyH.nil))
          · try rw [if_pos (by rfl)]
            go_simp
            have hltara4_119_1_0 : w.heap.size < Vara4_117_1.heap.size := RL_ara4_117_1.out.lt
            have hltara4_119_1_1 : Da4.heap.size < Vara4_117_1.heap.size := S1_ara4_117_1.out.lt
            have hltara4_119_1_2 : Vara4_87_1.heap.size < Vara4_117_1.heap.size := S2_ara4_117_1.out.lt
            have hltara4_119_1_3 : Vara4_116_1.heap.size < Vara4_117_1.heap.size := P1_ara4_117_1.out.lt
            have RL_ara4_119_1 := Lib.hid (RL_ara4_117_1.out.alloc (zI k))
            have S1_ara4_119_1 := Lib.hid (S1_ara4_117_1.out.alloc (zI k))
            have S2_ara4_119_1 := Lib.hid (S2_ara4_117_1.out.alloc (zI k))
            have P1_ara4_119_1 := Lib.hid (P1_ara4_117_1.out.alloc (zI k))
            have P2_ara4_119_1 := Lib.hid (row_last Vara4_117_1 (Vara4_117_1.heap.size) 3 [.int .i64 (k : Int)] (by simp))
            have B_ara4_119_1 := Lib.hid (B_ara4_117_1.out.alloc B_ara4_117_1.out.size (zI k))
            clear RL_ara4_117_1 S1_ara4_117_1 S2_ara4_117_1 P1_ara4_117_1 B_ara4_117_1
            generalize (Vara4_117_1.alloc (zI k)) = Vara4_119_1 at RL_ara4_119_1 S1_ara4_119_1 S2_ara4_119_1 P1_ara4_119_1 P2_ara4_119_1 B_ara4_119_1 ⊢
            refine hK _ _ ⟨RL_ara4_119_1.out, B_ara4_119_1.out⟩ (fun _ => ?_)
            clear hK K
            try simp only [Act.put, List.setIfInBounds_toArray, List.set_cons_zero, List.set_cons_succ]
            refine wpAnyH_take (i := 13) (oi := ⟨some 30, _, _, _, _, _⟩) (v := ?vara4_120) rfl (by kernel_rfl) (by kernel_rfl) (by kernel_rfl) (fun _ _ _ h => h) (Or.inl ⟨by rfl, ?yara4_120⟩) ⟨RL_ara4_119_1.out, B_ara4_119_1.out⟩ ?rara4_120
            case yara4_120 =>
              rintro w' hSw
              go_simp
              try with_reducible rfl
            try simp only [Act.put, List.setIfInBounds_toArray, List.set_cons_zero, List.set_cons_succ]
            refine wpAnyH_ready (rs := [16]) (by kernel_rfl) (by simp) ?_
            refine (AllReadyH.cons rfl (fun K hK => ?_) AllReadyH.nil)
            obtain ⟨k0, k1, k2, k3, k4, f0, f1, f2, f3, f4⟩ := row5 S1_ara4_119_1.out
            rw [if_pos (by rfl)]
            go_simp
            clear f0 k0 f1 k1 f2 k2 f3 k3 f4 k4
            change K _ (st5 Vara4_119_1 (Da4.heap.size) (.slice (some ⟨Vara4_116_1.heap.size, 0, none⟩) 1 1) (.int .i64 x.x0) (.int .i64 x.x1) (.int .i64 x.y0) (.int .i64 x.y1))
            have RL_sara4_121 := Lib.hid (st5_far (g := Da4.heap.size) RL_ara4_119_1.out (by omega) (.slice (some ⟨Vara4_116_1.heap.size, 0, none⟩) 1 1) (.int .i64 x.x0) (.int .i64 x.x1) (.int .i64 x.y0) (.int .i64 x.y1))
            have S1_sara4_121 := Lib.hid (st5_row S1_ara4_119_1.out (.slice (some ⟨Vara4_116_1.heap.size, 0, none⟩) 1 1) (.int .i64 x.x0) (.int .i64 x.x1) (.int .i64 x.y0) (.int .i64 x.y1))
            have S2_sara4_121 := Lib.hid (st5_far (g := Da4.heap.size) S2_ara4_119_1.out (by omega) (.slice (some ⟨Vara4_116_1.heap.size, 0, none⟩) 1 1) (.int .i64 x.x0) (.int .i64 x.x1) (.int .i64 x.y0) (.int .i64 x.y1))
            have P1_sara4_121 := Lib.hid (st5_far (g := Da4.heap.size) P1_ara4_119_1.out (by omega) (.slice (some ⟨Vara4_116_1.heap.size, 0, none⟩) 1 1) (.int .i64 x.x0) (.int .i64 x.x1) (.int .i64 x.y0) (.int .i64 x.y1))
            have P2_sara4_121 := Lib.hid (st5_far (g := Da4.heap.size) P2_ara4_119_1.out (by omega) (.slice (some ⟨Vara4_116_1.heap.size, 0, none⟩) 1 1) (.int .i64 x.x0) (.int .i64 x.x1) (.int .i64 x.y0) (.int .i64 x.y1))
            have B_sara4_121 := Lib.hid (st5_below (g := Da4.heap.size) B_ara4_119_1.out (by omega) (.slice (some ⟨Vara4_116_1.heap.size, 0, none⟩) 1 1) (.int .i64 x.x0) (.int .i64 x.x1) (.int .i64 x.y0) (.int .i64 x.y1))
            clear RL_ara4_119_1 S1_ara4_119_1 S2_ara4_119_1 P1_ara4_119_1 P2_ara4_119_1 B_ara4_119_1
            generalize st5 Vara4_119_1 (Da4.heap.size) (.slice (some ⟨Vara4_116_1.heap.size, 0, none⟩) 1 1) (.int .i64 x.x0) (.int .i64 x.x1) (.int .i64 x.y0) (.int .i64 x.y1) = Xara4_121 at RL_sara4_121 S1_sara4_121 S2_sara4_121 P1_sara4_121 P2_sara4_121 B_sara4_121 ⊢
            refine hK _ _ ⟨RL_sara4_121.out, B_sara4_121.out⟩ (fun _ => ?_)
            clear hK K
            try simp only [Act.put, List.setIfInBounds_toArray, List.set_cons_zero, List.set_cons_succ]
            refine wpAnyH_ready (rs := [17]) (by kernel_rfl) (by simp) ?_
            refine (AllReadyH.cons rfl (fun K hK => ?_) AllReadyH.nil)
            obtain ⟨k0, k1, k2, k3, k4, f0, f1, f2, f3, f4⟩ := row5 S2_sara4_121.out
            rw [if_pos (by rfl)]
            go_simp
            clear f0 k0 f1 k1 f2 k2 f3 k3 f4 k4
            change K _ (st5 Xara4_121 (Vara4_87_1.heap.size) (.slice (some ⟨Vara4_117_1.heap.size, 0, none⟩) 1 1) (.int .i64 y.x0) (.int .i64 y.x1) (.int .i64 y.y0) (.int .i64 y.y1))
            have RL_sara4_122 := Lib.hid (st5_far (g := Vara4_87_1.heap.size) RL_sara4_121.out (by omega) (.slice (some ⟨Vara4_117_1.heap.size, 0, none⟩) 1 1) (.int .i64 y.x0) (.int .i64 y.x1) (.int .i64 y.y0) (.int .i64 y.y1))
            have S1_sara4_122 := Lib.hid (st5_far (g := Vara4_87_1.heap.size) S1_sara4_121.out (by omega) (.slice (some ⟨Vara4_117_1.heap.size, 0, none⟩) 1 1) (.int .i64 y.x0) (.int .i64 y.x1) (.int .i64 y.y0) (.int .i64 y.y1))
            have S2_sara4_122 := Lib.hid (st5_row S2_sara4_121.out (.slice (some ⟨Vara4_117_1.heap.size, 0, none⟩) 1 1) (.int .i64 y.x0) (.int .i64 y.x1) (.int .i64 y.y0) (.int .i64 y.y1))
            have P1_sara4_122 := Lib.hid (st5_far (g := Vara4_87_1.heap.size) P1_sara4_121.out (by omega) (.slice (some ⟨Vara4_117_1.heap.size, 0, none⟩) 1 1) (.int .i64 y.x0) (.int .i64 y.x1) (.int .i64 y.y0) (.int .i64 y.y1))
            have P2_sara4_122 := Lib.hid (st5_far (g := Vara4_87_1.heap.size) P2_sara4_121.out (by omega) (.slice (some ⟨Vara4_117_1.heap.size, 0, none⟩) 1 1) (.int .i64 y.x0) (.int .i64 y.x1) (.int .i64 y.y0) (.int .i64 y.y1))
            have B_sara4_122 := Lib.hid (st5_below (g := Vara4_87_1.heap.size) B_sara4_121.out (by omega) (.slice (some ⟨Vara4_117_1.heap.size, 0, none⟩) 1 1) (.int .i64 y.x0) (.int .i64 y.x1) (.int .i64 y.y0) (.int .i64 y.y1))
            clear RL_sara4_121 S1_sara4_121 S2_sara4_121 P1_sara4_121 P2_sara4_121 B_sara4_121
            generalize st5 Xara4_121 (Vara4_87_1.heap.size) (.slice (some ⟨Vara4_117_1.heap.size, 0, none⟩) 1 1) (.int .i64 y.x0) (.int .i64 y.x1) (.int .i64 y.y0) (.int .i64 y.y1) = Xara4_122 at RL_sara4_122 S1_sara4_122 S2_sara4_122 P1_sara4_122 P2_sara4_122 B_sara4_122 ⊢
            refine hK _ _ ⟨RL_sara4_122.out, B_sara4_122.out⟩ (fun _ => ?_)
            clear hK K
            try simp only [Act.put, List.setIfInBounds_toArray, List.set_cons_zero, List.set_cons_succ]
            refine wpAnyH_done (by kernel_rfl) ?_ _
            go_wp2_with fail
            go_meet
            exact ⟨_, _, _, _, rfl, rfl, RL_sara4_122.out, S1_sara4_122.out, S2_sara4_122.out, P1_sara4_122.out, P2_sara4_122.out, by omega, by omega, by omega, by omega, by omega, by omega, B_sara4_122.out⟩
          · obtain ⟨k0, k1, k2, k3, k4, f0, f1, f2, f3, f4⟩ := row5 S1_ara4_117_1.out
            rw [if_pos (by rfl)]
            go_simp
            clear f0 k0 f1 k1 f2 k2 f3 k3 f4 k4
            change K _ (st5 Vara4_117_1 (Da4.heap.size) (.slice (some ⟨Vara4_116_1.heap.size, 0, none⟩) 1 1) (.int .i64 x.x0) (.int .i64 x.x1) (.int .i64 x.y0) (.int .i64 x.y1))
            have RL_sara4_123 := Lib.hid (st5_far (g := Da4.heap.size) RL_ara4_117_1.out (by omega) (.slice (some ⟨Vara4_116_1.heap.size, 0, none⟩) 1 1) (.int .i64 x.x0) (.int .i64 x.x1) (.int .i64 x.y0) (.int .i64 x.y1))
            have S1_sara4_123 := Lib.hid (st5_row S1_ara4_117_1.out (.slice (some ⟨Vara4_116_1.heap.size, 0, none⟩) 1 1) (.int .i64 x.x0) (.int .i64 x.x1) (.int .i64 x.y0) (.int .i64 x.y1))
            have S2_sara4_123 := Lib.hid (st5_far (g := Da4.heap.size) S2_ara4_117_1.out (by omega) (.slice (some ⟨Vara4_116_1.heap.size, 0, none⟩) 1 1) (.int .i64 x.x0) (.int .i64 x.x1) (.int .i64 x.y0) (.int .i64 x.y1))
            have P1_sara4_123 := Lib.hid (st5_far (g := Da4.heap.size) P1_ara4_117_1.out (by omega) (.slice (some ⟨Vara4_116_1.heap.size, 0, none⟩) 1 1) (.int .i64 x.x0) (.int .i64 x.x1) (.int .i64 x.y0) (.int .i64 x.y1))
            have B_sara4_123 := Lib.hid (st5_below (g := Da4.heap.size) B_ara4_117_1.out (by omega) (.slice (some ⟨Vara4_116_1.heap.size, 0, none⟩) 1 1) (.int .i64 x.x0) (.int .i64 x.x1) (.int .i64 x.y0) (.int .i64 x.y1))
            clear RL_ara4_117_1 S1_ara4_117_1 S2_ara4_117_1 P1_ara4_117_1 B_ara4_117_1
            generalize st5 Vara4_117_1 (Da4.heap.size) (.slice (some ⟨Vara4_116_1.heap.size, 0, none⟩) 1 1) (.int .i64 x.x0) (.int .i64 x.x1) (.int .i64 x.y0) (.int .i64 x.y1) = Xara4_123 at RL_sara4_123 S1_sara4_123 S2_sara4_123 P1_sara4_123 B_sara4_123 ⊢
            refine hK _ _ ⟨RL_sara4_123.out, B_sara4_123.out⟩ (fun _ => ?_)
            clear hK K
            try simp only [Act.put, List.setIfInBounds_toArray, List.set_cons_zero, List.set_cons_succ]
            refine wpAnyH_ready (rs := [8]) (by kernel_rfl) (by simp) ?_
            refine (AllReadyH.cons rfl (fun K hK => ?_) AllReadyH.nil)
            try rw [if_pos (by rfl)]
            go_simp
            have hltara4_124_1_0 : w.heap.size < Xara4_123.heap.size := RL_sara4_123.out.lt
            have hltara4_124_1_1 : Da4.heap.size < Xara4_123.heap.size := S1_sara4_123.out.lt
            have hltara4_124_1_2 : Vara4_87_1.heap.size < Xara4_123.heap.size := S2_sara4_123.out.lt
            have hltara4_124_1_3 : Vara4_116_1.heap.size < Xara4_123.heap.size := P1_sara4_123.out.lt
            have RL_ara4_124_1 := Lib.hid (RL_sara4_123.out.alloc (zI k))
            have S1_ara4_124_1 := Lib.hid (S1_sara4_123.out.alloc (zI k))
            have S2_ara4_124_1 := Lib.hid (S2_sara4_123.out.alloc (zI k))
            have P1_ara4_124_1 := Lib.hid (P1_sara4_123.out.alloc (zI k))
            have P2_ara4_124_1 := Lib.hid (row_last Xara4_123 (Xara4_123.heap.size) 3 [.int .i64 (k : Int)] (by simp))
            have B_ara4_124_1 := Lib.hid (B_sara4_123.out.alloc B_sara4_123.out.size (zI k))
            clear RL_sara4_123 S1_sara4_123 S2_sara4_123 P1_sara4_123 B_sara4_123
            generalize (Xara4_123.alloc (zI k)) = Vara4_124_1 at RL_ara4_124_1 S1_ara4_124_1 S2_ara4_124_1 P1_ara4_124_1 P2_ara4_124_1 B_ara4_124_1 ⊢
            refine hK _ _ ⟨RL_ara4_124_1.out, B_ara4_124_1.out⟩ (fun _ => ?_)
            clear hK K
            try simp only [Act.put, List.setIfInBounds_toArray, List.set_cons_zero, List.set_cons_succ]
            refine wpAnyH_take (i := 13) (oi := ⟨some 30, _, _, _, _, _⟩) (v := ?vara4_125) rfl (by kernel_rfl) (by kernel_rfl) (by kernel_rfl) (fun _ _ _ h => h) (Or.inl ⟨by rfl, ?yara4_125⟩) ⟨RL_ara4_124_1.out, B_ara4_124_1.out⟩ ?rara4_125
            case yara4_125 =>
              rintro w' hSw
              go_simp
              try with_reducible rfl
            try simp only [Act.put, List.setIfInBounds_toArray, List.set_cons_zero, List.set_cons_succ]
            refine wpAnyH_ready (rs := [17]) (by kernel_rfl) (by simp) ?_
            refine (AllReadyH.cons rfl (fun K hK => ?_) AllReadyH.nil)
            obtain ⟨k0, k1, k2, k3, k4, f0, f1, f2, f3, f4⟩ := row5 S2_ara4_124_1.out
            rw [if_pos (by rfl)]
            go_simp
            clear f0 k0 f1 k1 f2 k2 f3 k3 f4 k4
            change K _ (st5 Vara4_124_1 (Vara4_87_1.heap.size) (.slice (some ⟨Xara4_123.heap.size, 0, none⟩) 1 1) (.int .i64 y.x0) (.int .i64 y.x1) (.int .i64 y.y0) (.int .i64 y.y1))
            have RL_sara4_126 := Lib.hid (st5_far (g := Vara4_87_1.heap.size) RL_ara4_124_1.out (by omega) (.slice (some ⟨Xara4_123.heap.size, 0, none⟩) 1 1) (.int .i64 y.x0) (.int .i64 y.x1) (.int .i64 y.y0) (.int .i64 y.y1))
            have S1_sara4_126 := Lib.hid (st5_far (g := Vara4_87_1.heap.size) S1_ara4_124_1.out (by omega) (.slice (some ⟨Xara4_123.heap.size, 0, none⟩) 1 1) (.int .i64 y.x0) (.int .i64 y.x1) (.int .i64 y.y0) (.int .i64 y.y1))
            have S2_sara4_126 := Lib.hid (st5_row S2_ara4_124_1.out (.slice (some ⟨Xara4_123.heap.size, 0, none⟩) 1 1) (.int .i64 y.x0) (.int .i64 y.x1) (.int .i64 y.y0) (.int .i64 y.y1))
            have P1_sara4_126 := Lib.hid (st5_far (g := Vara4_87_1.heap.size) P1_ara4_124_1.out (by omega) (.slice (some ⟨Xara4_123.heap.size, 0, none⟩) 1 1) (.int .i64 y.x0) (.int .i64 y.x1) (.int .i64 y.y0) (.int .i64 y.y1))
            have P2_sara4_126 := Lib.hid (st5_far (g := Vara4_87_1.heap.size) P2_ara4_124_1.out (by omega) (.slice (some ⟨Xara4_123.heap.size, 0, none⟩) 1 1) (.int .i64 y.x0) (.int .i64 y.x1) (.int .i64 y.y0) (.int .i64 y.y1))
            have B_sara4_126 := Lib.hid (st5_below (g := Vara4_87_1.heap.size) B_ara4_124_1.out (by omega) (.slice (some ⟨Xara4_123.heap.size, 0, none⟩) 1 1) (.int .i64 y.x0) (.int .i64 y.x1) (.int .i64 y.y0) (.int .i64 y.y1))
            clear RL_ara4_124_1 S1_ara4_124_1 S2_ara4_124_1 P1_ara4_124_1 P2_ara4_124_1 B_ara4_124_1
            generalize st5 Vara4_124_1 (Vara4_87_1.heap.size) (.slice (some ⟨Xara4_123.heap.size, 0, none⟩) 1 1) (.int .i64 y.x0) (.int .i64 y.x1) (.int .i64 y.y0) (.int .i64 y.y1) = Xara4_126 at RL_sara4_126 S1_sara4_126 S2_sara4_126 P1_sara4_126 P2_sara4_126 B_sara4_126 ⊢
            refine hK _ _ ⟨RL_sara4_126.out, B_sara4_126.out⟩ (fun _ => ?_)
            clear hK K
            try simp only [Act.put, List.setIfInBounds_toArray, List.set_cons_zero, List.set_cons_succ]
            refine wpAnyH_done (by kernel_rfl) ?_ _
            go_wp2_with fail
            go_meet
            exact ⟨_, _, _, _, rfl, rfl, RL_sara4_126.out, S1_sara4_126.out, S2_sara4_126.out, P1_sara4_126.out, P2_sara4_126.out, by omega, by omega, by omega, by omega, by omega, by omega, B_sara4_126.out⟩
        · try rw [if_pos (by rfl)]
          go_simp
          have hltara4_127_1_0 : w.heap.size < Vara4_116_1.heap.size := RL_ara4_116_1.out.lt
          have hltara4_127_1_1 : Da4.heap.size < Vara4_116_1.heap.size := S1_ara4_116_1.out.lt
          have hltara4_127_1_2 : Vara4_87_1.heap.size < Vara4_116_1.heap.size := S2_ara4_116_1.out.lt
          have RL_ara4_127_1 := Lib.hid (RL_ara4_116_1.out.alloc (zI k))
          have S1_ara4_127_1 := Lib.hid (S1_ara4_116_1.out.alloc (zI k))
          have S2_ara4_127_1 := Lib.hid (S2_ara4_116_1.out.alloc (zI k))
          have P2_ara4_127_1 := Lib.hid (row_last Vara4_116_1 (Vara4_116_1.heap.size) 3 [.int .i64 (k : Int)] (by simp))
          have B_ara4_127_1 := Lib.hid (B_ara4_116_1.out.alloc B_ara4_116_1.out.size (zI k))
          clear RL_ara4_116_1 S1_ara4_116_1 S2_ara4_116_1 B_ara4_116_1
          generalize (Vara4_116_1.alloc (zI k)) = Vara4_127_1 at RL_ara4_127_1 S1_ara4_127_1 S2_ara4_127_1 P2_ara4_127_1 B_ara4_127_1 ⊢
          refine hK _ _ ⟨RL_ara4_127_1.out, B_ara4_127_1.out⟩ (fun _ => ?_)
          clear hK K
          try simp only [Act.put, List.setIfInBounds_toArray, List.set_cons_zero, List.set_cons_succ]
          refine wpAnyH_take (i := 13) (oi := ⟨some 30, _, _, _, _, _⟩) (v := ?vara4_128) rfl (by kernel_rfl) (by kernel_rfl) (by kernel_rfl) (fun _ _ _ h => h) (Or.inl ⟨by rfl, ?yara4_128⟩) ⟨RL_ara4_127_1.out, B_ara4_127_1.out⟩ ?rara4_128
          case yara4_128 =>
            rintro w' hSw
            go_simp
            try with_reducible rfl
          try simp only [Act.put, List.setIfInBounds_toArray, List.set_cons_zero, List.set_cons_succ]
          refine wpAnyH_ready (rs := [1]) (by kernel_rfl) (by simp) ?_
          refine (AllReadyH.cons rfl (fun K hK => ?_) AllReadyH.nil)
          try rw [if_pos (by rfl)]
          go_simp
          have hltara4_129_1_0 : w.heap.size < Vara4_127_1.heap.size := RL_ara4_127_1.out.lt
          have hltara4_129_1_1 : Da4.heap.size < Vara4_127_1.heap.size := S1_ara4_127_1.out.lt
          have hltara4_129_1_2 : Vara4_87_1.heap.size < Vara4_127_1.heap.size := S2_ara4_127_1.out.lt
          have hltara4_129_1_3 : Vara4_116_1.heap.size < Vara4_127_1.heap.size := P2_ara4_127_1.out.lt
          have RL_ara4_129_1 := Lib.hid (RL_ara4_127_1.out.alloc (zI i))
          have S1_ara4_129_1 := Lib.hid (S1_ara4_127_1.out.alloc (zI i))
          have S2_ara4_129_1 := Lib.hid (S2_ara4_127_1.out.alloc (zI i))
          have P2_ara4_129_1 := Lib.hid (P2_ara4_127_1.out.alloc (zI i))
          have P1_ara4_129_1 := Lib.hid (row_last Vara4_127_1 (Vara4_127_1.heap.size) 3 [.int .i64 (i : Int)] (by simp))
          have B_ara4_129_1 := Lib.hid (B_ara4_127_1.out.alloc B_ara4_127_1.out.size (zI i))
          clear RL_ara4_127_1 S1_ara4_127_1 S2_ara4_127_1 P2_ara4_127_1 B_ara4_127_1
          generalize (Vara4_127_1.alloc (zI i)) = Vara4_129_1 at RL_ara4_129_1 S1_ara4_129_1 S2_ara4_129_1 P2_ara4_129_1 P1_ara4_129_1 B_ara4_129_1 ⊢
          refine hK _ _ ⟨RL_ara4_129_1.out, B_ara4_129_1.out⟩ (fun _ => ?_)
          clear hK K
          try simp only [Act.put, List.setIfInBounds_toArray, List.set_cons_zero, List.set_cons_succ]
          refine wpAnyH_take (i := 6) (oi := ⟨some 23, _, _, _, _, _⟩) (v := ?vara4_130) rfl (by kernel_rfl) (by kernel_rfl) (by kernel_rfl) (fun _ _ _ h => h) (Or.inl ⟨by rfl, ?yara4_130⟩) ⟨RL_ara4_129_1.out, B_ara4_129_1.out⟩ ?rara4_130
          case yara4_130 =>
            rintro w' hSw
            go_simp
            try with_reducible rfl
          try simp only [Act.put, List.setIfInBounds_toArray, List.set_cons_zero, List.set_cons_succ]
          refine wpAnyH_ready (rs := [16]) (by kernel_rfl) (by simp) ?_
          refine (AllReadyH.cons rfl (fun K hK => ?_) AllReadyH.nil)
          obtain ⟨k0, k1, k2, k3, k4, f0, f1, f2, f3, f4⟩ := row5 S1_ara4_129_1.out
          rw [if_pos (by rfl)]
          go_simp
          clear f0 k0 f1 k1 f2 k2 f3 k3 f4 k4
          change K _ (st5 Vara4_129_1 (Da4.heap.size) (.slice (some ⟨Vara4_127_1.heap.size, 0, none⟩) 1 1) (.int .i64 x.x0) (.int .i64 x.x1) (.int .i64 x.y0) (.int .i64 x.y1))
          have RL_sara4_131 := Lib.hid (st5_far (g := Da4.heap.size) RL_ara4_129_1.out (by omega) (.slice (some ⟨Vara4_127_1.heap.size, 0, none⟩) 1 1) (.int .i64 x.x0) (.int .i64 x.x1) (.int .i64 x.y0) (.int .i64 x.y1))
          have S1_sara4_131 := Lib.hid (st5_row S1_ara4_129_1.out (.slice (some ⟨Vara4_127_1.heap.size, 0, none⟩) 1 1) (.int .i64 x.x0) (.int .i64 x.x1) (.int .i64 x.y0) (.int .i64 x.y1))
          have S2_sara4_131 := Lib.hid (st5_far (g := Da4.heap.size) S2_ara4_129_1.out (by omega) (.slice (some ⟨Vara4_127_1.heap.size, 0, none⟩) 1 1) (.int .i64 x.x0) (.int .i64 x.x1) (.int .i64 x.y0) (.int .i64 x.y1))
          have P2_sara4_131 := Lib.hid (st5_far (g := Da4.heap.size) P2_ara4_129_1.out (by omega) (.slice (some ⟨Vara4_127_1.heap.size, 0, none⟩) 1 1) (.int .i64 x.x0) (.int .i64 x.x1) (.int .i64 x.y0) (.int .i64 x.y1))
          have P1_sara4_131 := Lib.hid (st5_far (g := Da4.heap.size) P1_ara4_129_1.out (by omega) (.slice (some ⟨Vara4_127_1.heap.size, 0, none⟩) 1 1) (.int .i64 x.x0) (.int .i64 x.x1) (.int .i64 x.y0) (.int .i64 x.y1))
          have B_sara4_131 := Lib.hid (st5_below (g := Da4.heap.size) B_ara4_129_1.out (by omega) (.slice (some ⟨Vara4_127_1.heap.size, 0, none⟩) 1 1) (.int .i64 x.x0) (.int .i64 x.x1) (.int .i64 x.y0) (.int .i64 x.y1))
          clear RL_ara4_129_1 S1_ara4_129_1 S2_ara4_129_1 P2_ara4_129_1 P1_ara4_129_1 B_ara4_129_1
          generalize st5 Vara4_129_1 (Da4.heap.size) (.slice (some ⟨Vara4_127_1.heap.size, 0, none⟩) 1 1) (.int .i64 x.x0) (.int .i64 x.x1) (.int .i64 x.y0) (.int .i64 x.y1) = Xara4_131 at RL_sara4_131 S1_sara4_131 S2_sara4_131 P2_sara4_131 P1_sara4_131 B_sara4_131 ⊢
          refine hK _ _ ⟨RL_sara4_131.out, B_sara4_131.out⟩ (fun _ => ?_)
          clear hK K
          try simp only [Act.put, List.setIfInBounds_toArray, List.set_cons_zero, List.set_cons_succ]
          refine wpAnyH_ready (rs := [17]) (by kernel_rfl) (by simp) ?_
          refine (AllReadyH.cons rfl (fun K hK => ?_) AllReadyH.nil)
          obtain ⟨k0, k1, k2, k3, k4, f0, f1, f2, f3, f4⟩ := row5 S2_sara4_131.out
          rw [if_pos (by rfl)]
          go_simp
          clear f0 k0 f1 k1 f2 k2 f3 k3 f4 k4
          change K _ (st5 Xara4_131 (Vara4_87_1.heap.size) (.slice (some ⟨Vara4_116_1.heap.size, 0, none⟩) 1 1) (.int .i64 y.x0) (.int .i64 y.x1) (.int .i64 y.y0) (.int .i64 y.y1))
          have RL_sara4_132 := Lib.hid (st5_far (g := Vara4_87_1.heap.size) RL_sara4_131.out (by omega) (.slice (some ⟨Vara4_116_1.heap.size, 0, none⟩) 1 1) (.int .i64 y.x0) (.int .i64 y.x1) (.int .i64 y.y0) (.int .i64 y.y1))
          have S1_sara4_132 := Lib.hid (st5_far (g := Vara4_87_1.heap.size) S1_sara4_131.out (by omega) (.slice (some ⟨Vara4_116_1.heap.size, 0, none⟩) 1 1) (.int .i64 y.x0) (.int .i64 y.x1) (.int .i64 y.y0) (.int .i64 y.y1))
          have S2_sara4_132 := Lib.hid (st5_row S2_sara4_131.out (.slice (some ⟨Vara4_116_1.heap.size, 0, none⟩) 1 1) (.int .i64 y.x0) (.int .i64 y.x1) (.int .i64 y.y0) (.int .i64 y.y1))
          have P2_sara4_132 := Lib.hid (st5_far (g := Vara4_87_1.heap.size) P2_sara4_131.out (by omega) (.slice (some ⟨Vara4_116_1.heap.size, 0, none⟩) 1 1) (.int .i64 y.x0) (.int .i64 y.x1) (.int .i64 y.y0) (.int .i64 y.y1))
          have P1_sara4_132 := Lib.hid (st5_far (g := Vara4_87_1.heap.size) P1_sara4_131.out (by omega) (.slice (some ⟨Vara4_116_1.heap.size, 0, none⟩) 1 1) (.int .i64 y.x0) (.int .i64 y.x1) (.int .i64 y.y0) (.int .i64 y.y1))
          have B_sara4_132 := Lib.hid (st5_below (g := Vara4_87_1.heap.size) B_sara4_131.out (by omega) (.slice (some ⟨Vara4_116_1.heap.size, 0, none⟩) 1 1) (.int .i64 y.x0) (.int .i64 y.x1) (.int .i64 y.y0) (.int .i64 y.y1))
          clear RL_sara4_131 S1_sara4_131 S2_sara4_131 P2_sara4_131 P1_sara4_131 B_sara4_131
          generalize st5 Xara4_131 (Vara4_87_1.heap.size) (.slice (some ⟨Vara4_116_1.heap.size, 0, none⟩) 1 1) (.int .i64 y.x0) (.int .i64 y.x1) (.int .i64 y.y0) (.int .i64 y.y1) = Xara4_132 at RL_sara4_132 S1_sara4_132 S2_sara4_132 P2_sara4_132 P1_sara4_132 B_sara4_132 ⊢
          refine hK _ _ ⟨RL_sara4_132.out, B_sara4_132.out⟩ (fun _ => ?_)
          clear hK K
          try simp only [Act.put, List.setIfInBounds_toArray, List.set_cons_zero, List.set_cons_succ]
          refine wpAnyH_done (by kernel_rfl) ?_ _
          go_wp2_with fail
          go_meet
          exact ⟨_, _, _, _, rfl, rfl, RL_sara4_132.out, S1_sara4_132.out, S2_sara4_132.out, P1_sara4_132.out, P2_sara4_132.out, by omega, by omega, by omega, by omega, by omega, by omega, B_sara4_132.out⟩
    · try rw [if_pos (by rfl)]
      go_simp
      have hltara4_133_1_0 : w.heap.size < Da4.heap.size := RL_a4.out.lt
      have RL_ara4_133_1 := Lib.hid (RL_a4.out.alloc zS)
      have S2_ara4_133_1 := Lib.hid (row_last Da4 (Da4.heap.size) 66 [.slice none 0 0, .int .i64 0, .int .i64 0, .int .i64 0, .int .i64 0] (by simp))
      have B_ara4_133_1 := Lib.hid (B_a4.out.alloc B_a4.out.size zS)
      clear RL_a4 B_a4
      generalize (Da4.alloc zS) = Vara4_133_1 at RL_ara4_133_1 S2_ara4_133_1 B_ara4_133_1 ⊢
      refine hK _ _ ⟨RL_ara4_133_1.out, B_ara4_133_1.out⟩ (fun _ => ?_)
      clear hK K
      try simp only [Act.put, List.setIfInBounds_toArray, List.set_cons_zero, List.set_cons_succ]
      refine wpAnyH_ready (rs := [1, 8, 14]) (by kernel_rfl) (by simp) ?_
      refine (AllReadyH.cons rfl (fun K hK => ?_) (AllReadyH.cons rfl (fun K hK => ?_) (AllReadyH.cons rfl (fun K hK => ?_) AllReadyH.nil)))
      · try rw [if_pos (by rfl)]
        go_simp
        have hltara4_134_1_0 : w.heap.size < Vara4_133_1.heap.size := RL_ara4_133_1.out.lt
        have hltara4_134_1_1 : Da4.heap.size < Vara4_133_1.heap.size := S2_ara4_133_1.out.lt
        have RL_ara4_134_1 := Lib.hid (RL_ara4_133_1.out.alloc (zI i))
        have S2_ara4_134_1 := Lib.hid (S2_ara4_133_1.out.alloc (zI i))
        have P1_ara4_134_1 := Lib.hid (row_last Vara4_133_1 (Vara4_133_1.heap.size) 3 [.int .i64 (i : Int)] (by simp))
        have B_ara4_134_1 := Lib.hid (B_ara4_133_1.out.alloc B_ara4_133_1.out.size (zI i))
        clear RL_ara4_133_1 S2_ara4_133_1 B_ara4_133_1
        generalize (Vara4_133_1.alloc (zI i)) = Vara4_134_1 at RL_ara4_134_1 S2_ara4_134_1 P1_ara4_134_1 B_ara4_134_1 ⊢
        refine hK _ _ ⟨RL_ara4_134_1.out, B_ara4_134_1.out⟩ (fun _ => ?_)
        clear hK K
        try simp only [Act.put, List.setIfInBounds_toArray, List.set_cons_zero, List.set_cons_succ]
        refine wpAnyH_take (i := 6) (oi := ⟨some 23, _, _, _, _, _⟩) (v := ?vara4_135) rfl (by kernel_rfl) (by kernel_rfl) (by kernel_rfl) (fun _ _ _ h => h) (Or.inl ⟨by rfl, ?yara4_135⟩) ⟨RL_ara4_134_1.out, B_ara4_134_1.out⟩ ?rara4_135
        case yara4_135 =>
          rintro w' hSw
          go_simp
          try with_reducible rfl
        try simp only [Act.put, List.setIfInBounds_toArray, List.set_cons_zero, List.set_cons_succ]
        refine wpAnyH_ready (rs := [8, 14]) (by kernel_rfl) (by simp) ?_
        refine (AllReadyH.cons rfl (fun K hK => ?_) (AllReadyH.cons rfl (fun K hK => ?_) AllReadyH.nil))
        · try rw [if_pos (by rfl)]
          go_simp
          have hltara4_136_1_0 : w.heap.size < Vara4_134_1.heap.size := RL_ara4_134_1.out.lt
          have hltara4_136_1_1 : Da4.heap.size < Vara4_134_1.heap.size := S2_ara4_134_1.out.lt
          have hltara4_136_1_2 : Vara4_133_1.heap.size < Vara4_134_1.heap.size := P1_ara4_134_1.out.lt
          have RL_ara4_136_1 := Lib.hid (RL_ara4_134_1.out.alloc (zI k))
          have S2_ara4_136_1 := Lib.hid (S2_ara4_134_1.out.alloc (zI k))
          have P1_ara4_136_1 := Lib.hid (P1_ara4_134_1.out.alloc (zI k))
          have P2_ara4_136_1 := Lib.hid (row_last Vara4_134_1 (Vara4_134_1.heap.size) 3 [.int .i64 (k : Int)] (by simp))
          have B_ara4_136_1 := Lib.hid (B_ara4_134_1.out.alloc B_ara4_134_1.out.size (zI k))
          clear RL_ara4_134_1 S2_ara4_134_1 P1_ara4_134_1 B_ara4_134_1
          generalize (Vara4_134_1.alloc (zI k)) = Vara4_136_1 at RL_ara4_136_1 S2_ara4_136_1 P1_ara4_136_1 P2_ara4_136_1 B_ara4_136_1 ⊢
          refine hK _ _ ⟨RL_ara4_136_1.out, B_ara4_136_1.out⟩ (fun _ => ?_)
          clear hK K
          try simp only [Act.put, List.setIfInBounds_toArray, List.set_cons_zero, List.set_cons_succ]
          refine wpAnyH_take (i := 13) (oi := ⟨some 30, _, _, _, _, _⟩) (v := ?vara4_137) rfl (by kernel_rfl) (by kernel_rfl) (by kernel_rfl) (fun _ _ _ h => h) (Or.inl ⟨by rfl, ?yara4_137⟩) ⟨RL_ara4_136_1.out, B_ara4_136_1.out⟩ ?rara4_137
          case yara4_137 =>
            rintro w' hSw
            go_simp
            try with_reducible rfl
          try simp only [Act.put, List.setIfInBounds_toArray, List.set_cons_zero, List.set_cons_succ]
          refine wpAnyH_ready (rs := [14]) (by kernel_rfl) (by simp) ?_
          refine (AllReadyH.cons rfl (fun K hK => ?_) AllReadyH.nil)
          try rw [if_pos (by rfl)]
          go_simp
          have hltara4_138_1_0 : w.heap.size < Vara4_136_1.heap.size := RL_ara4_136_1.out.lt
          have hltara4_138_1_1 : Da4.heap.size < Vara4_136_1.heap.size := S2_ara4_136_1.out.lt
          have hltara4_138_1_2 : Vara4_133_1.heap.size < Vara4_136_1.heap.size := P1_ara4_136_1.out.lt
          have hltara4_138_1_3 : Vara4_134_1.heap.size < Vara4_136_1.heap.size := P2_ara4_136_1.out.lt
          have RL_ara4_138_1 := Lib.hid (RL_ara4_136_1.out.alloc zS)
          have S2_ara4_138_1 := Lib.hid (S2_ara4_136_1.out.alloc zS)
          have P1_ara4_138_1 := Lib.hid (P1_ara4_136_1.out.alloc zS)
          have P2_ara4_138_1 := Lib.hid (P2_ara4_136_1.out.alloc zS)
          have S1_ara4_138_1 := Lib.hid (row_last Vara4_136_1 (Vara4_136_1.heap.size) 66 [.slice none 0 0, .int .i64 0, .int .i64 0, .int .i64 0, .int .i64 0] (by simp))
          have B_ara4_138_1 := Lib.hid (B_ara4_136_1.out.alloc B_ara4_136_1.out.size zS)
          clear RL_ara4_136_1 S2_ara4_136_1 P1_ara4_136_1 P2_ara4_136_1 B_ara4_136_1
          generalize (Vara4_136_1.alloc zS) = Vara4_138_1 at RL_ara4_138_1 S2_ara4_138_1 P1_ara4_138_1 P2_ara4_138_1 S1_ara4_138_1 B_ara4_138_1 ⊢
          refine hK _ _ ⟨RL_ara4_138_1.out, B_ara4_138_1.out⟩ (fun _ => ?_)
          clear hK K
          try simp only [Act.put, List.setIfInBounds_toArray, List.set_cons_zero, List.set_cons_succ]
          refine wpAnyH_ready (rs := [16]) (by kernel_rfl) (by simp) ?_
          refine (AllReadyH.cons rfl (fun K hK => ?_) AllReadyH.nil)
          obtain ⟨k0, k1, k2, k3, k4, f0, f1, f2, f3, f4⟩ := row5 S1_ara4_138_1.out
          rw [if_pos (by rfl)]
          go_simp
          clear f0 k0 f1 k1 f2 k2 f3 k3 f4 k4
          change K _ (st5 Vara4_138_1 (Vara4_136_1.heap.size) (.slice (some ⟨Vara4_133_1.heap.size, 0, none⟩) 1 1) (.int .i64 x.x0) (.int .i64 x.x1) (.int .i64 x.y0) (.int .i64 x.y1))
          have RL_sara4_139 := Lib.hid (st5_far (g := Vara4_136_1.heap.size) RL_ara4_138_1.out (by omega) (.slice (some ⟨Vara4_133_1.heap.size, 0, none⟩) 1 1) (.int .i64 x.x0) (.int .i64 x.x1) (.int .i64 x.y0) (.int .i64 x.y1))
          have S2_sara4_139 := Lib.hid (st5_far (g := Vara4_136_1.heap.size) S2_ara4_138_1.out (by omega) (.slice (some ⟨Vara4_133_1.heap.size, 0, none⟩) 1 1) (.int .i64 x.x0) (.int .i64 x.x1) (.int .i64 x.y0) (.int .i64 x.y1))
          have P1_sara4_139 := Lib.hid (st5_far (g := Vara4_136_1.heap.size) P1_ara4_138_1.out (by omega) (.slice (some ⟨Vara4_133_1.heap.size, 0, none⟩) 1 1) (.int .i64 x.x0) (.int .i64 x.x1) (.int .i64 x.y0) (.int .i64 x.y1))
          have P2_sara4_139 := Lib.hid (st5_far (g := Vara4_136_1.heap.size) P2_ara4_138_1.out (by omega) (.slice (some ⟨Vara4_133_1.heap.size, 0, none⟩) 1 1) (.int .i64 x.x0) (.int .i64 x.x1) (.int .i64 x.y0) (.int .i64 x.y1))
          have S1_sara4_139 := Lib.hid (st5_row S1_ara4_138_1.out (.slice (some ⟨Vara4_133_1.heap.size, 0, none⟩) 1 1) (.int .i64 x.x0) (.int .i64 x.x1) (.int .i64 x.y0) (.int .i64 x.y1))
          have B_sara4_139 := Lib.hid (st5_below (g := Vara4_136_1.heap.size) B_ara4_138_1.out (by omega) (.slice (some ⟨Vara4_133_1.heap.size, 0, none⟩) 1 1) (.int .i64 x.x0) (.int .i64 x.x1) (.int .i64 x.y0) (.int .i64 x.y1))
          clear RL_ara4_138_1 S2_ara4_138_1 P1_ara4_138_1 P2_ara4_138_1 S1_ara4_138_1 B_ara4_138_1
          generalize st5 Vara4_138_1 (Vara4_136_1.heap.size) (.slice (some ⟨Vara4_133_1.heap.size, 0, none⟩) 1 1) (.int .i64 x.x0) (.int .i64 x.x1) (.int .i64 x.y0) (.int .i64 x.y1) = Xara4_139 at RL_sara4_139 S2_sara4_139 P1_sara4_139 P2_sara4_139 S1_sara4_139 B_sara4_139 ⊢
          refine hK _ _ ⟨RL_sara4_139.out, B_sara4_139.out⟩ (fun _ => ?_)
          clear hK K
          try simp only [Act.put, List.setIfInBounds_toArray, List.set_cons_zero, List.set_cons_succ]
          refine wpAnyH_ready (rs := [17]) (by kernel_rfl) (by simp) ?_
          refine (AllReadyH.cons rfl (fun K hK => ?_) AllReadyH.nil)
          obtain ⟨k0, k1, k2, k3, k4, f0, f1, f2, f3, f4⟩ := row5 S2_sara4_139.out
          rw [if_pos (by rfl)]
          go_simp
          clear f0 k0 f1 k1 f2 k2 f3 k3 f4 k4
          change K _ (st5 Xara4_139 (Da4.heap.size) (.slice (some ⟨Vara4_134_1.heap.size, 0, none⟩) 1 1) (.int .i64 y.x0) (.int .i64 y.x1) (.int .i64 y.y0) (.int .i64 y.y1))
          have RL_sara4_140 := Lib.hid (st5_far (g := Da4.heap.size) RL_sara4_139.out (by omega) (.slice (some ⟨Vara4_134_1.heap.size, 0, none⟩) 1 1) (.int .i64 y.x0) (.int .i64 y.x1) (.int .i64 y.y0) (.int .i64 y.y1))
          have S2_sara4_140 := Lib.hid (st5_row S2_sara4_139.out (.slice (some ⟨Vara4_134_1.heap.size, 0, none⟩) 1 1) (.int .i64 y.x0) (.int .i64 y.x1) (.int .i64 y.y0) (.int .i64 y.y1))
          have P1_sara4_140 := Lib.hid (st5_far (g := Da4.heap.size) P1_sara4_139.out (by omega) (.slice (some ⟨Vara4_134_1.heap.size, 0, none⟩) 1 1) (.int .i64 y.x0) (.int .i64 y.x1) (.int .i64 y.y0) (.int .i64 y.y1))
          have P2_sara4_140 := Lib.hid (st5_far (g := Da4.heap.size) P2_sara4_139.out (by omega) (.slice (some ⟨Vara4_134_1.heap.size, 0, none⟩) 1 1) (.int .i64 y.x0) (.int .i64 y.x1) (.int .i64 y.y0) (.int .i64 y.y1))
          have S1_sara4_140 := Lib.hid (st5_far (g := Da4.heap.size) S1_sara4_139.out (by omega) (.slice (some ⟨Vara4_134_1.heap.size, 0, none⟩) 1 1) (.int .i64 y.x0) (.int .i64 y.x1) (.int .i64 y.y0) (.int .i64 y.y1))
          have B_sara4_140 := Lib.hid (st5_below (g := Da4.heap.size) B_sara4_139.out (by omega) (.slice (some ⟨Vara4_134_1.heap.size, 0, none⟩) 1 1) (.int .i64 y.x0) (.int .i64 y.x1) (.int .i64 y.y0) (.int .i64 y.y1))
          clear RL_sara4_139 S2_sara4_139 P1_sara4_139 P2_sara4_139 S1_sara4_139 B_sara4_139
          generalize st5 Xara4_139 (Da4.heap.size) (.slice (some ⟨Vara4_134_1.heap.size, 0, none⟩) 1 1) (.int .i64 y.x0) (.int .i64 y.x1) (.int .i64 y.y0) (.int .i64 y.y1) = Xara4_140 at RL_sara4_140 S2_sara4_140 P1_sara4_140 P2_sara4_140 S1_sara4_140 B_sara4_140 ⊢
          refine hK _ _ ⟨RL_sara4_140.out, B_sara4_140.out⟩ (fun _ => ?_)
          clear hK K
          try simp only [Act.put, List.setIfInBounds_toArray, List.set_cons_zero, List.set_cons_succ]
          refine wpAnyH_done (by kernel_rfl) ?_ _
          go_wp2_with fail
          go_meet
          exact ⟨_, _, _, _, rfl, rfl, RL_sara4_140.out, S1_sara4_140.out, S2_sara4_140.out, P1_sara4_140.out, P2_sara4_140.out, by omega, by omega, by omega, by omega, by omega, by omega, B_sara4_140.out⟩
        · try rw [if_pos (by rfl)]
          go_simp
          have hltara4_141_1_0 : w.heap.size < Vara4_134_1.heap.size := RL_ara4_134_1.out.lt
          have hltara4_141_1_1 : Da4.heap.size < Vara4_134_1.heap.size := S2_ara4_134_1.out.lt
          have hltara4_141_1_2 : Vara4_133_1.heap.size < Vara4_134_1.heap.size := P1_ara4_134_1.out.lt
          have RL_ara4_141_1 := Lib.hid (RL_ara4_134_1.out.alloc zS)
          have S2_ara4_141_1 := Lib.hid (S2_ara4_134_1.out.alloc zS)
          have P1_ara4_141_1 := Lib.hid (P1_ara4_134_1.out.alloc zS)
          have S1_ara4_141_1 := Lib.hid (row_last Vara4_134_1 (Vara4_134_1.heap.size) 66 [.slice none 0 0, .int .i64 0, .int .i64 0, .int .i64 0, .int .i64 0] (by simp))
          have B_ara4_141_1 := Lib.hid (B_ara4_134_1.out.alloc B_ara4_134_1.out.size zS)
          clear RL_ara4_134_1 S2_ara4_134_1 P1_ara4_134_1 B_ara4_134_1
          generalize (Vara4_134_1.alloc zS) = Vara4_141_1 at RL_ara4_141_1 S2_ara4_141_1 P1_ara4_141_1 S1_ara4_141_1 B_ara4_141_1 ⊢
          refine hK _ _ ⟨RL_ara4_141_1.out, B_ara4_141_1.out⟩ (fun _ => ?_)
          clear hK K
          try simp only [Act.put, List.setIfInBounds_toArray, List.set_cons_zero, List.set_cons_succ]
          refine wpAnyH_ready (rs := [8, 16]) (by kernel_rfl) (by simp) ?_
          refine (AllReadyH.cons rfl (fun K hK => ?_) (AllReadyH.cons rfl (fun K hK => ?_) AllReadyH.nil))
          · try rw [if_pos (by rfl)]
            go_simp
            have hltara4_142_1_0 : w.heap.size < Vara4_141_1.heap.size := RL_ara4_141_1.out.lt
            have hltara4_142_1_1 : Da4.heap.size < Vara4_141_1.heap.size := S2_ara4_141_1.out.lt
            have hltara4_142_1_2 : Vara4_133_1.heap.size < Vara4_141_1.heap.size := P1_ara4_141_1.out.lt
            have hltara4_142_1_3 : Vara4_134_1.heap.size < Vara4_141_1.heap.size := S1_ara4_141_1.out.lt
            have RL_ara4_142_1 := Lib.hid (RL_ara4_141_1.out.alloc (zI k))
            have S2_ara4_142_1 := Lib.hid (S2_ara4_141_1.out.alloc (zI k))
            have P1_ara4_142_1 := Lib.hid (P1_ara4_141_1.out.alloc (zI k))
            have S1_ara4_142_1 := Lib.hid (S1_ara4_141_1.out.alloc (zI k))
            have P2_ara4_142_1 := Lib.hid (row_last Vara4_141_1 (Vara4_141_1.heap.size) 3 [.int .i64 (k : Int)] (by simp))
            have B_ara4_142_1 := Lib.hid (B_ara4_141_1.out.alloc B_ara4_141_1.out.size (zI k))
            clear RL_ara4_141_1 S2_ara4_141_1 P1_ara4_141_1 S1_ara4_141_1 B_ara4_141_1
            generalize (Vara4_141_1.alloc (zI k)) = Vara4_142_1 at RL_ara4_142_1 S2_ara4_142_1 P1_ara4_142_1 S1_ara4_142_1 P2_ara4_142_1 B_ara4_142_1 ⊢
            refine hK _ _ ⟨RL_ara4_142_1.out, B_ara4_142_1.out⟩ (fun _ => ?_)
            clear hK K
            try simp only [Act.put, List.setIfInBounds_toArray, List.set_cons_zero, List.set_cons_succ]
            refine wpAnyH_take (i := 13) (oi := ⟨some 30, _, _, _, _, _⟩) (v := ?vara4_143) rfl (by kernel_rfl) (by kernel_rfl) (by kernel_rfl) (fun _ _ _ h => h) (Or.inl ⟨by rfl, ?yara4_143⟩) ⟨RL_ara4_142_1.out, B_ara4_142_1.out⟩ ?rara4_143
            case yara4_143 =>
              rintro w' hSw
              go_simp
              try with_reducible rfl
            try simp only [Act.put, List.setIfInBounds_toArray, List.set_cons_zero, List.set_cons_succ]
            refine wpAnyH_ready (rs := [16]) (by kernel_rfl) (by simp) ?_
            refine (AllReadyH.cons rfl (fun K hK => ?_) AllReadyH.nil)
            obtain ⟨k0, k1, k2, k3, k4, f0, f1, f2, f3, f4⟩ := row5 S1_ara4_142_1.out
            rw [if_pos (by rfl)]
            go_simp
            clear f0 k0 f1 k1 f2 k2 f3 k3 f4 k4
            change K _ (st5 Vara4_142_1 (Vara4_134_1.heap.size) (.slice (some ⟨Vara4_133_1.heap.size, 0, none⟩) 1 1) (.int .i64 x.x0) (.int .i64 x.x1) (.int .i64 x.y0) (.int .i64 x.y1))
            have RL_sara4_144 := Lib.hid (st5_far (g := Vara4_134_1.heap.size) RL_ara4_142_1.out (by omega) (.slice (some ⟨Vara4_133_1.heap.size, 0, none⟩) 1 1) (.int .i64 x.x0) (.int .i64 x.x1) (.int .i64 x.y0) (.int .i64 x.y1))
            have S2_sara4_144 := Lib.hid (st5_far (g := Vara4_134_1.heap.size) S2_ara4_142_1.out (by omega) (.slice (some ⟨Vara4_133_1.heap.size, 0, none⟩) 1 1) (.int .i64 x.x0) (.int .i64 x.x1) (.int .i64 x.y0) (.int .i64 x.y1))
            have P1_sara4_144 := Lib.hid (st5_far (g := Vara4_134_1.heap.size) P1_ara4_142_1.out (by omega) (.slice (some ⟨Vara4_133_1.heap.size, 0, none⟩) 1 1) (.int .i64 x.x0) (.int .i64 x.x1) (.int .i64 x.y0) (.int .i64 x.y1))
            have S1_sara4_144 := Lib.hid (st5_row S1_ara4_142_1.out (.slice (some ⟨Vara4_133_1.heap.size, 0, none⟩) 1 1) (.int .i64 x.x0) (.int .i64 x.x1) (.int .i64 x.y0) (.int .i64 x.y1))
            have P2_sara4_144 := Lib.hid (st5_far (g := Vara4_134_1.heap.size) P2_ara4_142_1.out (by omega) (.slice (some ⟨Vara4_133_1.heap.size, 0, none⟩) 1 1) (.int .i64 x.x0) (.int .i64 x.x1) (.int .i64 x.y0) (.int .i64 x.y1))
            have B_sara4_144 := Lib.hid (st5_below (g := Vara4_134_1.heap.size) B_ara4_142_1.out (by omega) (.slice (some ⟨Vara4_133_1.heap.size, 0, none⟩) 1 1) (.int .i64 x.x0) (.int .i64 x.x1) (.int .i64 x.y0) (.int .i64 x.y1))
            clear RL_ara4_142_1 S2_ara4_142_1 P1_ara4_142_1 S1_ara4_142_1 P2_ara4_142_1 B_ara4_142_1
            generalize st5 Vara4_142_1 (Vara4_134_1.heap.size) (.slice (some ⟨Vara4_133_1.heap.size, 0, none⟩) 1 1) (.int .i64 x.x0) (.int .i64 x.x1) (.int .i64 x.y0) (.int .i64 x.y1) = Xara4_144 at RL_sara4_144 S2_sara4_144 P1_sara4_144 S1_sara4_144 P2_sara4_144 B_sara4_144 ⊢
            refine hK _ _ ⟨RL_sara4_144.out, B_sara4_144.out⟩ (fun _ => ?_)
            clear hK K
            try simp only [Act.put, List.setIfInBounds_toArray, List.set_cons_zero, List.set_cons_succ]
            refine wpAnyH_ready (rs := [17]) (by kernel_rfl) (by simp) ?_
            refine (AllReadyH.cons rfl (fun K hK => ?_) AllReadyH.nil)
            obtain ⟨k0, k1, k2, k3, k4, f0, f1, f2, f3, f4⟩ := row5 S2_sara4_144.out
            rw [if_pos (by rfl)]
            go_simp
            clear f0 k0 f1 k1 f2 k2 f3 k3 f4 k4
            change K _ (st5 Xara4_144 (Da4.heap.size) (.slice (some ⟨Vara4_141_1.heap.size, 0, none⟩) 1 1) (.int .i64 y.x0) (.int .i64 y.x1) (.int .i64 y.y0) (.int .i64 y.y1))
            have RL_sara4_145 := Lib.hid (st5_far (g := Da4.heap.size) RL_sara4_144.out (by omega) (.slice (some ⟨Vara4_141_1.heap.size, 0, none⟩) 1 1) (.int .i64 y.x0) (.int .i64 y.x1) (.int .i64 y.y0) (.int .i64 y.y1))
            have S2_sara4_145 := Lib.hid (st5_row S2_sara4_144.out (.slice (some ⟨Vara4_141_1.heap.size, 0, none⟩) 1 1) (.int .i64 y.x0) (.int .i64 y.x1) (.int .i64 y.y0) (.int .i64 y.y1))
            have P1_sara4_145 := Lib.hid (st5_far (g := Da4.heap.size) P1_sara4_144.out (by omega) (.slice (some ⟨Vara4_141_1.heap.size, 0, none⟩) 1 1) (.int .i64 y.x0) (.int .i64 y.x1) (.int .i64 y.y0) (.int .i64 y.y1))
            have S1_sara4_145 := Lib.hid (st5_far (g := Da4.heap.size) S1_sara4_144.out (by omega) (.slice (some ⟨Vara4_141_1.heap.size, 0, none⟩) 1 1) (.int .i64 y.x0) (.int .i64 y.x1) (.int .i64 y.y0) (.int .i64 y.y1))
            have P2_sara4_145 := Lib.hid (st5_far (g := Da4.heap.size) P2_sara4_144.out (by omega) (.slice (some ⟨Vara4_141_1.heap.size, 0, none⟩) 1 1) (.int .i64 y.x0) (.int .i64 y.x1) (.int .i64 y.y0) (.int .i64 y.y1))
            have B_sara4_145 := Lib.hid (st5_below (g := Da4.heap.size) B_sara4_144.out (by omega) (.slice (some ⟨Vara4_141_1.heap.size, 0, none⟩) 1 1) (.int .i64 y.x0) (.int .i64 y.x1) (.int .i64 y.y0) (.int .i64 y.y1))
            clear RL_sara4_144 S2_sara4_144 P1_sara4_144 S1_sara4_144 P2_sara4_144 B_sara4_144
            generalize st5 Xara4_144 (Da4.heap.size) (.slice (some ⟨Vara4_141_1.heap.size, 0, none⟩) 1 1) (.int .i64 y.x0) (.int .i64 y.x1) (.int .i64 y.y0) (.int .i64 y.y1) = Xara4_145 at RL_sara4_145 S2_sara4_145 P1_sara4_145 S1_sara4_145 P2_sara4_145 B_sara4_145 ⊢
            refine hK _ _ ⟨RL_sara4_145.out, B_sara4_145.out⟩ (fun _ => ?_)
            clear hK K
            try simp only [Act.put, List.setIfInBounds_toArray, List.set_cons_zero, List.set_cons_succ]
            refine wpAnyH_done (by kernel_rfl) ?_ _
            go_wp2_with fail
            go_meet
            exact ⟨_, _, _, _, rfl, rfl, RL_sara4_145.out, S1_sara4_145.out, S2_sara4_145.out, P1_sara4_145.out, P2_sara4_145.out, by omega, by omega, by omega, by omega, by omega, by omega, B_sara4_145.out⟩
          · obtain ⟨k0, k1, k2, k3, k4, f0, f1, f2, f3, f4⟩ := row5 S1_ara4_141_1.out
            rw [if_pos (by rfl)]
            go_simp
            clear f0 k0 f1 k1 f2 k2 f3 k3 f4 k4
            change K _ (st5 Vara4_141_1 (Vara4_134_1.heap.size) (.slice (some ⟨Vara4_133_1.heap.size, 0, none⟩) 1 1) (.int .i64 x.x0) (.int .i64 x.x1) (.int .i64 x.y0) (.int .i64 x.y1))
            have RL_sara4_146 := Lib.hid (st5_far (g := Vara4_134_1.heap.size) RL_ara4_141_1.out (by omega) (.slice (some ⟨Vara4_133_1.heap.size, 0, none⟩) 1 1) (.int .i64 x.x0) (.int .i64 x.x1) (.int .i64 x.y0) (.int .i64 x.y1))
            have S2_sara4_146 := Lib.hid (st5_far (g := Vara4_134_1.heap.size) S2_ara4_141_1.out (by omega) (.slice (some ⟨Vara4_133_1.heap.size, 0, none⟩) 1 1) (.int .i64 x.x0) (.int .i64 x.x1) (.int .i64 x.y0) (.int .i64 x.y1))
            have P1_sara4_146 := Lib.hid (st5_far (g := Vara4_134_1.heap.size) P1_ara4_141_1.out (by omega) (.slice (some ⟨Vara4_133_1.heap.size, 0, none⟩) 1 1) (.int .i64 x.x0) (.int .i64 x.x1) (.int .i64 x.y0) (.int .i64 x.y1))
            have S1_sara4_146 := Lib.hid (st5_row S1_ara4_141_1.out (.slice (some ⟨Vara4_133_1.heap.size, 0, none⟩) 1 1) (.int .i64 x.x0) (.int .i64 x.x1) (.int .i64 x.y0) (.int .i64 x.y1))
            have B_sara4_146 := Lib.hid (st5_below (g := Vara4_134_1.heap.size) B_ara4_141_1.out (by omega) (.slice (some ⟨Vara4_133_1.heap.size, 0, none⟩) 1 1) (.int .i64 x.x0) (.int .i64 x.x1) (.int .i64 x.y0) (.int .i64 x.y1))
            clear RL_ara4_141_1 S2_ara4_141_1 P1_ara4_141_1 S1_ara4_141_1 B_ara4_141_1
            generalize st5 Vara4_141_1 (Vara4_134_1.heap.size) (.slice (some ⟨Vara4_133_1.heap.size, 0, none⟩) 1 1) (.int .i64 x.x0) (.int .i64 x.x1) (.int .i64 x.y0) (.int .i64 x.y1) = Xara4_146 at RL_sara4_146 S2_sara4_146 P1_sara4_146 S1_sara4_146 B_sara4_146 ⊢
            refine hK _ _ ⟨RL_sara4_146.out, B_sara4_146.out⟩ (fun _ => ?_)
            clear hK K
            try simp only [Act.put, List.setIfInBounds_toArray, List.set_cons_zero, List.set_cons_succ]
            refine wpAnyH_ready (rs := [8]) (by kernel_rfl) (by simp) ?_
            refine (AllReadyH.cons rfl (fun K hK => ?_) AllReadyH.nil)
            try rw [if_pos (by rfl)]
            go_simp
            have hltara4_147_1_0 : w.heap.size < Xara4_146.heap.size := RL_sara4_146.out.lt
            have hltara4_147_1_1 : Da4.heap.size < Xara4_146.heap.size := S2_sara4_146.out.lt
            have hltara4_147_1_2 : Vara4_133_1.heap.size < Xara4_146.heap.size := P1_sara4_146.out.lt
            have hltara4_147_1_3 : Vara4_134_1.heap.size < Xara4_146.heap.size := S1_sara4_146.out.lt
            have RL_ara4_147_1 := Lib.hid (RL_sara4_146.out.alloc (zI k))
            have S2_ara4_147_1 := Lib.hid (S2_sara4_146.out.alloc (zI k))
            have P1_ara4_147_1 := Lib.hid (P1_sara4_146.out.alloc (zI k))
            have S1_ara4_147_1 := Lib.hid (S1_sara4_146.out.alloc (zI k))
            have P2_ara4_147_1 := Lib.hid (row_last Xara4_146 (Xara4_146.heap.size) 3 [.int .i64 (k : Int)] (by simp))
            have B_ara4_147_1 := Lib.hid (B_sara4_146.out.alloc B_sara4_146.out.size (zI k))
            clear RL_sara4_146 S2_sara4_146 P1_sara4_146 S1_sara4_146 B_sara4_146
            generalize (Xara4_146.alloc (zI k)) = Vara4_147_1 at RL_ara4_147_1 S2_ara4_147_1 P1_ara4_147_1 S1_ara4_147_1 P2_ara4_147_1 B_ara4_147_1 ⊢
            refine hK _ _ ⟨RL_ara4_147_1.out, B_ara4_147_1.out⟩ (fun _ => ?_)
            clear hK K
            try simp only [Act.put, List.setIfInBounds_toArray, List.set_cons_zero, List.set_cons_succ]
            refine wpAnyH_take (i := 13) (oi := ⟨some 30, _, _, _, _, _⟩) (v := ?vara4_148) rfl (by kernel_rfl) (by kernel_rfl) (by kernel_rfl) (fun _ _ _ h => h) (Or.inl ⟨by rfl, ?yara4_148⟩) ⟨RL_ara4_147_1.out, B_ara4_147_1.out⟩ ?rara4_148
            case yara4_148 =>
              rintro w' hSw
              go_simp
              try with_reducible rfl
            try simp only [Act.put, List.setIfInBounds_toArray, List.set_cons_zero, List.set_cons_succ]
            refine wpAnyH_ready (rs := [17]) (by kernel_rfl) (by simp) ?_
            refine (AllReadyH.cons rfl (fun K hK => ?_) AllReadyH.nil)
            obtain ⟨k0, k1, k2, k3, k4, f0, f1, f2, f3, f4⟩ := row5 S2_ara4_147_1.out
            rw [if_pos (by rfl)]
            go_simp
            clear f0 k0 f1 k1 f2 k2 f3 k3 f4 k4
            change K _ (st5 Vara4_147_1 (Da4.heap.size) (.slice (some ⟨Xara4_146.heap.size, 0, none⟩) 1 1) (.int .i64 y.x0) (.int .i64 y.x1) (.int .i64 y.y0) (.int .i64 y.y1))
            have RL_sara4_149 := Lib.hid (st5_far (g := Da4.heap.size) RL_ara4_147_1.out (by omega) (.slice (some ⟨Xara4_146.heap.size, 0, none⟩) 1 1) (.int .i64 y.x0) (.int .i64 y.x1) (.int .i64 y.y0) (.int .i64 y.y1))
            have S2_sara4_149 := Lib.hid (st5_row S2_ara4_147_1.out (.slice (some ⟨Xara4_146.heap.size, 0, none⟩) 1 1) (.int .i64 y.x0) (.int .i64 y.x1) (.int .i64 y.y0) (.int .i64 y.y1))
            have P1_sara4_149 := Lib.hid (st5_far (g := Da4.heap.size) P1_ara4_147_1.out (by omega) (.slice (some ⟨Xara4_146.heap.size, 0, none⟩) 1 1) (.int .i64 y.x0) (.int .i64 y.x1) (.int .i64 y.y0) (.int .i64 y.y1))
            have S1_sara4_149 := Lib.hid (st5_far (g := Da4.heap.size) S1_ara4_147_1.out (by omega) (.slice (some ⟨Xara4_146.heap.size, 0, none⟩) 1 1) (.int .i64 y.x0) (.int .i64 y.x1) (.int .i64 y.y0) (.int .i64 y.y1))
            have P2_sara4_149 := Lib.hid (st5_far (g := Da4.heap.size) P2_ara4_147_1.out (by omega) (.slice (some ⟨Xara4_146.heap.size, 0, none⟩) 1 1) (.int .i64 y.x0) (.int .i64 y.x1) (.int .i64 y.y0) (.int .i64 y.y1))
            have B_sara4_149 := Lib.hid (st5_below (g := Da4.heap.size) B_ara4_147_1.out (by omega) (.slice (some ⟨Xara4_146.heap.size, 0, none⟩) 1 1) (.int .i64 y.x0) (.int .i64 y.x1) (.int .i64 y.y0) (.int .i64 y.y1))
            clear RL_ara4_147_1 S2_ara4_147_1 P1_ara4_147_1 S1_ara4_147_1 P2_ara4_147_1 B_ara4_147_1
            generalize st5 Vara4_147_1 (Da4.heap.size) (.slice (some ⟨Xara4_146.heap.size, 0, none⟩) 1 1) (.int .i64 y.x0) (.int .i64 y.x1) (.int .i64 y.y0) (.int .i64 y.y1) = Xara4_149 at RL_sara4_149 S2_sara4_149 P1_sara4_149 S1_sara4_149 P2_sara4_149 B_sara4_149 ⊢
            refine hK _ _ ⟨RL_sara4_149.out, B_sara4_149.out⟩ (fun _ => ?_)
            clear hK K
            try simp only [Act.put, List.setIfInBounds_toArray, List.set_cons_zero, List.set_cons_succ]
            refine wpAnyH_done (by kernel_rfl) ?_ _
            go_wp2_with fail
            go_meet
            exact ⟨_, _, _, _, rfl, rfl, RL_sara4_149.out, S1_sara4_149.out, S2_sara4_149.out, P1_sara4_149.out, P2_sara4_149.out, by omega, by omega, by omega, by omega, by omega, by omega, B_sara4_149.out⟩
      · try rw [if_pos (by rfl)]
        go_simp
        have hltara4_150_1_0 : w.heap.size < Vara4_133_1.heap.size := RL_ara4_133_1.out.lt
        have hltara4_150_1_1 : Da4.heap.size < Vara4_133_1.heap.size := S2_ara4_133_1.out.lt
        have RL_ara4_150_1 := Lib.hid (RL_ara4_133_1.out.alloc (zI k))
        have S2_ara4_150_1 := Lib.hid (S2_ara4_133_1.out.alloc (zI k))
        have P2_ara4_150_1 := Lib.hid (row_last Vara4_133_1 (Vara4_133_1.heap.size) 3 [.int .i64 (k : Int)] (by simp))
        have B_ara4_150_1 := Lib.hid (B_ara4_133_1.out.alloc B_ara4_133_1.out.size (zI k))
        clear RL_ara4_133_1 S2_ara4_133_1 B_ara4_133_1
        generalize (Vara4_133_1.alloc (zI k)) = Vara4_150_1 at RL_ara4_150_1 S2_ara4_150_1 P2_ara4_150_1 B_ara4_150_1 ⊢
        refine hK _ _ ⟨RL_ara4_150_1.out, B_ara4_150_1.out⟩ (fun _ => ?_)
        clear hK K
        try simp only [Act.put, List.setIfInBounds_toArray, List.set_cons_zero, List.set_cons_succ]
        refine wpAnyH_take (i := 13) (oi := ⟨some 30, _, _, _, _, _⟩) (v := ?vara4_151) rfl (by kernel_rfl) (by kernel_rfl) (by kernel_rfl) (fun _ _ _ h => h) (Or.inl ⟨by rfl, ?yara4_151⟩) ⟨RL_ara4_150_1.out, B_ara4_150_1.out⟩ ?rara4_151
        case yara4_151 =>
          rintro w' hSw
          go_simp
          try with_reducible rfl
        try simp only [Act.put, List.setIfInBounds_toArray, List.set_cons_zero, List.set_cons_succ]
        refine wpAnyH_ready (rs := [1, 14]) (by kernel_rfl) (by simp) ?_
        refine (AllReadyH.cons rfl (fun K hK => ?_) (AllReadyH.cons rfl (fun K hK => ?_) AllReadyH.nil))
        · try rw [if_pos (by rfl)]
          go_simp
          have hltara4_152_1_0 : w.heap.size < Vara4_150_1.heap.size := RL_ara4_150_1.out.lt
          have hltara4_152_1_1 : Da4.heap.size < Vara4_150_1.heap.size := S2_ara4_150_1.out.lt
          have hltara4_152_1_2 : Vara4_133_1.heap.size < Vara4_150_1.heap.size := P2_ara4_150_1.out.lt
          have RL_ara4_152_1 := Lib.hid (RL_ara4_150_1.out.alloc (zI i))
          have S2_ara4_152_1 := Lib.hid (S2_ara4_150_1.out.alloc (zI i))
          have P2_ara4_152_1 := Lib.hid (P2_ara4_150_1.out.alloc (zI i))
          have P1_ara4_152_1 := Lib.hid (row_last Vara4_150_1 (Vara4_150_1.heap.size) 3 [.int .i64 (i : Int)] (by simp))
          have B_ara4_152_1 := Lib.hid (B_ara4_150_1.out.alloc B_ara4_150_1.out.size (zI i))
          clear RL_ara4_150_1 S2_ara4_150_1 P2_ara4_150_1 B_ara4_150_1
          generalize (Vara4_150_1.alloc (zI i)) = Vara4_152_1 at RL_ara4_152_1 S2_ara4_152_1 P2_ara4_152_1 P1_ara4_152_1 B_ara4_152_1 ⊢
          refine hK _ _ ⟨RL_ara4_152_1.out, B_ara4_152_1.out⟩ (fun _ => ?_)
          clear hK K
          try simp only [Act.put, List.setIfInBounds_toArray, List.set_cons_zero, List.set_cons_succ]
          refine wpAnyH_take (i := 6) (oi := ⟨some 23, _, _, _, _, _⟩) (v := ?vara4_153) rfl (by kernel_rfl) (by kernel_rfl) (by kernel_rfl) (fun _ _ _ h => h) (Or.inl ⟨by rfl, ?yara4_153⟩) ⟨RL_ara4_152_1.out, B_ara4_152_1.out⟩ ?rara4_153
          case yara4_153 =>
            rintro w' hSw
            go_simp
            try with_reducible rfl
          try simp only [Act.put, List.setIfInBounds_toArray, List.set_cons_zero, List.set_cons_succ]
          refine wpAnyH_ready (rs := [14]) (by kernel_rfl) (by simp) ?_
          refine (AllReadyH.cons rfl (fun K hK => ?_) AllReadyH.nil)
          try rw [if_pos (by rfl)]
          go_simp
          have hltara4_154_1_0 : w.heap.size < Vara4_152_1.heap.size := RL_ara4_152_1.out.lt
          have hltara4_154_1_1 : Da4.heap.size < Vara4_152_1.heap.size := S2_ara4_152_1.out.lt
          have hltara4_154_1_2 : Vara4_133_1.heap.size < Vara4_152_1.heap.size := P2_ara4_152_1.out.lt
          have hltara4_154_1_3 : Vara4_150_1.heap.size < Vara4_152_1.heap.size := P1_ara4_152_1.out.lt
          have RL_ara4_154_1 := Lib.hid (RL_ara4_152_1.out.alloc zS)
          have S2_ara4_154_1 := Lib.hid (S2_ara4_152_1.out.alloc zS)
          have P2_ara4_154_1 := Lib.hid (P2_ara4_152_1.out.alloc zS)
          have P1_ara4_154_1 := Lib.hid (P1_ara4_152_1.out.alloc zS)
          have S1_ara4_154_1 := Lib.hid (row_last Vara4_152_1 (Vara4_152_1.heap.size) 66 [.slice none 0 0, .int .i64 0, .int .i64 0, .int .i64 0, .int .i64 0] (by simp))
          have B_ara4_154_1 := Lib.hid (B_ara4_152_1.out.alloc B_ara4_152_1.out.size zS)
          clear RL_ara4_152_1 S2_ara4_152_1 P2_ara4_152_1 P1_ara4_152_1 B_ara4_152_1
          generalize (Vara4_152_1.alloc zS) = Vara4_154_1 at RL_ara4_154_1 S2_ara4_154_1 P2_ara4_154_1 P1_ara4_154_1 S1_ara4_154_1 B_ara4_154_1 ⊢
          refine hK _ _ ⟨RL_ara4_154_1.out, B_ara4_154_1.out⟩ (fun _ => ?_)
          clear hK K
          try simp only [Act.put, List.setIfInBounds_toArray, List.set_cons_zero, List.set_cons_succ]
          refine wpAnyH_ready (rs := [16]) (by kernel_rfl) (by simp) ?_
          refine (AllReadyH.cons rfl (fun K hK => ?_) AllReadyH.nil)
          obtain ⟨k0, k1, k2, k3, k4, f0, f1, f2, f3, f4⟩ := row5 S1_ara4_154_1.out
          rw [if_pos (by rfl)]
          go_simp
          clear f0 k0 f1 k1 f2 k2 f3 k3 f4 k4
          change K _ (st5 Vara4_154_1 (Vara4_152_1.heap.size) (.slice (some ⟨Vara4_150_1.heap.size, 0, none⟩) 1 1) (.int .i64 x.x0) (.int .i64 x.x1) (.int .i64 x.y0) (.int .i64 x.y1))
          have RL_sara4_155 := Lib.hid (st5_far (g := Vara4_152_1.heap.size) RL_ara4_154_1.out (by omega) (.slice (some ⟨Vara4_150_1.heap.size, 0, none⟩) 1 1) (.int .i64 x.x0) (.int .i64 x.x1) (.int .i64 x.y0) (.int .i64 x.y1))
          have S2_sara4_155 := Lib.hid (st5_far (g := Vara4_152_1.heap.size) S2_ara4_154_1.out (by omega) (.slice (some ⟨Vara4_150_1.heap.size, 0, none⟩) 1 1) (.int .i64 x.x0) (.int .i64 x.x1) (.int .i64 x.y0) (.int .i64 x.y1))
          have P2_sara4_155 := Lib.hid (st5_far (g := Vara4_152_1.heap.size) P2_ara4_154_1.out (by omega) (.slice (some ⟨Vara4_150_1.heap.size, 0, none⟩) 1 1) (.int .i64 x.x0) (.int .i64 x.x1) (.int .i64 x.y0) (.int .i64 x.y1))
          have P1_sara4_155 := Lib.hid (st5_far (g := Vara4_152_1.heap.size) P1_ara4_154_1.out (by omega) (.slice (some ⟨Vara4_150_1.heap.size, 0, none⟩) 1 1) (.int .i64 x.x0) (.int .i64 x.x1) (.int .i64 x.y0) (.int .i64 x.y1))
          have S1_sara4_155 := Lib.hid (st5_row S1_ara4_154_1.out (.slice (some ⟨Vara4_150_1.heap.size, 0, none⟩) 1 1) (.int .i64 x.x0) (.int .i64 x.x1) (.int .i64 x.y0) (.int .i64 x.y1))
          have B_sara4_155 := Lib.hid (st5_below (g := Vara4_152_1.heap.size) B_ara4_154_1.out (by omega) (.slice (some ⟨Vara4_150_1.heap.size, 0, none⟩) 1 1) (.int .i64 x.x0) (.int .i64 x.x1) (.int .i64 x.y0) (.int .i64 x.y1))
          clear RL_ara4_154_1 S2_ara4_154_1 P2_ara4_154_1 P1_ara4_154_1 S1_ara4_154_1 B_ara4_154_1
          generalize st5 Vara4_154_1 (Vara4_152_1.heap.size) (.slice (some ⟨Vara4_150_1.heap.size, 0, none⟩) 1 1) (.int .i64 x.x0) (.int .i64 x.x1) (.int .i64 x.y0) (.int .i64 x.y1) = Xara4_155 at RL_sara4_155 S2_sara4_155 P2_sara4_155 P1_sara4_155 S1_sara4_155 B_sara4_155 ⊢
          refine hK _ _ ⟨RL_sara4_155.out, B_sara4_155.out⟩ (fun _ => ?_)
          clear hK K
          try simp only [Act.put, List.setIfInBounds_toArray, List.set_cons_zero, List.set_cons_succ]
          refine wpAnyH_ready (rs := [17]) (by kernel_rfl) (by simp) ?_
          refine (AllReadyH.cons rfl (fun K hK => ?_) AllReadyH.nil)
          obtain ⟨k0, k1, k2, k3, k4, f0, f1, f2, f3, f4⟩ := row5 S2_sara4_155.out
          rw [if_pos (by rfl)]
          go_simp
          clear f0 k0 f1 k1 f2 k2 f3 k3 f4 k4
          change K _ (st5 Xara4_155 (Da4.heap.size) (.slice (some ⟨Vara4_133_1.heap.size, 0, none⟩) 1 1) (.int .i64 y.x0) (.int .i64 y.x1) (.int .i64 y.y0) (.int .i64 y.y1))
          have RL_sara4_156 := Lib.hid (st5_far (g := Da4.heap.size) RL_sara4_155.out (by omega) (.slice (some ⟨Vara4_133_1.heap.size, 0, none⟩) 1 1) (.int .i64 y.x0) (.int .i64 y.x1) (.int .i64 y.y0) (.int .i64 y.y1))
          have S2_sara4_156 := Lib.hid (st5_row S2_sara4_155.out (.slice (some ⟨Vara4_133_1.heap.size, 0, none⟩) 1 1) (.int .i64 y.x0) (.int .i64 y.x1) (.int .i64 y.y0) (.int .i64 y.y1))
          have P2_sara4_156 := Lib.hid (st5_far (g := Da4.heap.size) P2_sara4_155.out (by omega) (.slice (some ⟨Vara4_133_1.heap.size, 0, none⟩) 1 1) (.int .i64 y.x0) (.int .i64 y.x1) (.int .i64 y.y0) (.int .i64 y.y1))
          have P1_sara4_156 := Lib.hid (st5_far (g := Da4.heap.size) P1_sara4_155.out (by omega) (.slice (some ⟨Vara4_133_1.heap.size, 0, none⟩) 1 1) (.int .i64 y.x0) (.int .i64 y.x1) (.int .i64 y.y0) (.int .i64 y.y1))
          have S1_sara4_156 := Lib.hid (st5_far (g := Da4.heap.size) S1_sara4_155.out (by omega) (.slice (some ⟨Vara4_133_1.heap.size, 0, none⟩) 1 1) (.int .i64 y.x0) (.int .i64 y.x1) (.int .i64 y.y0) (.int .i64 y.y1))
          have B_sara4_156 := Lib.hid (st5_below (g := Da4.heap.size) B_sara4_155.out (by omega) (.slice (some ⟨Vara4_133_1.heap.size, 0, none⟩) 1 1) (.int .i64 y.x0) (.int .i64 y.x1) (.int .i64 y.y0) (.int .i64 y.y1))
          clear RL_sara4_155 S2_sara4_155 P2_sara4_155 P1_sara4_155 S1_sara4_155 B_sara4_155
          generalize st5 Xara4_155 (Da4.heap.size) (.slice (some ⟨Vara4_133_1.heap.size, 0, none⟩) 1 1) (.int .i64 y.x0) (.int .i64 y.x1) (.int .i64 y.y0) (.int .i64 y.y1) = Xara4_156 at RL_sara4_156 S2_sara4_156 P2_sara4_156 P1_sara4_156 S1_sara4_156 B_sara4_156 ⊢
          refine hK _ _ ⟨RL_sara4_156.out, B_sara4_156.out⟩ (fun _ => ?_)
          clear hK K
          try simp only [Act.put, List.setIfInBounds_toArray, List.set_cons_zero, List.set_cons_succ]
          refine wpAnyH_done (by kernel_rfl) ?_ _
          go_wp2_with fail
          go_meet
          exact ⟨_, _, _, _, rfl, rfl, RL_sara4_156.out, S1_sara4_156.out, S2_sara4_156.out, P1_sara4_156.out, P2_sara4_156.out, by omega, by omega, by omega, by omega, by omega, by omega, B_sara4_156.out⟩
        · try rw [if_pos (by rfl)]
          go_simp
          have hltara4_157_1_0 : w.heap.size < Vara4_150_1.heap.size := RL_ara4_150_1.out.lt
          have hltara4_157_1_1 : Da4.heap.size < Vara4_150_1.heap.size := S2_ara4_150_1.out.lt
          have hltara4_157_1_2 : Vara4_133_1.heap.size < Vara4_150_1.heap.size := P2_ara4_150_1.out.lt
          have RL_ara4_157_1 := Lib.hid (RL_ara4_150_1.out.alloc zS)
          have S2_ara4_157_1 := Lib.hid (S2_ara4_150_1.out.alloc zS)
          have P2_ara4_157_1 := Lib.hid (P2_ara4_150_1.out.alloc zS)
          have S1_ara4_157_1 := Lib.hid (row_last Vara4_150_1 (Vara4_150_1.heap.size) 66 [.slice none 0 0, .int .i64 0, .int .i64 0, .int .i64 0, .int .i64 0] (by simp))
          have B_ara4_157_1 := Lib.hid (B_ara4_150_1.out.alloc B_ara4_150_1.out.size zS)
          clear RL_ara4_150_1 S2_ara4_150_1 P2_ara4_150_1 B_ara4_150_1
          generalize (Vara4_150_1.alloc zS) = Vara4_157_1 at RL_ara4_157_1 S2_ara4_157_1 P2_ara4_157_1 S1_ara4_157_1 B_ara4_157_1 ⊢
          refine hK _ _ ⟨RL_ara4_157_1.out, B_ara4_157_1.out⟩ (fun _ => ?_)
          clear hK K
          try simp only [Act.put, List.setIfInBounds_toArray, List.set_cons_zero, List.set_cons_succ]
          refine wpAnyH_ready (rs := [1]) (by kernel_rfl) (by simp) ?_
          refine (AllReadyH.cons rfl (fun K hK => ?_) AllReadyH.nil)
          try rw [if_pos (by rfl)]
          go_simp
          have hltara4_158_1_0 : w.heap.size < Vara4_157_1.heap.size := RL_ara4_157_1.out.lt
          have hltara4_158_1_1 : Da4.heap.size < Vara4_157_1.heap.size := S2_ara4_157_1.out.lt
          have hltara4_158_1_2 : Vara4_133_1.heap.size < Vara4_157_1.heap.size := P2_ara4_157_1.out.lt
          have hltara4_158_1_3 : Vara4_150_1.heap.size < Vara4_157_1.heap.size := S1_ara4_157_1.out.lt
          have RL_ara4_158_1 := Lib.hid (RL_ara4_157_1.out.alloc (zI i))
          have S2_ara4_158_1 := Lib.hid (S2_ara4_157_1.out.alloc (zI i))
          have P2_ara4_158_1 := Lib.hid (P2_ara4_157_1.out.alloc (zI i))
          have S1_ara4_158_1 := Lib.hid (S1_ara4_157_1.out.alloc (zI i))
          have P1_ara4_158_1 := Lib.hid (row_last Vara4_157_1 (Vara4_157_1.heap.size) 3 [.int .i64 (i : Int)] (by simp))
          have B_ara4_158_1 := Lib.hid (B_ara4_157_1.out.alloc B_ara4_157_1.out.size (zI i))
          clear RL_ara4_157_1 S2_ara4_157_1 P2_ara4_157_1 S1_ara4_157_1 B_ara4_157_1
          generalize (Vara4_157_1.alloc (zI i)) = Vara4_158_1 at RL_ara4_158_1 S2_ara4_158_1 P2_ara4_158_1 S1_ara4_158_1 P1_ara4_158_1 B_ara4_158_1 ⊢
          refine hK _ _ ⟨RL_ara4_158_1.out, B_ara4_158_1.out⟩ (fun _ => ?_)
          clear hK K
          try simp only [Act.put, List.setIfInBounds_toArray, List.set_cons_zero, List.set_cons_succ]
          refine wpAnyH_take (i := 6) (oi := ⟨some 23, _, _, _, _, _⟩) (v := ?vara4_159) rfl (by kernel_rfl) (by kernel_rfl) (by kernel_rfl) (fun _ _ _ h => h) (Or.inl ⟨by rfl, ?yara4_159⟩) ⟨RL_ara4_158_1.out, B_ara4_158_1.out⟩ ?rara4_159
          case yara4_159 =>
            rintro w' hSw
            go_simp
            try with_reducible rfl
          try simp only [Act.put, List.setIfInBounds_toArray, List.set_cons_zero, List.set_cons_succ]
          refine wpAnyH_ready (rs := [16]) (by kernel_rfl) (by simp) ?_
          refine (AllReadyH.cons rfl (fun K hK => ?_) AllReadyH.nil)
          obtain ⟨k0, k1, k2, k3, k4, f0, f1, f2, f3, f4⟩ := row5 S1_ara4_158_1.out
          rw [if_pos (by rfl)]
          go_simp
          clear f0 k0 f1 k1 f2 k2 f3 k3 f4 k4
          change K _ (st5 Vara4_158_1 (Vara4_150_1.heap.size) (.slice (some ⟨Vara4_157_1.heap.size, 0, none⟩) 1 1) (.int .i64 x.x0) (.int .i64 x.x1) (.int .i64 x.y0) (.int .i64 x.y1))
          have RL_sara4_160 := Lib.hid (st5_far (g := Vara4_150_1.heap.size) RL_ara4_158_1.out (by omega) (.slice (some ⟨Vara4_157_1.heap.size, 0, none⟩) 1 1) (.int .i64 x.x0) (.int .i64 x.x1) (.int .i64 x.y0) (.int .i64 x.y1))
          have S2_sara4_160 := Lib.hid (st5_far (g := Vara4_150_1.heap.size) S2_ara4_158_1.out (by omega) (.slice (some ⟨Vara4_157_1.heap.size, 0, none⟩) 1 1) (.int .i64 x.x0) (.int .i64 x.x1) (.int .i64 x.y0) (.int .i64 x.y1))
          have P2_sara4_160 := Lib.hid (st5_far (g := Vara4_150_1.heap.size) P2_ara4_158_1.out (by omega) (.slice (some ⟨Vara4_157_1.heap.size, 0, none⟩) 1 1) (.int .i64 x.x0) (.int .i64 x.x1) (.int .i64 x.y0) (.int .i64 x.y1))
          have S1_sara4_160 := Lib.hid (st5_row S1_ara4_158_1.out (.slice (some ⟨Vara4_157_1.heap.size, 0, none⟩) 1 1) (.int .i64 x.x0) (.int .i64 x.x1) (.int .i64 x.y0) (.int .i64 x.y1))
          have P1_sara4_160 := Lib.hid (st5_far (g := Vara4_150_1.heap.size) P1_ara4_158_1.out (by omega) (.slice (some ⟨Vara4_157_1.heap.size, 0, none⟩) 1 1) (.int .i64 x.x0) (.int .i64 x.x1) (.int .i64 x.y0) (.int .i64 x.y1))
          have B_sara4_160 := Lib.hid (st5_below (g := Vara4_150_1.heap.size) B_ara4_158_1.out (by omega) (.slice (some ⟨Vara4_157_1.heap.size, 0, none⟩) 1 1) (.int .i64 x.x0) (.int .i64 x.x1) (.int .i64 x.y0) (.int .i64 x.y1))
          clear RL_ara4_158_1 S2_ara4_158_1 P2_ara4_158_1 S1_ara4_158_1 P1_ara4_158_1 B_ara4_158_1
          generalize st5 Vara4_158_1 (Vara4_150_1.heap.size) (.slice (some ⟨Vara4_157_1.heap.size, 0, none⟩) 1 1) (.int .i64 x.x0) (.int .i64 x.x1) (.int .i64 x.y0) (.int .i64 x.y1) = Xara4_160 at RL_sara4_160 S2_sara4_160 P2_sara4_160 S1_sara4_160 P1_sara4_160 B_sara4_160 ⊢
          refine hK _ _ ⟨RL_sara4_160.out, B_sara4_160.out⟩ (fun _ => ?_)
          clear hK K
          try simp only [Act.put, List.setIfInBounds_toArray, List.set_cons_zero, List.set_cons_succ]
          refine wpAnyH_ready (rs := [17]) (by kernel_rfl) (by simp) ?_
          refine (AllReadyH.cons rfl (fun K hK => ?_) AllReadyH.nil)
          obtain ⟨k0, k1, k2, k3, k4, f0, f1, f2, f3, f4⟩ := row5 S2_sara4_160.out
          rw [if_pos (by rfl)]
          go_simp
          clear f0 k0 f1 k1 f2 k2 f3 k3 f4 k4
          change K _ (st5 Xara4_160 (Da4.heap.size) (.slice (some ⟨Vara4_133_1.heap.size, 0, none⟩) 1 1) (.int .i64 y.x0) (.int .i64 y.x1) (.int .i64 y.y0) (.int .i64 y.y1))
          have RL_sara4_161 := Lib.hid (st5_far (g := Da4.heap.size) RL_sara4_160.out (by omega) (.slice (some ⟨Vara4_133_1.heap.size, 0, none⟩) 1 1) (.int .i64 y.x0) (.int .i64 y.x1) (.int .i64 y.y0) (.int .i64 y.y1))
          have S2_sara4_161 := Lib.hid (st5_row S2_sara4_160.out (.slice (some ⟨Vara4_133_1.heap.size, 0, none⟩) 1 1) (.int .i64 y.x0) (.int .i64 y.x1) (.int .i64 y.y0) (.int .i64 y.y1))
          have P2_sara4_161 := Lib.hid (st5_far (g := Da4.heap.size) P2_sara4_160.out (by omega) (.slice (some ⟨Vara4_133_1.heap.size, 0, none⟩) 1 1) (.int .i64 y.x0) (.int .i64 y.x1) (.int .i64 y.y0) (.int .i64 y.y1))
          have S1_sara4_161 := Lib.hid (st5_far (g := Da4.heap.size) S1_sara4_160.out (by omega) (.slice (some ⟨Vara4_133_1.heap.size, 0, none⟩) 1 1) (.int .i64 y.x0) (.int .i64 y.x1) (.int .i64 y.y0) (.int .i64 y.y1))
          have P1_sara4_161 := Lib.hid (st5_far (g := Da4.heap.size) P1_sara4_160.out (by omega) (.slice (some ⟨Vara4_133_1.heap.size, 0, none⟩) 1 1) (.int .i64 y.x0) (.int .i64 y.x1) (.int .i64 y.y0) (.int .i64 y.y1))
          have B_sara4_161 := Lib.hid (st5_below (g := Da4.heap.size) B_sara4_160.out (by omega) (.slice (some ⟨Vara4_133_1.heap.size, 0, none⟩) 1 1) (.int .i64 y.x0) (.int .i64 y.x1) (.int .i64 y.y0) (.int .i64 y.y1))
          clear RL_sara4_160 S2_sara4_160 P2_sara4_160 S1_sara4_160 P1_sara4_160 B_sara4_160
          generalize st5 Xara4_160 (Da4.heap.size) (.slice (some ⟨Vara4_133_1.heap.size, 0, none⟩) 1 1) (.int .i64 y.x0) (.int .i64 y.x1) (.int .i64 y.y0) (.int .i64 y.y1) = Xara4_161 at RL_sara4_161 S2_sara4_161 P2_sara4_161 S1_sara4_161 P1_sara4_161 B_sara4_161 ⊢
          refine hK _ _ ⟨RL_sara4_161.out, B_sara4_161.out⟩ (fun _ => ?_)
          clear hK K
          try simp only [Act.put, List.setIfInBounds_toArray, List.set_cons_zero, List.set_cons_succ]
          refine wpAnyH_done (by kernel_rfl) ?_ _
          go_wp2_with fail
          go_meet
          exact ⟨_, _, _, _, rfl, rfl, RL_sara4_161.out, S1_sara4_161.out, S2_sara4_161.out, P1_sara4_161.out, P2_sara4_161.out, by omega, by omega, by omega, by omega, by omega, by omega, B_sara4_161.out⟩
      · try rw [if_pos (by rfl)]
        go_simp
        have hltara4_162_1_0 : w.heap.size < Vara4_133_1.heap.size := RL_ara4_133_1.out.lt
        have hltara4_162_1_1 : Da4.heap.size < Vara4_133_1.heap.size := S2_ara4_133_1.out.lt
        have RL_ara4_162_1 := Lib.hid (RL_ara4_133_1.out.alloc zS)
        have S2_ara4_162_1 := Lib.hid (S2_ara4_133_1.out.alloc zS)
        have S1_ara4_162_1 := Lib.hid (row_last Vara4_133_1 (Vara4_133_1.heap.size) 66 [.slice none 0 0, .int .i64 0, .int .i64 0, .int .i64 0, .int .i64 0] (by simp))
        have B_ara4_162_1 := Lib.hid (B_ara4_133_1.out.alloc B_ara4_133_1.out.size zS)
        clear RL_ara4_133_1 S2_ara4_133_1 B_ara4_133_1
        generalize (Vara4_133_1.alloc zS) = Vara4_162_1 at RL_ara4_162_1 S2_ara4_162_1 S1_ara4_162_1 B_ara4_162_1 ⊢
        refine hK _ _ ⟨RL_ara4_162_1.out, B_ara4_162_1.out⟩ (fun _ => ?_)
        clear hK K
        try simp only [Act.put, List.setIfInBounds_toArray, List.set_cons_zero, List.set_cons_succ]
        refine wpAnyH_ready (rs := [1, 8]) (by kernel_rfl) (by simp) ?_
        refine (AllReadyH.cons rfl (fun K hK => ?_) (AllReadyH.cons rfl (fun K hK => ?_) AllReadyH.nil))
        · try rw [if_pos (by rfl)]
          go_simp
          have hltara4_163_1_0 : w.heap.size < Vara4_162_1.heap.size := RL_ara4_162_1.out.lt
          have hltara4_163_1_1 : Da4.heap.size < Vara4_162_1.heap.size := S2_ara4_162_1.out.lt
          have hltara4_163_1_2 : Vara4_133_1.heap.size < Vara4_162_1.heap.size := S1_ara4_162_1.out.lt
          have RL_ara4_163_1 := Lib.hid (RL_ara4_162_1.out.alloc (zI i))
          have S2_ara4_163_1 := Lib.hid (S2_ara4_162_1.out.alloc (zI i))
          have S1_ara4_163_1 := Lib.hid (S1_ara4_162_1.out.alloc (zI i))
          have P1_ara4_163_1 := Lib.hid (row_last Vara4_162_1 (Vara4_162_1.heap.size) 3 [.int .i64 (i : Int)] (by simp))
          have B_ara4_163_1 := Lib.hid (B_ara4_162_1.out.alloc B_ara4_162_1.out.size (zI i))
          clear RL_ara4_162_1 S2_ara4_162_1 S1_ara4_162_1 B_ara4_162_1
          generalize (Vara4_162_1.alloc (zI i)) = Vara4_163_1 at RL_ara4_163_1 S2_ara4_163_1 S1_ara4_163_1 P1_ara4_163_1 B_ara4_163_1 ⊢
          refine hK _ _ ⟨RL_ara4_163_1.out, B_ara4_163_1.out⟩ (fun _ => ?_)
          clear hK K
          try simp only [Act.put, List.setIfInBounds_toArray, List.set_cons_zero, List.set_cons_succ]
          refine wpAnyH_take (i := 6) (oi := ⟨some 23, _, _, _, _, _⟩) (v := ?vara4_164) rfl (by kernel_rfl) (by kernel_rfl) (by kernel_rfl) (fun _ _ _ h => h) (Or.inl ⟨by rfl, ?yara4_164⟩) ⟨RL_ara4_163_1.out, B_ara4_163_1.out⟩ ?rara4_164
          case yara4_164 =>
            rintro w' hSw
            go_simp
            try with_reducible rfl
          try simp only [Act.put, List.setIfInBounds_toArray, List.set_cons_zero, List.set_cons_succ]
          refine wpAnyH_ready (rs := [8, 16]) (by kernel_rfl) (by simp) ?_
          refine (AllReadyH.cons rfl (fun K hK => ?_) (AllReadyH.cons rfl (fun K hK => ?_) AllReadyH.nil))
          · try rw [if_pos (by rfl)]
            go_simp
            have hltara4_165_1_0 : w.heap.size < Vara4_163_1.heap.size := RL_ara4_163_1.out.lt
            have hltara4_165_1_1 : Da4.heap.size < Vara4_163_1.heap.size := S2_ara4_163_1.out.lt
            have hltara4_165_1_2 : Vara4_133_1.heap.size < Vara4_163_1.heap.size := S1_ara4_163_1.out.lt
            have hltara4_165_1_3 : Vara4_162_1.heap.size < Vara4_163_1.heap.size := P1_ara4_163_1.out.lt
            have RL_ara4_165_1 := Lib.hid (RL_ara4_163_1.out.alloc (zI k))
            have S2_ara4_165_1 := Lib.hid (S2_ara4_163_1.out.alloc (zI k))
            have S1_ara4_165_1 := Lib.hid (S1_ara4_163_1.out.alloc (zI k))
            have P1_ara4_165_1 := Lib.hid (P1_ara4_163_1.out.alloc (zI k))
            have P2_ara4_165_1 := Lib.hid (row_last Vara4_163_1 (Vara4_163_1.heap.size) 3 [.int .i64 (k : Int)] (by simp))
            have B_ara4_165_1 := Lib.hid (B_ara4_163_1.out.alloc B_ara4_163_1.out.size (zI k))
            clear RL_ara4_163_1 S2_ara4_163_1 S1_ara4_163_1 P1_ara4_163_1 B_ara4_163_1
            generalize (Vara4_163_1.alloc (zI k)) = Vara4_165_1 at RL_ara4_165_1 S2_ara4_165_1 S1_ara4_165_1 P1_ara4_165_1 P2_ara4_165_1 B_ara4_165_1 ⊢
            refine hK _ _ ⟨RL_ara4_165_1.out, B_ara4_165_1.out⟩ (fun _ => ?_)
            clear hK K
            try simp only [Act.put, List.setIfInBounds_toArray, List.set_cons_zero, List.set_cons_succ]
            refine wpAnyH_take (i := 13) (oi := ⟨some 30, _, _, _, _, _⟩) (v := ?vara4_166) rfl (by kernel_rfl) (by kernel_rfl) (by kernel_rfl) (fun _ _ _ h => h) (Or.inl ⟨by rfl, ?yara4_166⟩) ⟨RL_ara4_165_1.out, B_ara4_165_1.out⟩ ?rara4_166
            case yara4_166 =>
              rintro w' hSw
              go_simp
              try with_reducible rfl
            try simp only [Act.put, List.setIfInBounds_toArray, List.set_cons_zero, List.set_cons_succ]
            refine wpAnyH_ready (rs := [16]) (by kernel_rfl) (by simp) ?_
            refine (AllReadyH.cons rfl (fun K hK => ?_) AllReadyH.nil)
            obtain ⟨k0, k1, k2, k3, k4, f0, f1, f2, f3, f4⟩ := row5 S1_ara4_165_1.out
            rw [if_pos (by rfl)]
            go_simp
            clear f0 k0 f1 k1 f2 k2 f3 k3 f4 k4
            change K _ (st5 Vara4_165_1 (Vara4_133_1.heap.size) (.slice (some ⟨Vara4_162_1.heap.size, 0, none⟩) 1 1) (.int .i64 x.x0) (.int .i64 x.x1) (.int .i64 x.y0) (.int .i64 x.y1))
            have RL_sara4_167 := Lib.hid (st5_far (g := Vara4_133_1.heap.size) RL_ara4_165_1.out (by omega) (.slice (some ⟨Vara4_162_1.heap.size, 0, none⟩) 1 1) (.int .i64 x.x0) (.int .i64 x.x1) (.int .i64 x.y0) (.int .i64 x.y1))
            have S2_sara4_167 := Lib.hid (st5_far (g := Vara4_133_1.heap.size) S2_ara4_165_1.out (by omega) (.slice (some ⟨Vara4_162_1.heap.size, 0, none⟩) 1 1) (.int .i64 x.x0) (.int .i64 x.x1) (.int .i64 x.y0) (.int .i64 x.y1))
            have S1_sara4_167 := Lib.hid (st5_row S1_ara4_165_1.out (.slice (some ⟨Vara4_162_1.heap.size, 0, none⟩) 1 1) (.int .i64 x.x0) (.int .i64 x.x1) (.int .i64 x.y0) (.int .i64 x.y1))
            have P1_sara4_167 := Lib.hid (st5_far (g := Vara4_133_1.heap.size) P1_ara4_165_1.out (by omega) (.slice (some ⟨Vara4_162_1.heap.size, 0, none⟩) 1 1) (.int .i64 x.x0) (.int .i64 x.x1) (.int .i64 x.y0) (.int .i64 x.y1))
            have P2_sara4_167 := Lib.hid (st5_far (g := Vara4_133_1.heap.size) P2_ara4_165_1.out (by omega) (.slice (some ⟨Vara4_162_1.heap.size, 0, none⟩) 1 1) (.int .i64 x.x0) (.int .i64 x.x1) (.int .i64 x.y0) (.int .i64 x.y1))
            have B_sara4_167 := Lib.hid (st5_below (g := Vara4_133_1.heap.size) B_ara4_165_1.out (by omega) (.slice (some ⟨Vara4_162_1.heap.size, 0, none⟩) 1 1) (.int .i64 x.x0) (.int .i64 x.x1) (.int .i64 x.y0) (.int .i64 x.y1))
            clear RL_ara4_165_1 S2_ara4_165_1 S1_ara4_165_1 P1_ara4_165_1 P2_ara4_165_1 B_ara4_165_1
            generalize st5 Vara4_165_1 (Vara4_133_1.heap.size) (.slice (some ⟨Vara4_162_1.heap.size, 0, none⟩) 1 1) (.int .i64 x.x0) (.int .i64 x.x1) (.int .i64 x.y0) (.int .i64 x.y1) = Xara4_167 at RL_sara4_167 S2_sara4_167 S1_sara4_167 P1_sara4_167 P2_sara4_167 B_sara4_167 ⊢
            refine hK _ _ ⟨RL_sara4_167.out, B_sara4_167.out⟩ (fun _ => ?_)
            clear hK K
            try simp only [Act.put, List.setIfInBounds_toArray, List.set_cons_zero, List.set_cons_succ]
            refine wpAnyH_ready (rs := [17]) (by kernel_rfl) (by simp) ?_
            refine (AllReadyH.cons rfl (fun K hK => ?_) AllReadyH.nil)
            obtain ⟨k0, k1, k2, k3, k4, f0, f1, f2, f3, f4⟩ := row5 S2_sara4_167.out
            rw [if_pos (by rfl)]
            go_simp
            clear f0 k0 f1 k1 f2 k2 f3 k3 f4 k4
            change K _ (st5 Xara4_167 (Da4.heap.size) (.slice (some ⟨Vara4_163_1.heap.size, 0, none⟩) 1 1) (.int .i64 y.x0) (.int .i64 y.x1) (.int .i64 y.y0) (.int .i64 y.y1))
            have RL_sara4_168 := Lib.hid (st5_far (g := Da4.heap.size) RL_sara4_167.out (by omega) (.slice (some ⟨Vara4_163_1.heap.size, 0, none⟩) 1 1) (.int .i64 y.x0) (.int .i64 y.x1) (.int .i64 y.y0) (.int .i64 y.y1))
            have S2_sara4_168 := Lib.hid (st5_row S2_sara4_167.out (.slice (some ⟨Vara4_163_1.heap.size, 0, none⟩) 1 1) (.int .i64 y.x0) (.int .i64 y.x1) (.int .i64 y.y0) (.int .i64 y.y1))
            have S1_sara4_168 := Lib.hid (st5_far (g := Da4.heap.size) S1_sara4_167.out (by omega) (.slice (some ⟨Vara4_163_1.heap.size, 0, none⟩) 1 1) (.int .i64 y.x0) (.int .i64 y.x1) (.int .i64 y.y0) (.int .i64 y.y1))
            have P1_sara4_168 := Lib.hid (st5_far (g := Da4.heap.size) P1_sara4_167.out (by omega) (.slice (some ⟨Vara4_163_1.heap.size, 0, none⟩) 1 1) (.int .i64 y.x0) (.int .i64 y.x1) (.int .i64 y.y0) (.int .i64 y.y1))
            have P2_sara4_168 := Lib.hid (st5_far (g := Da4.heap.size) P2_sara4_167.out (by omega) (.slice (some ⟨Vara4_163_1.heap.size, 0, none⟩) 1 1) (.int .i64 y.x0) (.int .i64 y.x1) (.int .i64 y.y0) (.int .i64 y.y1))
            have B_sara4_168 := Lib.hid (st5_below (g := Da4.heap.size) B_sara4_167.out (by omega) (.slice (some ⟨Vara4_163_1.heap.size, 0, none⟩) 1 1) (.int .i64 y.x0) (.int .i64 y.x1) (.int .i64 y.y0) (.int .i64 y.y1))
            clear RL_sara4_167 S2_sara4_167 S1_sara4_167 P1_sara4_167 P2_sara4_167 B_sara4_167
            generalize st5 Xara4_167 (Da4.heap.size) (.slice (some ⟨Vara4_163_1.heap.size, 0, none⟩) 1 1) (.int .i64 y.x0) (.int .i64 y.x1) (.int .i64 y.y0) (.int .i64 y.y1) = Xara4_168 at RL_sara4_168 S2_sara4_168 S1_sara4_168 P1_sara4_168 P2_sara4_168 B_sara4_168 ⊢
            refine hK _ _ ⟨RL_sara4_168.out, B_sara4_168.out⟩ (fun _ => ?_)
            clear hK K
            try simp only [Act.put, List.setIfInBounds_toArray, List.set_cons_zero, List.set_cons_succ]
            refine wpAnyH_done (by kernel_rfl) ?_ _
            go_wp2_with fail
            go_meet
            exact ⟨_, _, _, _, rfl, rfl, RL_sara4_168.out, S1_sara4_168.out, S2_sara4_168.out, P1_sara4_168.out, P2_sara4_168.out, by omega, by omega, by omega, by omega, by omega, by omega, B_sara4_168.out⟩
          · obtain ⟨k0, k1, k2, k3, k4, f0, f1, f2, f3, f4⟩ := row5 S1_ara4_163_1.out
            rw [if_pos (by rfl)]
            go_simp
            clear f0 k0 f1 k1 f2 k2 f3 k3 f4 k4
            change K _ (st5 Vara4_163_1 (Vara4_133_1.heap.size) (.slice (some ⟨Vara4_162_1.heap.size, 0, none⟩) 1 1) (.int .i64 x.x0) (.int .i64 x.x1) (.int .i64 x.y0) (.int .i64 x.y1))
            have RL_sara4_169 := Lib.hid (st5_far (g := Vara4_133_1.heap.size) RL_ara4_163_1.out (by omega) (.slice (some ⟨Vara4_162_1.heap.size, 0, none⟩) 1 1) (.int .i64 x.x0) (.int .i64 x.x1) (.int .i64 x.y0) (.int .i64 x.y1))
            have S2_sara4_169 := Lib.hid (st5_far (g := Vara4_133_1.heap.size) S2_ara4_163_1.out (by omega) (.slice (some ⟨Vara4_162_1.heap.size, 0, none⟩) 1 1) (.int .i64 x.x0) (.int .i64 x.x1) (.int .i64 x.y0) (.int .i64 x.y1))
            have S1_sara4_169 := Lib.hid (st5_row S1_ara4_163_1.out (.slice (some ⟨Vara4_162_1.heap.size, 0, none⟩) 1 1) (.int .i64 x.x0) (.int .i64 x.x1) (.int .i64 x.y0) (.int .i64 x.y1))
            have P1_sara4_169 := Lib.hid (st5_far (g := Vara4_133_1.heap.size) P1_ara4_163_1.out (by omega) (.slice (some ⟨Vara4_162_1.heap.size, 0, none⟩) 1 1) (.int .i64 x.x0) (.int .i64 x.x1) (.int .i64 x.y0) (.int .i64 x.y1))
            have B_sara4_169 := Lib.hid (st5_below (g := Vara4_133_1.heap.size) B_ara4_163_1.out (by omega) (.slice (some ⟨Vara4_162_1.heap.size, 0, none⟩) 1 1) (.int .i64 x.x0) (.int .i64 x.x1) (.int .i64 x.y0) (.int .i64 x.y1))
            clear RL_ara4_163_1 S2_ara4_163_1 S1_ara4_163_1 P1_ara4_163_1 B_ara4_163_1
            generalize st5 Vara4_163_1 (Vara4_133_1.heap.size) (.slice (some ⟨Vara4_162_1.heap.size, 0, none⟩) 1 1) (.int .i64 x.x0) (.int .i64 x.x1) (.int .i64 x.y0) (.int .i64 x.y1) = Xara4_169 at RL_sara4_169 S2_sara4_169 S1_sara4_169 P1_sara4_169 B_sara4_169 ⊢
            refine hK _ _ ⟨RL_sara4_169.out, B_sara4_169.out⟩ (fun _ => ?_)
            clear hK K
            try simp only [Act.put, List.setIfInBounds_toArray, List.set_cons_zero, List.set_cons_succ]
            refine wpAnyH_ready (rs := [8]) (by kernel_rfl) (by simp) ?_
            refine (AllReadyH.cons rfl (fun K hK => ?_) AllReadyH.nil)
            try rw [if_pos (by rfl)]
            go_simp
            have hltara4_170_1_0 : w.heap.size < Xara4_169.heap.size := RL_sara4_169.out.lt
            have hltara4_170_1_1 : Da4.heap.size < Xara4_169.heap.size := S2_sara4_169.out.lt
            have hltara4_170_1_2 : Vara4_133_1.heap.size < Xara4_169.heap.size := S1_sara4_169.out.lt
            have hltara4_170_1_3 : Vara4_162_1.heap.size < Xara4_169.heap.size := P1_sara4_169.out.lt
            have RL_ara4_170_1 := Lib.hid (RL_sara4_169.out.alloc (zI k))
            have S2_ara4_170_1 := Lib.hid (S2_sara4_169.out.alloc (zI k))
            have S1_ara4_170_1 := Lib.hid (S1_sara4_169.out.alloc (zI k))
            have P1_ara4_170_1 := Lib.hid (P1_sara4_169.out.alloc (zI k))
            have P2_ara4_170_1 := Lib.hid (row_last Xara4_169 (Xara4_169.heap.size) 3 [.int .i64 (k : Int)] (by simp))
            have B_ara4_170_1 := Lib.hid (B_sara4_169.out.alloc B_sara4_169.out.size (zI k))
            clear RL_sara4_169 S2_sara4_169 S1_sara4_169 P1_sara4_169 B_sara4_169
            generalize (Xara4_169.alloc (zI k)) = Vara4_170_1 at RL_ara4_170_1 S2_ara4_170_1 S1_ara4_170_1 P1_ara4_170_1 P2_ara4_170_1 B_ara4_170_1 ⊢
            refine hK _ _ ⟨RL_ara4_170_1.out, B_ara4_170_1.out⟩ (fun _ => ?_)
            clear hK K
            try simp only [Act.put, List.setIfInBounds_toArray, List.set_cons_zero, List.set_cons_succ]
            refine wpAnyH_take (i := 13) (oi := ⟨some 30, _, _, _, _, _⟩) (v := ?vara4_171) rfl (by kernel_rfl) (by kernel_rfl) (by kernel_rfl) (fun _ _ _ h => h) (Or.inl ⟨by rfl, ?yara4_171⟩) ⟨RL_ara4_170_1.out, B_ara4_170_1.out⟩ ?rara4_171
            case yara4_171 =>
              rintro w' hSw
              go_simp
              try with_reducible rfl
            try simp only [Act.put, List.setIfInBounds_toArray, List.set_cons_zero, List.set_cons_succ]
            refine wpAnyH_ready (rs := [17]) (by kernel_rfl) (by simp) ?_
            refine (AllReadyH.cons rfl (fun K hK => ?_) AllReadyH.nil)
            obtain ⟨k0, k1, k2, k3, k4, f0, f1, f2, f3, f4⟩ := row5 S2_ara4_170_1.out
            rw [if_pos (by rfl)]
            go_simp
            clear f0 k0 f1 k1 f2 k2 f3 k3 f4 k4
            change K _ (st5 Vara4_170_1 (Da4.heap.size) (.slice (some ⟨Xara4_169.heap.size, 0, none⟩) 1 1) (.int .i64 y.x0) (.int .i64 y.x1) (.int .i64 y.y0) (.int .i64 y.y1))
            have RL_sara4_172 := Lib.hid (st5_far (g := Da4.heap.size) RL_ara4_170_1.out (by omega) (.slice (some ⟨Xara4_169.heap.size, 0, none⟩) 1 1) (.int .i64 y.x0) (.int .i64 y.x1) (.int .i64 y.y0) (.int .i64 y.y1))
            have S2_sara4_172 := Lib.hid (st5_row S2_ara4_170_1.out (.slice (some ⟨Xara4_169.heap.size, 0, none⟩) 1 1) (.int .i64 y.x0) (.int .i64 y.x1) (.int .i64 y.y0) (.int .i64 y.y1))
            have S1_sara4_172 := Lib.hid (st5_far (g := Da4.heap.size) S1_ara4_170_1.out (by omega) (.slice (some ⟨Xara4_169.heap.size, 0, none⟩) 1 1) (.int .i64 y.x0) (.int .i64 y.x1) (.int .i64 y.y0) (.int .i64 y.y1))
            have P1_sara4_172 := Lib.hid (st5_far (g := Da4.heap.size) P1_ara4_170_1.out (by omega) (.slice (some ⟨Xara4_169.heap.size, 0, none⟩) 1 1) (.int .i64 y.x0) (.int .i64 y.x1) (.int .i64 y.y0) (.int .i64 y.y1))
            have P2_sara4_172 := Lib.hid (st5_far (g := Da4.heap.size) P2_ara4_170_1.out (by omega) (.slice (some ⟨Xara4_169.heap.size, 0, none⟩) 1 1) (.int .i64 y.x0) (.int .i64 y.x1) (.int .i64 y.y0) (.int .i64 y.y1))
            have B_sara4_172 := Lib.hid (st5_below (g := Da4.heap.size) B_ara4_170_1.out (by omega) (.slice (some ⟨Xara4_169.heap.size, 0, none⟩) 1 1) (.int .i64 y.x0) (.int .i64 y.x1) (.int .i64 y.y0) (.int .i64 y.y1))
            clear RL_ara4_170_1 S2_ara4_170_1 S1_ara4_170_1 P1_ara4_170_1 P2_ara4_170_1 B_ara4_170_1
            generalize st5 Vara4_170_1 (Da4.heap.size) (.slice (some ⟨Xara4_169.heap.size, 0, none⟩) 1 1) (.int .i64 y.x0) (.int .i64 y.x1) (.int .i64 y.y0) (.int .i64 y.y1) = Xara4_172 at RL_sara4_172 S2_sara4_172 S1_sara4_172 P1_sara4_172 P2_sara4_172 B_sara4_172 ⊢
            refine hK _ _ ⟨RL_sara4_172.out, B_sara4_172.out⟩ (fun _ => ?_)
            clear hK K
            try simp only [Act.put, List.setIfInBounds_toArray, List.set_cons_zero, List.set_cons_succ]
            refine wpAnyH_done (by kernel_rfl) ?_ _
            go_wp2_with fail
            go_meet
            exact ⟨_, _, _, _, rfl, rfl, RL_sara4_172.out, S1_sara4_172.out, S2_sara4_172.out, P1_sara4_172.out, P2_sara4_172.out, by omega, by omega, by omega, by omega, by omega, by omega, B_sara4_172.out⟩
        · try rw [if_pos (by rfl)]
          go_simp
          have hltara4_173_1_0 : w.heap.size < Vara4_162_1.heap.size := RL_ara4_162_1.out.lt
          have hltara4_173_1_1 : Da4.heap.size < Vara4_162_1.heap.size := S2_ara4_162_1.out.lt
          have hltara4_173_1_2 : Vara4_133_1.heap.size < Vara4_162_1.heap.size := S1_ara4_162_1.out.lt
          have RL_ara4_173_1 := Lib.hid (RL_ara4_162_1.out.alloc (zI k))
          have S2_ara4_173_1 := Lib.hid (S2_ara4_162_1.out.alloc (zI k))
          have S1_ara4_173_1 := Lib.hid (S1_ara4_162_1.out.alloc (zI k))
          have P2_ara4_173_1 := Lib.hid (row_last Vara4_162_1 (Vara4_162_1.heap.size) 3 [.int .i64 (k : Int)] (by simp))
          have B_ara4_173_1 := Lib.hid (B_ara4_162_1.out.alloc B_ara4_162_1.out.size (zI k))
          clear RL_ara4_162_1 S2_ara4_162_1 S1_ara4_162_1 B_ara4_162_1
          generalize (Vara4_162_1.alloc (zI k)) = Vara4_173_1 at RL_ara4_173_1 S2_ara4_173_1 S1_ara4_173_1 P2_ara4_173_1 B_ara4_173_1 ⊢
          refine hK _ _ ⟨RL_ara4_173_1.out, B_ara4_173_1.out⟩ (fun _ => ?_)
          clear hK K
          try simp only [Act.put, List.setIfInBounds_toArray, List.set_cons_zero, List.set_cons_succ]
          refine wpAnyH_take (i := 13) (oi := ⟨some 30, _, _, _, _, _⟩) (v := ?vara4_174) rfl (by kernel_rfl) (by kernel_rfl) (by kernel_rfl) (fun _ _ _ h => h) (Or.inl ⟨by rfl, ?yara4_174⟩) ⟨RL_ara4_173_1.out, B_ara4_173_1.out⟩ ?rara4_174
          case yara4_174 =>
            rintro w' hSw
            go_simp
            try with_reducible rfl
          try simp only [Act.put, List.setIfInBounds_toArray, List.set_cons_zero, List.set_cons_succ]
          refine wpAnyH_ready (rs := [1]) (by kernel_rfl) (by simp) ?_
          refine (AllReadyH.cons rfl (fun K hK => ?_) AllReadyH.nil)
          try rw [if_pos (by rfl)]
          go_simp
          have hltara4_175_1_0 : w.heap.size < Vara4_173_1.heap.size := RL_ara4_173_1.out.lt
          have hltara4_175_1_1 : Da4.heap.size < Vara4_173_1.heap.size := S2_ara4_173_1.out.lt
          have hltara4_175_1_2 : Vara4_133_1.heap.size < Vara4_173_1.heap.size := S1_ara4_173_1.out.lt
          have hltara4_175_1_3 : Vara4_162_1.heap.size < Vara4_173_1.heap.size := P2_ara4_173_1.out.lt
          have RL_ara4_175_1 := Lib.hid (RL_ara4_173_1.out.alloc (zI i))
          have S2_ara4_175_1 := Lib.hid (S2_ara4_173_1.out.alloc (zI i))
          have S1_ara4_175_1 := Lib.hid (S1_ara4_173_1.out.alloc (zI i))
          have P2_ara4_175_1 := Lib.hid (P2_ara4_173_1.out.alloc (zI i))
          have P1_ara4_175_1 := Lib.hid (row_last Vara4_173_1 (Vara4_173_1.heap.size) 3 [.int .i64 (i : Int)] (by simp))
          have B_ara4_175_1 := Lib.hid (B_ara4_173_1.out.alloc B_ara4_173_1.out.size (zI i))
          clear RL_ara4_173_1 S2_ara4_173_1 S1_ara4_173_1 P2_ara4_173_1 B_ara4_173_1
          generalize (Vara4_173_1.alloc (zI i)) = Vara4_175_1 at RL_ara4_175_1 S2_ara4_175_1 S1_ara4_175_1 P2_ara4_175_1 P1_ara4_175_1 B_ara4_175_1 ⊢
          refine hK _ _ ⟨RL_ara4_175_1.out, B_ara4_175_1.out⟩ (fun _ => ?_)
          clear hK K
          try simp only [Act.put, List.setIfInBounds_toArray, List.set_cons_zero, List.set_cons_succ]
          refine wpAnyH_take (i := 6) (oi := ⟨some 23, _, _, _, _, _⟩) (v := ?vara4_176) rfl (by kernel_rfl) (by kernel_rfl) (by kernel_rfl) (fun _ _ _ h => h) (Or.inl ⟨by rfl, ?yara4_176⟩) ⟨RL_ara4_175_1.out, B_ara4_175_1.out⟩ ?rara4_176
          case yara4_176 =>
            rintro w' hSw
            go_simp
            try with_reducible rfl
          try simp only [Act.put, List.setIfInBounds_toArray, List.set_cons_zero, List.set_cons_succ]
          refine wpAnyH_ready (rs := [16]) (by kernel_rfl) (by simp) ?_
          refine (AllReadyH.cons rfl (fun K hK => ?_) AllReadyH.nil)
          obtain ⟨k0, k1, k2, k3, k4, f0, f1, f2, f3, f4⟩ := row5 S1_ara4_175_1.out
          rw [if_pos (by rfl)]
          go_simp
          clear f0 k0 f1 k1 f2 k2 f3 k3 f4 k4
          change K _ (st5 Vara4_175_1 (Vara4_133_1.heap.size) (.slice (some ⟨Vara4_173_1.heap.size, 0, none⟩) 1 1) (.int .i64 x.x0) (.int .i64 x.x1) (.int .i64 x.y0) (.int .i64 x.y1))
          have RL_sara4_177 := Lib.hid (st5_far (g := Vara4_133_1.heap.size) RL_ara4_175_1.out (by omega) (.slice (some ⟨Vara4_173_1.heap.size, 0, none⟩) 1 1) (.int .i64 x.x0) (.int .i64 x.x1) (.int .i64 x.y0) (.int .i64 x.y1))
          have S2_sara4_177 := Lib.hid (st5_far (g := Vara4_133_1.heap.size) S2_ara4_175_1.out (by omega) (.slice (some ⟨Vara4_173_1.heap.size, 0, none⟩) 1 1) (.int .i64 x.x0) (.int .i64 x.x1) (.int .i64 x.y0) (.int .i64 x.y1))
          have S1_sara4_177 := Lib.hid (st5_row S1_ara4_175_1.out (.slice (some ⟨Vara4_173_1.heap.size, 0, none⟩) 1 1) (.int .i64 x.x0) (.int .i64 x.x1) (.int .i64 x.y0) (.int .i64 x.y1))
          have P2_sara4_177 := Lib.hid (st5_far (g := Vara4_133_1.heap.size) P2_ara4_175_1.out (by omega) (.slice (some ⟨Vara4_173_1.heap.size, 0, none⟩) 1 1) (.int .i64 x.x0) (.int .i64 x.x1) (.int .i64 x.y0) (.int .i64 x.y1))
          have P1_sara4_177 := Lib.hid (st5_far (g := Vara4_133_1.heap.size) P1_ara4_175_1.out (by omega) (.slice (some ⟨Vara4_173_1.heap.size, 0, none⟩) 1 1) (.int .i64 x.x0) (.int .i64 x.x1) (.int .i64 x.y0) (.int .i64 x.y1))
          have B_sara4_177 := Lib.hid (st5_below (g := Vara4_133_1.heap.size) B_ara4_175_1.out (by omega) (.slice (some ⟨Vara4_173_1.heap.size, 0, none⟩) 1 1) (.int .i64 x.x0) (.int .i64 x.x1) (.int .i64 x.y0) (.int .i64 x.y1))
          clear RL_ara4_175_1 S2_ara4_175_1 S1_ara4_175_1 P2_ara4_175_1 P1_ara4_175_1 B_ara4_175_1
          generalize st5 Vara4_175_1 (Vara4_133_1.heap.size) (.slice (some ⟨Vara4_173_1.heap.size, 0, none⟩) 1 1) (.int .i64 x.x0) (.int .i64 x.x1) (.int .i64 x.y0) (.int .i64 x.y1) = Xara4_177 at RL_sara4_177 S2_sara4_177 S1_sara4_177 P2_sara4_177 P1_sara4_177 B_sara4_177 ⊢
          refine hK _ _ ⟨RL_sara4_177.out, B_sara4_177.out⟩ (fun _ => ?_)
          clear hK K
          try simp only [Act.put, List.setIfInBounds_toArray, List.set_cons_zero, List.set_cons_succ]
          refine wpAnyH_ready (rs := [17]) (by kernel_rfl) (by simp) ?_
          refine (AllReadyH.cons rfl (fun K hK => ?_) AllReadyH.nil)
          obtain ⟨k0, k1, k2, k3, k4, f0, f1, f2, f3, f4⟩ := row5 S2_sara4_177.out
          rw [if_pos (by rfl)]
          go_simp
          clear f0 k0 f1 k1 f2 k2 f3 k3 f4 k4
          change K _ (st5 Xara4_177 (Da4.heap.size) (.slice (some ⟨Vara4_162_1.heap.size, 0, none⟩) 1 1) (.int .i64 y.x0) (.int .i64 y.x1) (.int .i64 y.y0) (.int .i64 y.y1))
          have RL_sara4_178 := Lib.hid (st5_far (g := Da4.heap.size) RL_sara4_177.out (by omega) (.slice (some ⟨Vara4_162_1.heap.size, 0, none⟩) 1 1) (.int .i64 y.x0) (.int .i64 y.x1) (.int .i64 y.y0) (.int .i64 y.y1))
          have S2_sara4_178 := Lib.hid (st5_row S2_sara4_177.out (.slice (some ⟨Vara4_162_1.heap.size, 0, none⟩) 1 1) (.int .i64 y.x0) (.int .i64 y.x1) (.int .i64 y.y0) (.int .i64 y.y1))
          have S1_sara4_178 := Lib.hid (st5_far (g := Da4.heap.size) S1_sara4_177.out (by omega) (.slice (some ⟨Vara4_162_1.heap.size, 0, none⟩) 1 1) (.int .i64 y.x0) (.int .i64 y.x1) (.int .i64 y.y0) (.int .i64 y.y1))
          have P2_sara4_178 := Lib.hid (st5_far (g := Da4.heap.size) P2_sara4_177.out (by omega) (.slice (some ⟨Vara4_162_1.heap.size, 0, none⟩) 1 1) (.int .i64 y.x0) (.int .i64 y.x1) (.int .i64 y.y0) (.int .i64 y.y1))
          have P1_sara4_178 := Lib.hid (st5_far (g := Da4.heap.size) P1_sara4_177.out (by omega) (.slice (some ⟨Vara4_162_1.heap.size, 0, none⟩) 1 1) (.int .i64 y.x0) (.int .i64 y.x1) (.int .i64 y.y0) (.int .i64 y.y1))
          have B_sara4_178 := Lib.hid (st5_below (g := Da4.heap.size) B_sara4_177.out (by omega) (.slice (some ⟨Vara4_162_1.heap.size, 0, none⟩) 1 1) (.int .i64 y.x0) (.int .i64 y.x1) (.int .i64 y.y0) (.int .i64 y.y1))
          clear RL_sara4_177 S2_sara4_177 S1_sara4_177 P2_sara4_177 P1_sara4_177 B_sara4_177
          generalize st5 Xara4_177 (Da4.heap.size) (.slice (some ⟨Vara4_162_1.heap.size, 0, none⟩) 1 1) (.int .i64 y.x0) (.int .i64 y.x1) (.int .i64 y.y0) (.int .i64 y.y1) = Xara4_178 at RL_sara4_178 S2_sara4_178 S1_sara4_178 P2_sara4_178 P1_sara4_178 B_sara4_178 ⊢
          refine hK _ _ ⟨RL_sara4_178.out, B_sara4_178.out⟩ (fun _ => ?_)
          clear hK K
          try simp only [Act.put, List.setIfInBounds_toArray, List.set_cons_zero, List.set_cons_succ]
          refine wpAnyH_done (by kernel_rfl) ?_ _
          go_wp2_with fail
          go_meet
          exact ⟨_, _, _, _, rfl, rfl, RL_sara4_178.out, S1_sara4_178.out, S2_sara4_178.out, P1_sara4_178.out, P2_sara4_178.out, by omega, by omega, by omega, by omega, by omega, by omega, B_sara4_178.out⟩
  case rest =>
    rename World => w3
    obtain ⟨g1, g2, p1, p2, rfl, rfl, hrl, hr1, hr2, hp1, hp2, hgg, hpp, hl1, hl2, hl3, hl4, hb3⟩ := hcut
    have RL_3 := Lib.hid hrl
    have R1_3 := Lib.hid hr1
    have R2_3 := Lib.hid hr2
    have P1_3 := Lib.hid hp1
    have P2_3 := Lib.hid hp2
    have B_3 := Lib.hid hb3
    clear hrl hr1 hr2 hp1 hp2 hb3
    have cl := RL_3.out.cell 0
    simp only [List.getElem?_cons_zero] at cl
    obtain ⟨q, hq⟩ : ∃ q : Nat, q = 2 * n / 5 := ⟨_, rfl⟩
    have hle2 : least = max 1 q := by rw [HLE.out, hq]
    have hq1 : ((2 * (n : Int)).tdiv 5) = (q : Int) := by rw [Int.tdiv_eq_ediv_of_nonneg (by omega), hq]; omega
    have hq2 : (if (1 : Int) < (q : Int) then (q : Int) else 1) = (least : Int) := by split <;> omega
    have hq3 : wrap64 (q : Int) = (q : Int) := by unfold wrap64; omega
    clear hq hle2
    go_upto_region 4 with fail
    clear cl hq1 hq2 hq3
    have HI0 : Hid (PI w (w3.alloc (.cells #[.int .i64 (least : Int)] 3)) w.heap.size g1 g2 w3.heap.size (some ⟨b, o, none⟩) n c least (partP ks least i k 0)) := Lib.hid ⟨RL_3.out.alloc _, Row.new w3 _ _, by
      rw [partP_zero, HX0.out, HY0.out]
      refine ⟨_, _, ⟨R1_3.out.alloc _, ?_⟩, ⟨R2_3.out.alloc _, ?_⟩, ?_, ?_, ?_⟩
      · exact Row.own (P1_3.out.alloc _) (by omega) rfl (by unfold maxLen; omega)
      · exact Row.own (P2_3.out.alloc _) (by omega) rfl (by unfold maxLen; omega)
      · intro e; exact hpp (by simpa [Value.ownBlock] using e)
      · intro e; have := P1_3.out.lt; simp [Value.ownBlock] at e; omega
      · intro e; have := P2_3.out.lt; simp [Value.ownBlock] at e; omega, B_3.out.alloc B_3.out.size _⟩
    have hg1 := R1_3.out.lt
    have hg2 := R2_3.out.lt
    clear RL_3 R1_3 R2_3 P1_3 P2_3 B_3
    generalize w3.alloc (.cells #[.int .i64 (least : Int)] 3) = w4 at HI0 ⊢
    have hgm0 : w.heap.size < w3.heap.size := by omega
    generalize w3.heap.size = gm at HI0 hg1 hg2 hgm0 ⊢
    have HO0 : Hid (PSok i k 0 (partP ks least i k 0)) := Lib.hid (by
      rw [partP_zero, HX0.out, HY0.out]
      exact ⟨by simp, HK.out.ok _ HXM.out, HK.out.ok _ HYM.out, HK.out.num _ HXM.out, HK.out.num _ HYM.out⟩)
    clear HX HY HX0 HY0 HXM HYM
    have c0 := HI0.out.rl.cell 0
    simp only [List.getElem?_cons_zero] at c0
    go_wp2_with fail
    clear c0
    go_loopw [39] (fun t wr => ∃ j : Nat, j ≤ n ∧ t = .int .i64 (j : Int) ∧ Hid (PI w wr w.heap.size g1 g2 gm (some ⟨b, o, none⟩) n c least (partP ks least i k j)) ∧ Hid (PSok i k j (partP ks least i k j))) (fun t _ => n - (intOf t).toNat)
    case atStart => exact ⟨0, by omega, rfl, HI0, HO0⟩
    case round =>
      obtain ⟨j, hj, rfl, HI, HO⟩ := hrel
      clear HI0 HO0
      by_cases hlt : j < n
      case neg =>
        have h1 : ¬ (j : Int) < (n : Int) := by omega
        obtain rfl : j = n := by omega
        rw [HS.out] at HI
        obtain ⟨v1, v2, hs1, hs2, hne, _⟩ := HI.out.sd
        have R1_ := Lib.hid hs1.row
        have R2_ := Lib.hid hs2.row
        have O1 := Lib.hid hs1.own
        have O2 := Lib.hid hs2.own
        have HNE := Lib.hid hne
        have B_ := Lib.hid HI.out.hb
        clear hs1 hs2 hne HI
        obtain ⟨L, R, u, v⟩ := s
        obtain ⟨u0, u1, u2, u3⟩ := u
        obtain ⟨z0, z1, z2, z3⟩ := v
        dsimp only at R1_ R2_ O1 O2 ⊢
        obtain ⟨A1, c1, rfl⟩ := own_slice O1.out
        obtain ⟨A2, c2, rfl⟩ := own_slice O2.out
        go_wp2_with fail
        refine wp_region_held_drew (S := fun w' => Row w' (g1) 66 [.slice A1 L.length c1, .int .i64 u0, .int .i64 u1, .int .i64 u2, .int .i64 u3] ∧ Row w' (g2) 66 [.slice A2 R.length c2, .int .i64 z0, .int .i64 z1, .int .i64 z2, .int .i64 z3]) (by kernel_rfl) ⟨R1_.out.drew, R2_.out.drew⟩ (fun hHeld => ?_)
        clear hHeld
        have R1_e1 := Lib.hid R1_.out.drew
        have R2_e1 := Lib.hid R2_.out.drew
        have O1_e1 := Lib.hid (own_drew O1.out)
        have O2_e1 := Lib.hid (own_drew O2.out)
        have B_e1 := Lib.hid B_.out.drew
        clear R1_ R2_ O1 O2 B_
        generalize wr.drew = De1 at R1_e1 R2_e1 O1_e1 O2_e1 B_e1 ⊢
        refine wpAnyH_take (i := 0) (oi := ⟨some 59, _, _, _, _, _⟩) (v := ?vere1_1) rfl (by kernel_rfl) (by kernel_rfl) (by kernel_rfl) (fun _ _ _ h => h) (Or.inl ⟨by rfl, ?yere1_1⟩) ⟨R1_e1.out, R2_e1.out⟩ ?rere1_1
        case yere1_1 =>
          rintro w' hSw
          go_simp
          try with_reducible rfl
        try simp only [Act.put, List.setIfInBounds_toArray, List.set_cons_zero, List.set_cons_succ]
        refine wpAnyH_take (i := 1) (oi := ⟨some 60, _, _, _, _, _⟩) (v := ?vere1_2) rfl (by kernel_rfl) (by kernel_rfl) (by kernel_rfl) (fun _ _ _ h => h) (Or.inl ⟨by rfl, ?yere1_2⟩) ⟨R1_e1.out, R2_e1.out⟩ ?rere1_2
        case yere1_2 =>
          rintro w' hSw
          have k0 := (show Row w' _ _ _ from hSw.1).cell 0
          have k1 := (show Row w' _ _ _ from hSw.1).cell 1
          have k2 := (show Row w' _ _ _ from hSw.1).cell 2
          have k3 := (show Row w' _ _ _ from hSw.1).cell 3
          have k4 := (show Row w' _ _ _ from hSw.1).cell 4
          simp only [List.getElem?_cons_zero, List.getElem?_cons_succ] at k0 k1 k2 k3 k4
          go_simp
          try with_reducible rfl
        try simp only [Act.put, List.setIfInBounds_toArray, List.set_cons_zero, List.set_cons_succ]
        refine wpAnyH_take (i := 2) (oi := ⟨some 61, _, _, _, _, _⟩) (v := ?vere1_3) rfl (by kernel_rfl) (by kernel_rfl) (by kernel_rfl) (fun _ _ _ h => h) (Or.inl ⟨by rfl, ?yere1_3⟩) ⟨R1_e1.out, R2_e1.out⟩ ?rere1_3
        case yere1_3 =>
          rintro w' hSw
          go_simp
          try with_reducible rfl
        try simp only [Act.put, List.setIfInBounds_toArray, List.set_cons_zero, List.set_cons_succ]
        refine wpAnyH_take (i := 3) (oi := ⟨some 62, _, _, _, _, _⟩) (v := ?vere1_4) rfl (by kernel_rfl) (by kernel_rfl) (by kernel_rfl) (fun _ _ _ h => h) (Or.inl ⟨by rfl, ?yere1_4⟩) ⟨R1_e1.out, R2_e1.out⟩ ?rere1_4
        case yere1_4 =>
          rintro w' hSw
          have k0 := (show Row w' _ _ _ from hSw.2).cell 0
          have k1 := (show Row w' _ _ _ from hSw.2).cell 1
          have k2 := (show Row w' _ _ _ from hSw.2).cell 2
          have k3 := (show Row w' _ _ _ from hSw.2).cell 3
          have k4 := (show Row w' _ _ _ from hSw.2).cell 4
          simp only [List.getElem?_cons_zero, List.getElem?_cons_succ] at k0 k1 k2 k3 k4
          go_simp
          try with_reducible rfl
        try simp only [Act.put, List.setIfInBounds_toArray, List.set_cons_zero, List.set_cons_succ]
        refine wpAnyH_take (i := 4) (oi := ⟨some 2, _, _, _, _, _⟩) (v := ?vere1_5) rfl (by kernel_rfl) (by kernel_rfl) (by kernel_rfl) (fun _ _ _ h => h) (Or.inl ⟨by rfl, ?yere1_5⟩) ⟨R1_e1.out, R2_e1.out⟩ ?rere1_5
        case yere1_5 =>
          rintro w' hSw
          go_simp
          try with_reducible rfl
        try simp only [Act.put, List.setIfInBounds_toArray, List.set_cons_zero, List.set_cons_succ]
        refine wpAnyH_take (i := 5) (oi := ⟨some 3, _, _, _, _, _⟩) (v := ?vere1_6) rfl (by kernel_rfl) (by kernel_rfl) (by kernel_rfl) (fun _ _ _ h => h) (Or.inl ⟨by rfl, ?yere1_6⟩) ⟨R1_e1.out, R2_e1.out⟩ ?rere1_6
        case yere1_6 =>
          rintro w' hSw
          go_simp
          try with_reducible rfl
        try simp only [Act.put, List.setIfInBounds_toArray, List.set_cons_zero, List.set_cons_succ]
        refine wpAnyH_done (by kernel_rfl) ?_ _
        go_wp2
        refine bodyPost_ret (v := .tuple #[.slice A1 L.length c1, .slice A2 R.length c2]) (by simp [results, Try.results34, go_sem]) rfl ?_
        exact ⟨_, _, rfl, O1_e1.out, O2_e1.out, HNE.out, B_e1.out⟩
      have h1 : (j : Int) < (n : Int) := by omega
      obtain ⟨y2, hy⟩ : ∃ x, ks[j]? = some x := ⟨_, List.getElem?_eq_getElem (by rw [HN.out]; omega)⟩
      have HY0 : Hid (ks.getD j .zero = y2) := Lib.hid (by rw [List.getD_eq_getElem?_getD, hy]; rfl)
      have HYN := Lib.hid (HK.out.num _ (List.mem_of_getElem? hy))
      have HYO := Lib.hid (HK.out.ok _ (List.mem_of_getElem? hy))
      have hc := fun jj v hj => (HI.out.hb.cell (p := ⟨b, o + j * 4 + jj, none⟩) hblt).trans (HC.out j _ hy jj v hj)
      have c0 : wr.cell? ⟨b, o + j * 4, none⟩ = some (.int .i64 y2.x0) := hc 0 _ rfl
      have c1 : wr.cell? ⟨b, o + j * 4 + 1, none⟩ = some (.int .i64 y2.x1) := hc 1 _ rfl
      have c2 : wr.cell? ⟨b, o + j * 4 + 2, none⟩ = some (.int .i64 y2.y0) := hc 2 _ rfl
      have c3 : wr.cell? ⟨b, o + j * 4 + 3, none⟩ = some (.int .i64 y2.y1) := hc 3 _ rfl
      have HON : Hid (PSok i k (j + 1) (partP ks least i k (j + 1))) := Lib.hid (by rw [partP_succ]; exact HO.out.step HK.out (by rw [HN.out]; exact hlt) (by omega))
      clear hc hy
      have HA : Hid (Below wr.heap.size wr (wr.alloc (.cells #[.int .i64 y2.x0, .int .i64 y2.x1, .int .i64 y2.y0, .int .i64 y2.y1] 23))) := Lib.hid ((Below.refl _ _).alloc (Nat.le_refl _) _)
      have HI5 := Lib.hid (HI.out.below HA.out)
      have hgmr : gm < wr.heap.size := HI.out.rm.lt
      by_cases hji : j = i ∨ j = k
      · have HE : Hid (partP ks least i k (j + 1) = partP ks least i k j) := Lib.hid (by rw [partP_succ]; unfold stepP; rw [if_pos hji])
        rw [← HE.out] at HI5
        clear HE HI HO HA
        rcases hji with hji | hji
        · subst hji
          go_wp2_with fail
          go_roundw
          case rel => exact ⟨j + 1, by omega, by go_num, HI5, HON⟩
          case measure => simp [intOf]; omega
        · have hh : ¬ (j : Int) = (i : Int) := by omega
          subst hji
          go_wp2_with fail
          go_roundw
          case rel => exact ⟨j + 1, by omega, by go_num, HI5, HON⟩
          case measure => simp [intOf]; omega
      have hne1 : ¬ (j : Int) = (i : Int) := by omega
      have hne2 : ¬ (j : Int) = (k : Int) := by omega
      have hb1 : ((j : Int) != (i : Int)) = true := by simpa using hne1
      have hb2 : ((j : Int) != (k : Int)) = true := by simpa using hne2
      have RY_ := Lib.hid (row_last wr wr.heap.size 23 [.int .i64 y2.x0, .int .i64 y2.x1, .int .i64 y2.y0, .int .i64 y2.y1] rfl)
      obtain ⟨sp, hsp⟩ : ∃ sp, partP ks least i k j = sp := ⟨_, rfl⟩
      have HSN : Hid (∀ r, goesM n least sp.L.length sp.R.length (lessK sp.u sp.v y2) (lessK sp.v sp.u y2) = r → partP ks least i k (j + 1) = if r then { sp with L := sp.L ++ [j], u := unionK sp.u y2 } else { sp with R := sp.R ++ [j], v := unionK sp.v y2 }) := Lib.hid (fun r hr => by
        rw [partP_succ, hsp]
        unfold stepP
        rw [if_neg hji, HY0.out, HN.out, hr])
      rw [hsp] at HI5 HO
      clear hsp hji hne1 hne2 HI HA HY0
      obtain ⟨L, R, u, v⟩ := sp
      have HUN := Lib.hid HO.out.un
      have HVN := Lib.hid HO.out.vn
      have HUO := Lib.hid HO.out.uo
      have HVO := Lib.hid HO.out.vo
      have hcnt : L.length + R.length ≤ n := by
        have h1 := HO.out.cnt
        dsimp only at h1
        have h2 : ¬ j = i := by intro e; subst e; simp at hb1
        have h3 : ¬ j = k := by intro e; subst e; simp at hb2
        split at h1 <;> split at h1 <;> omega
      obtain ⟨v1, v2, hs1, hs2, hne, hm1, hm2⟩ := HI5.out.sd
      dsimp only at hs1 hs2 HSN HUN HVN HUO HVO
      have R1_ := Lib.hid hs1.row
      have R2_ := Lib.hid hs2.row
      have O1_ := Lib.hid hs1.own
      have O2_ := Lib.hid hs2.own
      have HNE := Lib.hid hne
      have HM1 := Lib.hid hm1
      have HM2 := Lib.hid hm2
      have RL_ := Lib.hid HI5.out.rl
      have RM_ := Lib.hid HI5.out.rm
      have B_ := Lib.hid HI5.out.hb
      clear hs1 hs2 hne hm1 hm2 HI5 HO
      obtain ⟨A1, c1', rfl⟩ := own_slice O1_.out
      obtain ⟨A2, c2', rfl⟩ := own_slice O2_.out
      obtain ⟨r, hr⟩ : ∃ r, goesM n least L.length R.length (lessK u v y2) (lessK v u y2) = r := ⟨_, rfl⟩
      have HR := Lib.hid (show goesM n least L.length R.length (lessB u.x0 u.x1 u.y0 u.y1 v.x0 v.x1 v.y0 v.y1 y2.x0 y2.x1 y2.y0 y2.y1) (lessB v.x0 v.x1 v.y0 v.y1 u.x0 u.x1 u.y0 u.y1 y2.x0 y2.x1 y2.y0 y2.y1) = r from hr)
      have HSN2 := Lib.hid (HSN.out r hr)
      clear hr HSN
      go_wp2_with fail
      clear c0 c1 c2 c3 hb1 hb2
      generalize hw5 : wr.alloc (.cells #[.int .i64 y2.x0, .int .i64 y2.x1, .int .i64 y2.y0, .int .i64 y2.y1] 23) = w5 at RY_ R1_ R2_ O1_ O2_ RL_ RM_ B_ ⊢
      clear hw5
      cases r
      case true =>
        refine wp_region_held_drew (S := fun w' => Row w' (wr.heap.size) 23 [.int .i64 y2.x0, .int .i64 y2.x1, .int .i64 y2.y0, .int .i64 y2.y1]) (by kernel_rfl) RY_.out.drew (fun hHeld => ?_)
        clear hHeld
        have RY_l1 := Lib.hid RY_.out.drew
        have R1_l1 := Lib.hid R1_.out.drew
        have R2_l1 := Lib.hid R2_.out.drew
        have RL_l1 := Lib.hid RL_.out.drew
        have RM_l1 := Lib.hid RM_.out.drew
        have O1_l1 := Lib.hid (own_drew O1_.out)
        have O2_l1 := Lib.hid (own_drew O2_.out)
        have B_l1 := Lib.hid B_.out.drew
        clear RY_ R1_ R2_ RL_ RM_ O1_ O2_ B_
        generalize w5.drew = Dl1 at RY_l1 R1_l1 R2_l1 RL_l1 RM_l1 O1_l1 O2_l1 B_l1 ⊢
        refine wpAnyH_take (i := 0) (oi := ⟨some 52, _, _, _, _, _⟩) (v := ?vlrl1_1) rfl (by kernel_rfl) (by kernel_rfl) (by kernel_rfl) (fun _ _ _ h => h) (Or.inl ⟨by rfl, ?ylrl1_1⟩) RY_l1.out ?rlrl1_1
        case ylrl1_1 =>
          rintro w' hSw
          go_simp
          try with_reducible rfl
        try simp only [Act.put, List.setIfInBounds_toArray, List.set_cons_zero, List.set_cons_succ]
        refine wpAnyH_take (i := 1) (oi := ⟨some 53, _, _, _, _, _⟩) (v := ?vlrl1_2) rfl (by kernel_rfl) (by kernel_rfl) (by kernel_rfl) (fun _ _ _ h => h) (Or.inl ⟨by rfl, ?ylrl1_2⟩) RY_l1.out ?rlrl1_2
        case ylrl1_2 =>
          rintro w' hSw
          have k0 := (show Row w' _ _ _ from hSw).cell 0
          have k1 := (show Row w' _ _ _ from hSw).cell 1
          have k2 := (show Row w' _ _ _ from hSw).cell 2
          have k3 := (show Row w' _ _ _ from hSw).cell 3
          simp only [List.getElem?_cons_zero, List.getElem?_cons_succ] at k0 k1 k2 k3
          go_simp
          try with_reducible rfl
        try simp only [Act.put, List.setIfInBounds_toArray, List.set_cons_zero, List.set_cons_succ]
        refine wpAnyH_take (i := 3) (oi := ⟨some 55, _, _, _, _, _⟩) (v := ?vlrl1_3) rfl (by kernel_rfl) (by kernel_rfl) (by kernel_rfl) (fun _ _ _ h => h) (Or.inl ⟨by rfl, ?ylrl1_3⟩) RY_l1.out ?rlrl1_3
        case ylrl1_3 =>
          rintro w' hSw
          go_simp
          try with_reducible rfl
        try simp only [Act.put, List.setIfInBounds_toArray, List.set_cons_zero, List.set_cons_succ]
        refine wpAnyH_take (i := 4) (oi := ⟨some 56, _, _, _, _, _⟩) (v := ?vlrl1_4) rfl (by kernel_rfl) (by kernel_rfl) (by kernel_rfl) (fun _ _ _ h => h) (Or.inl ⟨by rfl, ?ylrl1_4⟩) RY_l1.out ?rlrl1_4
        case ylrl1_4 =>
          rintro w' hSw
          have k0 := (show Row w' _ _ _ from hSw).cell 0
          have k1 := (show Row w' _ _ _ from hSw).cell 1
          have k2 := (show Row w' _ _ _ from hSw).cell 2
          have k3 := (show Row w' _ _ _ from hSw).cell 3
          simp only [List.getElem?_cons_zero, List.getElem?_cons_succ] at k0 k1 k2 k3
          go_simp
          try with_reducible rfl
        try simp only [Act.put, List.setIfInBounds_toArray, List.set_cons_zero, List.set_cons_succ]
        refine wpAnyH_ready (rs := [2]) (by kernel_rfl) (by simp) ?_
        refine (AllReadyH.cons rfl (fun K hK => ?_) AllReadyH.nil)
        go_simp
        refine (goes_any _ RL_l1.out R1_l1.out R2_l1.out RM_l1.out HUN.out HVN.out HYN.out hm hcnt).mono ?_
        rintro e Xlrl1_5 ⟨he, hb⟩
        rw [HR.out] at he
        rw [if_pos rfl] at he
        subst he
        have RY_lrl1_5_2 := Lib.hid (RY_l1.out.below hb RY_l1.out.lt)
        have R1_lrl1_5_2 := Lib.hid (R1_l1.out.below hb R1_l1.out.lt)
        have R2_lrl1_5_2 := Lib.hid (R2_l1.out.below hb R2_l1.out.lt)
        have RL_lrl1_5_2 := Lib.hid (RL_l1.out.below hb RL_l1.out.lt)
        have RM_lrl1_5_2 := Lib.hid (RM_l1.out.below hb RM_l1.out.lt)
        have O1_lrl1_5_2 := Lib.hid (own_below O1_l1.out hb)
        have O2_lrl1_5_2 := Lib.hid (own_below O2_l1.out hb)
        have B_lrl1_5_2 := Lib.hid (B_l1.out.trans (hb.mono B_l1.out.size))
        clear hb RY_l1 R1_l1 R2_l1 RL_l1 RM_l1 O1_l1 O2_l1 B_l1
        refine hK _ _ RY_lrl1_5_2.out (fun _ => ?_)
        clear hK K
        try simp only [Act.put, List.setIfInBounds_toArray, List.set_cons_zero, List.set_cons_succ]
        refine wpAnyH_ready (rs := [5]) (by kernel_rfl) (by simp) ?_
        refine (AllReadyH.cons rfl (fun K hK => ?_) AllReadyH.nil)
        go_simp
        refine (take_any (p := j) _ (Side.mk R1_lrl1_5_2.out O1_lrl1_5_2.out) HUO.out HYO.out (by omega) B_lrl1_5_2.out.size).mono ?_
        rintro e Xlrl1_6 ⟨rfl, v', hS', hT'⟩
        have RYn := Lib.hid (Row.touch RY_lrl1_5_2.out hT' (by omega) (own_ne O1_lrl1_5_2.out RY_lrl1_5_2.out (by decide)))
        have HPI : Hid (PI w Xlrl1_6 w.heap.size g1 g2 gm (some ⟨b, o, none⟩) n c least (partP ks least i k (j + 1))) := Lib.hid (by
          rw [HSN2.out]
          exact PI.left (s := ⟨L, R, u, v⟩) RL_lrl1_5_2.out RM_lrl1_5_2.out (Side.mk R1_lrl1_5_2.out O1_lrl1_5_2.out) (Side.mk R2_lrl1_5_2.out O2_lrl1_5_2.out) HNE.out HM1.out HM2.out B_lrl1_5_2.out hS' hT' (by omega) (by omega) (by omega) (by omega))
        clear hS' hT'
        refine hK _ _ RYn.out (fun _ => ?_)
        clear hK K
        try simp only [Act.put, List.setIfInBounds_toArray, List.set_cons_zero, List.set_cons_succ]
        refine wpAnyH_done (by kernel_rfl) ?_ _
        go_wp2_with fail
        go_roundw
        case rel => exact ⟨j + 1, by omega, by go_num, HPI, HON⟩
        case measure => simp [intOf]; omega
      case false =>
        refine wp_region_held_drew (S := fun w' => Row w' (wr.heap.size) 23 [.int .i64 y2.x0, .int .i64 y2.x1, .int .i64 y2.y0, .int .i64 y2.y1]) (by kernel_rfl) RY_.out.drew (fun hHeld => ?_)
        clear hHeld
        have RY_m1 := Lib.hid RY_.out.drew
        have R1_m1 := Lib.hid R1_.out.drew
        have R2_m1 := Lib.hid R2_.out.drew
        have RL_m1 := Lib.hid RL_.out.drew
        have RM_m1 := Lib.hid RM_.out.drew
        have O1_m1 := Lib.hid (own_drew O1_.out)
        have O2_m1 := Lib.hid (own_drew O2_.out)
        have B_m1 := Lib.hid B_.out.drew
        clear RY_ R1_ R2_ RL_ RM_ O1_ O2_ B_
        generalize w5.drew = Dm1 at RY_m1 R1_m1 R2_m1 RL_m1 RM_m1 O1_m1 O2_m1 B_m1 ⊢
        refine wpAnyH_take (i := 0) (oi := ⟨some 52, _, _, _, _, _⟩) (v := ?vmrm1_1) rfl (by kernel_rfl) (by kernel_rfl) (by kernel_rfl) (fun _ _ _ h => h) (Or.inl ⟨by rfl, ?ymrm1_1⟩) RY_m1.out ?rmrm1_1
        case ymrm1_1 =>
          rintro w' hSw
          go_simp
          try with_reducible rfl
        try simp only [Act.put, List.setIfInBounds_toArray, List.set_cons_zero, List.set_cons_succ]
        refine wpAnyH_take (i := 1) (oi := ⟨some 53, _, _, _, _, _⟩) (v := ?vmrm1_2) rfl (by kernel_rfl) (by kernel_rfl) (by kernel_rfl) (fun _ _ _ h => h) (Or.inl ⟨by rfl, ?ymrm1_2⟩) RY_m1.out ?rmrm1_2
        case ymrm1_2 =>
          rintro w' hSw
          have k0 := (show Row w' _ _ _ from hSw).cell 0
          have k1 := (show Row w' _ _ _ from hSw).cell 1
          have k2 := (show Row w' _ _ _ from hSw).cell 2
          have k3 := (show Row w' _ _ _ from hSw).cell 3
          simp only [List.getElem?_cons_zero, List.getElem?_cons_succ] at k0 k1 k2 k3
          go_simp
          try with_reducible rfl
        try simp only [Act.put, List.setIfInBounds_toArray, List.set_cons_zero, List.set_cons_succ]
        refine wpAnyH_take (i := 3) (oi := ⟨some 55, _, _, _, _, _⟩) (v := ?vmrm1_3) rfl (by kernel_rfl) (by kernel_rfl) (by kernel_rfl) (fun _ _ _ h => h) (Or.inl ⟨by rfl, ?ymrm1_3⟩) RY_m1.out ?rmrm1_3
        case ymrm1_3 =>
          rintro w' hSw
          go_simp
          try with_reducible rfl
        try simp only [Act.put, List.setIfInBounds_toArray, List.set_cons_zero, List.set_cons_succ]
        refine wpAnyH_take (i := 4) (oi := ⟨some 56, _, _, _, _, _⟩) (v := ?vmrm1_4) rfl (by kernel_rfl) (by kernel_rfl) (by kernel_rfl) (fun _ _ _ h => h) (Or.inl ⟨by rfl, ?ymrm1_4⟩) RY_m1.out ?rmrm1_4
        case ymrm1_4 =>
          rintro w' hSw
          have k0 := (show Row w' _ _ _ from hSw).cell 0
          have k1 := (show Row w' _ _ _ from hSw).cell 1
          have k2 := (show Row w' _ _ _ from hSw).cell 2
          have k3 := (show Row w' _ _ _ from hSw).cell 3
          simp only [List.getElem?_cons_zero, List.getElem?_cons_succ] at k0 k1 k2 k3
          go_simp
          try with_reducible rfl
        try simp only [Act.put, List.setIfInBounds_toArray, List.set_cons_zero, List.set_cons_succ]
        refine wpAnyH_ready (rs := [2]) (by kernel_rfl) (by simp) ?_
        refine (AllReadyH.cons rfl (fun K hK => ?_) AllReadyH.nil)
        go_simp
        refine (goes_any _ RL_m1.out R1_m1.out R2_m1.out RM_m1.out HUN.out HVN.out HYN.out hm hcnt).mono ?_
        rintro e Xmrm1_5 ⟨he, hb⟩
        rw [HR.out] at he
        rw [if_neg (by decide)] at he
        subst he
        have RY_mrm1_5_2 := Lib.hid (RY_m1.out.below hb RY_m1.out.lt)
        have R1_mrm1_5_2 := Lib.hid (R1_m1.out.below hb R1_m1.out.lt)
        have R2_mrm1_5_2 := Lib.hid (R2_m1.out.below hb R2_m1.out.lt)
        have RL_mrm1_5_2 := Lib.hid (RL_m1.out.below hb RL_m1.out.lt)
        have RM_mrm1_5_2 := Lib.hid (RM_m1.out.below hb RM_m1.out.lt)
        have O1_mrm1_5_2 := Lib.hid (own_below O1_m1.out hb)
        have O2_mrm1_5_2 := Lib.hid (own_below O2_m1.out hb)
        have B_mrm1_5_2 := Lib.hid (B_m1.out.trans (hb.mono B_m1.out.size))
        clear hb RY_m1 R1_m1 R2_m1 RL_m1 RM_m1 O1_m1 O2_m1 B_m1
        refine hK _ _ RY_mrm1_5_2.out (fun _ => ?_)
        clear hK K
        try simp only [Act.put, List.setIfInBounds_toArray, List.set_cons_zero, List.set_cons_succ]
        refine wpAnyH_ready (rs := [5]) (by kernel_rfl) (by simp) ?_
        refine (AllReadyH.cons rfl (fun K hK => ?_) AllReadyH.nil)
        go_simp
        refine (take_any (p := j) _ (Side.mk R2_mrm1_5_2.out O2_mrm1_5_2.out) HVO.out HYO.out (by omega) B_mrm1_5_2.out.size).mono ?_
        rintro e Xmrm1_6 ⟨rfl, v', hS', hT'⟩
        have RYn := Lib.hid (Row.touch RY_mrm1_5_2.out hT' (by omega) (own_ne O2_mrm1_5_2.out RY_mrm1_5_2.out (by decide)))
        have HPI : Hid (PI w Xmrm1_6 w.heap.size g1 g2 gm (some ⟨b, o, none⟩) n c least (partP ks least i k (j + 1))) := Lib.hid (by
          rw [HSN2.out]
          exact PI.right (s := ⟨L, R, u, v⟩) RL_mrm1_5_2.out RM_mrm1_5_2.out (Side.mk R1_mrm1_5_2.out O1_mrm1_5_2.out) (Side.mk R2_mrm1_5_2.out O2_mrm1_5_2.out) HNE.out HM1.out HM2.out B_mrm1_5_2.out hS' hT' (by omega) (by omega) (by omega) (by omega))
        clear hS' hT'
        refine hK _ _ RYn.out (fun _ => ?_)
        clear hK K
        try simp only [Act.put, List.setIfInBounds_toArray, List.set_cons_zero, List.set_cons_succ]
        refine wpAnyH_done (by kernel_rfl) ?_ _
        go_wp2_with fail
        go_roundw
        case rel => exact ⟨j + 1, by omega, by go_num, HPI, HON⟩
        case measure => simp [intOf]; omega
end Go.Proofs.Ytbmfijcckdkmdaa.Ky
