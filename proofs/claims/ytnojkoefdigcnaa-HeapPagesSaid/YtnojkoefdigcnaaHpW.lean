/-
  Heap: the reference's Same, the law's whole.
-/
import Derived.Test.YtnojkoefdigcnaaHpN
import Derived.Test.YtnojkoefdigcnaaHpD
import Derived.LoopTactic
import Derived.Deep.RegionHeld
import Derived.Deep.Cut
import Derived.WalkLawsBesides
namespace Go.Proofs.Ytnojkoefdigcnaa.Hp
set_option maxRecDepth 100000
open Go.RowKit Go.Proofs.Ytnojkoefdigcnaa.Dsk Go.Proofs.Ytnojkoefdigcnaa.Pg Go.Proofs.Ytnojkoefdigcnaa.Rec Go.Proofs.Ytnojkoefdigcnaa.Wd Go.Proofs.Ytnojkoefdigcnaa.Wi Go.Proofs.Ytnojkoefdigcnaa.Ky Go.Proofs.Ytnojkoefdigcnaa.Oct Go.Proofs.Ytnojkoefdigcnaa.Rec Go.Proofs.Ytnojkoefdigcnaa.Lift

set_option maxHeartbeats 4000000 in
theorem rsame_true (L : List EH) (A1 A2 : Option Addr) (n c1 c2 base1 base2 : Nat) (w : World) (hn : L.length = n) (hm : n ≤ 100000) (hO1 : OwnI w base1 (.slice A1 n c1) L) (hO2 : OwnI w base2 (.slice A2 n c2) L) :
    Calls Try.prog 25 #[.slice A1 n c1, .slice A2 n c2] w fun e w' => e = .returned (.bool true) ∧ Below w.heap.size w w' := by
  have mixed : Try.prog.follows .mixedOrders = true := by kernel_rfl
  have HN := Lib.hid hn
  have HO1 := Lib.hid hO1
  have HO2 := Lib.hid hO2
  clear hn hO1 hO2
  go_enter Try.func25, Try.ntmps25
  go_wp2_with fail
  have HI0 : Hid (Below w.heap.size w w) := Lib.hid (Below.refl _ _)
  go_loopw [13] (fun i wr => ∃ k : Nat, k ≤ n ∧ i = .int .i64 (k : Int) ∧ Hid (Below w.heap.size w wr)) (fun i _ => n - (intOf i).toNat)
  case atStart => exact ⟨0, by omega, rfl, HI0⟩
  case round =>
    obtain ⟨k, hk, rfl, HI⟩ := hrel
    clear HI0
    by_cases hlt : k < n
    case neg =>
      have h1 : ¬ (k : Int) < (n : Int) := by omega
      go_wp2
      go_ret
      exact ⟨rfl, HI.out⟩
    have h1 : (k : Int) < (n : Int) := by omega
    obtain ⟨x, hx⟩ : ∃ x, L[k]? = some x := ⟨_, List.getElem?_eq_getElem (by rw [HN.out]; exact hlt)⟩
    obtain ⟨g1, rfl, -, hg1, -, hc1⟩ := ownI_at HO1.out hx
    obtain ⟨g2, rfl, -, hg2, -, hc2⟩ := ownI_at HO2.out hx
    obtain ⟨x1, x2, ⟨r, a, b, x0, z1, y0, y1, v⟩, xe⟩ := x
    have HC1 := Lib.hid (fun j u hj => (HI.out.cell (p := ⟨g1, k * 10 + j, none⟩) hg1).trans (hc1 j u hj))
    have HC2 := Lib.hid (fun j u hj => (HI.out.cell (p := ⟨g2, k * 10 + j, none⟩) hg2).trans (hc2 j u hj))
    have HG1 : Hid (g1 < wr.heap.size) := Lib.hid (Nat.lt_of_lt_of_le hg1 HI.out.size)
    have HG2 : Hid (g2 < wr.heap.size) := Lib.hid (Nat.lt_of_lt_of_le hg2 HI.out.size)
    clear hx hc1 hc2 hg1 hg2
    go_upto_region 6 with fail
    go_wp2_with fail
    refine wp_region_held_drew (S := fun w' => Below wr.heap.size wr w') (by kernel_rfl) (Below.refl _ _).drew (fun hHeld => ?_)
    have S_s1 := Lib.hid hHeld
    clear hHeld
    generalize wr.drew = Ds1 at S_s1 ⊢
    refine wpAnyH_take (i := 0) (oi := ⟨some 16, _, _, _, _, _⟩) (v := ?vsds1_1) rfl (by kernel_rfl) (by kernel_rfl) (by kernel_rfl) (fun _ _ _ h => h) (Or.inl ⟨by rfl, ?ysds1_1⟩) S_s1.out ?rsds1_1
    case ysds1_1 =>
      rintro w' hSw
      go_simp
      try with_reducible rfl
    try simp only [Act.put, List.setIfInBounds_toArray, List.set_cons_zero, List.set_cons_succ]
    refine wpAnyH_take (i := 1) (oi := ⟨some 17, _, _, _, _, _⟩) (v := ?vsds1_2) rfl (by kernel_rfl) (by kernel_rfl) (by kernel_rfl) (fun _ _ _ h => h) (Or.inl ⟨by rfl, ?ysds1_2⟩) S_s1.out ?rsds1_2
    case ysds1_2 =>
      rintro w' hSw
      go_simp
      try with_reducible rfl
    try simp only [Act.put, List.setIfInBounds_toArray, List.set_cons_zero, List.set_cons_succ]
    refine wpAnyH_take (i := 2) (oi := ⟨some 18, _, _, _, _, _⟩) (v := ?vsds1_3) rfl (by kernel_rfl) (by kernel_rfl) (by kernel_rfl) (fun _ _ _ h => h) (Or.inl ⟨by rfl, ?ysds1_3⟩) S_s1.out ?rsds1_3
    case ysds1_3 =>
      rintro w' hSw
      go_simp
      try with_reducible rfl
    try simp only [Act.put, List.setIfInBounds_toArray, List.set_cons_zero, List.set_cons_succ]
    refine wpAnyH_take (i := 3) (oi := ⟨some 19, _, _, _, _, _⟩) (v := ?vsds1_4) rfl (by kernel_rfl) (by kernel_rfl) (by kernel_rfl) (fun _ _ _ h => h) (Or.inl ⟨by rfl, ?ysds1_4⟩) S_s1.out ?rsds1_4
    case ysds1_4 =>
      rintro w' hSw
      have k0 : w'.cell? ⟨g1, k * 10, none⟩ = some (.int .i64 x1) := (hSw.cell (p := ⟨g1, k * 10, none⟩) HG1.out).trans (HC1.out 0 _ rfl)
      have k1 : w'.cell? ⟨g1, k * 10 + 1, none⟩ = some (.int .i64 (x2 : Int)) := (hSw.cell (p := ⟨g1, k * 10 + 1, none⟩) HG1.out).trans (HC1.out 1 _ rfl)
      have k2 : w'.cell? ⟨g1, k * 10 + 2, none⟩ = some (.int .u32 (r : Int)) := (hSw.cell (p := ⟨g1, k * 10 + 2, none⟩) HG1.out).trans (HC1.out 2 _ rfl)
      have k3 : w'.cell? ⟨g1, k * 10 + 3, none⟩ = some (.int .u64 (a : Int)) := (hSw.cell (p := ⟨g1, k * 10 + 3, none⟩) HG1.out).trans (HC1.out 3 _ rfl)
      have k4 : w'.cell? ⟨g1, k * 10 + 4, none⟩ = some (.int .u64 (b : Int)) := (hSw.cell (p := ⟨g1, k * 10 + 4, none⟩) HG1.out).trans (HC1.out 4 _ rfl)
      have k5 : w'.cell? ⟨g1, k * 10 + 5, none⟩ = some (.int .i64 x0) := (hSw.cell (p := ⟨g1, k * 10 + 5, none⟩) HG1.out).trans (HC1.out 5 _ rfl)
      have k6 : w'.cell? ⟨g1, k * 10 + 6, none⟩ = some (.int .i64 z1) := (hSw.cell (p := ⟨g1, k * 10 + 6, none⟩) HG1.out).trans (HC1.out 6 _ rfl)
      have k7 : w'.cell? ⟨g1, k * 10 + 7, none⟩ = some (.int .i64 y0) := (hSw.cell (p := ⟨g1, k * 10 + 7, none⟩) HG1.out).trans (HC1.out 7 _ rfl)
      have k8 : w'.cell? ⟨g1, k * 10 + 8, none⟩ = some (.int .i64 y1) := (hSw.cell (p := ⟨g1, k * 10 + 8, none⟩) HG1.out).trans (HC1.out 8 _ rfl)
      have k9 : w'.cell? ⟨g1, k * 10 + 9, none⟩ = some (.int .i64 v) := (hSw.cell (p := ⟨g1, k * 10 + 9, none⟩) HG1.out).trans (HC1.out 9 _ rfl)
      go_simp
      try with_reducible rfl
    try simp only [Act.put, List.setIfInBounds_toArray, List.set_cons_zero, List.set_cons_succ]
    refine wpAnyH_take (i := 4) (oi := ⟨some 20, _, _, _, _, _⟩) (v := ?vsds1_5) rfl (by kernel_rfl) (by kernel_rfl) (by kernel_rfl) (fun _ _ _ h => h) (Or.inl ⟨by rfl, ?ysds1_5⟩) S_s1.out ?rsds1_5
    case ysds1_5 =>
      rintro w' hSw
      go_simp
      try with_reducible rfl
    try simp only [Act.put, List.setIfInBounds_toArray, List.set_cons_zero, List.set_cons_succ]
    refine wpAnyH_take (i := 5) (oi := ⟨some 21, _, _, _, _, _⟩) (v := ?vsds1_6) rfl (by kernel_rfl) (by kernel_rfl) (by kernel_rfl) (fun _ _ _ h => h) (Or.inl ⟨by rfl, ?ysds1_6⟩) S_s1.out ?rsds1_6
    case ysds1_6 =>
      rintro w' hSw
      go_simp
      try with_reducible rfl
    try simp only [Act.put, List.setIfInBounds_toArray, List.set_cons_zero, List.set_cons_succ]
    refine wpAnyH_take (i := 6) (oi := ⟨some 22, _, _, _, _, _⟩) (v := ?vsds1_7) rfl (by kernel_rfl) (by kernel_rfl) (by kernel_rfl) (fun _ _ _ h => h) (Or.inl ⟨by rfl, ?ysds1_7⟩) S_s1.out ?rsds1_7
    case ysds1_7 =>
      rintro w' hSw
      go_simp
      try with_reducible rfl
    try simp only [Act.put, List.setIfInBounds_toArray, List.set_cons_zero, List.set_cons_succ]
    refine wpAnyH_take (i := 7) (oi := ⟨some 23, _, _, _, _, _⟩) (v := ?vsds1_8) rfl (by kernel_rfl) (by kernel_rfl) (by kernel_rfl) (fun _ _ _ h => h) (Or.inl ⟨by rfl, ?ysds1_8⟩) S_s1.out ?rsds1_8
    case ysds1_8 =>
      rintro w' hSw
      have k0 : w'.cell? ⟨g2, k * 10, none⟩ = some (.int .i64 x1) := (hSw.cell (p := ⟨g2, k * 10, none⟩) HG2.out).trans (HC2.out 0 _ rfl)
      have k1 : w'.cell? ⟨g2, k * 10 + 1, none⟩ = some (.int .i64 (x2 : Int)) := (hSw.cell (p := ⟨g2, k * 10 + 1, none⟩) HG2.out).trans (HC2.out 1 _ rfl)
      have k2 : w'.cell? ⟨g2, k * 10 + 2, none⟩ = some (.int .u32 (r : Int)) := (hSw.cell (p := ⟨g2, k * 10 + 2, none⟩) HG2.out).trans (HC2.out 2 _ rfl)
      have k3 : w'.cell? ⟨g2, k * 10 + 3, none⟩ = some (.int .u64 (a : Int)) := (hSw.cell (p := ⟨g2, k * 10 + 3, none⟩) HG2.out).trans (HC2.out 3 _ rfl)
      have k4 : w'.cell? ⟨g2, k * 10 + 4, none⟩ = some (.int .u64 (b : Int)) := (hSw.cell (p := ⟨g2, k * 10 + 4, none⟩) HG2.out).trans (HC2.out 4 _ rfl)
      have k5 : w'.cell? ⟨g2, k * 10 + 5, none⟩ = some (.int .i64 x0) := (hSw.cell (p := ⟨g2, k * 10 + 5, none⟩) HG2.out).trans (HC2.out 5 _ rfl)
      have k6 : w'.cell? ⟨g2, k * 10 + 6, none⟩ = some (.int .i64 z1) := (hSw.cell (p := ⟨g2, k * 10 + 6, none⟩) HG2.out).trans (HC2.out 6 _ rfl)
      have k7 : w'.cell? ⟨g2, k * 10 + 7, none⟩ = some (.int .i64 y0) := (hSw.cell (p := ⟨g2, k * 10 + 7, none⟩) HG2.out).trans (HC2.out 7 _ rfl)
      have k8 : w'.cell? ⟨g2, k * 10 + 8, none⟩ = some (.int .i64 y1) := (hSw.cell (p := ⟨g2, k * 10 + 8, none⟩) HG2.out).trans (HC2.out 8 _ rfl)
      have k9 : w'.cell? ⟨g2, k * 10 + 9, none⟩ = some (.int .i64 v) := (hSw.cell (p := ⟨g2, k * 10 + 9, none⟩) HG2.out).trans (HC2.out 9 _ rfl)
      go_simp
      try with_reducible rfl
    try simp only [Act.put, List.setIfInBounds_toArray, List.set_cons_zero, List.set_cons_succ]
    refine wpAnyH_take (i := 8) (oi := ⟨some 24, _, _, _, _, _⟩) (v := ?vsds1_9) rfl (by kernel_rfl) (by kernel_rfl) (by kernel_rfl) (fun _ _ _ h => h) (Or.inl ⟨by rfl, ?ysds1_9⟩) S_s1.out ?rsds1_9
    case ysds1_9 =>
      rintro w' hSw
      go_simp
      try with_reducible rfl
    try simp only [Act.put, List.setIfInBounds_toArray, List.set_cons_zero, List.set_cons_succ]
    refine wpAnyH_done (by kernel_rfl) ?_ _
    go_wp2_with fail
    go_roundw
    case rel => exact ⟨k + 1, by omega, by go_num, Lib.hid (HI.out.trans (S_s1.out.mono HI.out.size))⟩
    case measure => simp [intOf]; omega

set_option maxHeartbeats 4000000 in
theorem whole_true (l1 l2 : List PX) (A1 A2 : Option Addr) (n c1 c2 : Nat) (w : World) (hn1 : l1.length = n) (hm : n ≤ 100000) (he : l1.map pmOf = l2.map pmOf) (hP1 : Pgs w w.heap.size A1 l1) (hP2 : Pgs w w.heap.size A2 l2) :
    Calls Try.prog 22 #[.slice A1 n c1, .slice A2 n c2] w fun e w' => e = .returned (.bool true) ∧ Below w.heap.size w w' := by
  have mixed : Try.prog.follows .mixedOrders = true := by kernel_rfl
  have HN := Lib.hid hn1
  have HN2 : Hid (l2.length = n) := Lib.hid (by have := congrArg List.length he; rw [List.length_map, List.length_map] at this; omega)
  have HP1 := Lib.hid hP1
  have HP2 := Lib.hid hP2
  have HE := Lib.hid he
  clear hn1 hP1 hP2 he
  go_enter Try.func22, Try.ntmps22
  go_wp2_with fail
  have HI0 : Hid (Below w.heap.size w w) := Lib.hid (Below.refl _ _)
  go_loopw [13] (fun i wr => ∃ k : Nat, k ≤ n ∧ i = .int .i64 (k : Int) ∧ Hid (Below w.heap.size w wr)) (fun i _ => n - (intOf i).toNat)
  case atStart => exact ⟨0, by omega, rfl, HI0⟩
  case round =>
    obtain ⟨k, hk, rfl, HI⟩ := hrel
    clear HI0
    by_cases hlt : k < n
    case neg =>
      have h1 : ¬ (k : Int) < (n : Int) := by omega
      go_wp2
      go_ret
      exact ⟨rfl, HI.out⟩
    have h1 : (k : Int) < (n : Int) := by omega
    obtain ⟨x, hx⟩ : ∃ x, l1[k]? = some x := ⟨_, List.getElem?_eq_getElem (by rw [HN.out]; exact hlt)⟩
    obtain ⟨y, hy⟩ : ∃ y, l2[k]? = some y := ⟨_, List.getElem?_eq_getElem (by rw [HN2.out]; exact hlt)⟩
    have hxy : pmOf x = pmOf y := by
      have h5 := congrArg (fun l => l[k]?) HE.out
      simp only [List.getElem?_map, hx, hy, Option.map_some, Option.some.injEq] at h5
      exact h5
    obtain ⟨b1, o1, rfl, hb1, c0, c1', c2', c3, c4, c5⟩ := (HP1.out.below HI.out).cells hx
    obtain ⟨b2, o2, rfl, hb2, d0, d1, d2, d3, d4, d5⟩ := (HP2.out.below HI.out).cells hy
    have hat1 := (HP1.out.at_ x (List.mem_of_getElem? hx)).below HI.out
    have hat2 := (HP2.out.at_ y (List.mem_of_getElem? hy)).below HI.out
    obtain ⟨num, lsn, sl, st⟩ := x
    obtain ⟨num2, lsn2, sl2, su⟩ := y
    simp only [pmOf, PM.mk.injEq] at hxy
    obtain ⟨rfl, rfl, rfl⟩ := hxy
    dsimp only at *
    have HSM : Hid (∀ W, Below wr.heap.size wr W → Calls Try.prog 47 #[.agg #[.int .i64 num, .int .u64 (lsn : Int), .slice (st.A 0) (st.n 0) (st.c 0), .slice (st.A 1) (st.n 1) (st.c 1), .slice (st.A 2) (st.n 2) (st.c 2), .slice (st.A 3) (st.n 3) (st.c 3)], .agg #[.int .i64 num, .int .u64 (lsn : Int), .slice (su.A 0) (su.n 0) (su.c 0), .slice (su.A 1) (su.n 1) (su.c 1), .slice (su.A 2) (su.n 2) (su.c 2), .slice (su.A 3) (su.n 3) (su.c 3)]] W fun e w' => e = .returned (.bool true) ∧ Below W.heap.size W w') := Lib.hid (fun W hb => by
      have h6 := Pg.rsame_any num lsn st sl num lsn su sl w.heap.size W (hat1.below (hb.mono HI.out.size)) (hat2.below (hb.mono HI.out.size)) (Nat.le_trans HI.out.size hb.size)
      rw [show sameM num lsn sl num lsn sl = true from by simp [sameM, eq4_iff]] at h6
      exact h6)
    have HG1 : Hid (b1 < wr.heap.size) := Lib.hid (Nat.lt_of_lt_of_le hb1 HI.out.size)
    have HG2 : Hid (b2 < wr.heap.size) := Lib.hid (Nat.lt_of_lt_of_le hb2 HI.out.size)
    have HC0 := Lib.hid c0
    have HC1 := Lib.hid c1'
    have HC2 := Lib.hid c2'
    have HC3 := Lib.hid c3
    have HC4 := Lib.hid c4
    have HC5 := Lib.hid c5
    have HD0 := Lib.hid d0
    have HD1 := Lib.hid d1
    have HD2 := Lib.hid d2
    have HD3 := Lib.hid d3
    have HD4 := Lib.hid d4
    have HD5 := Lib.hid d5
    clear hx hy hat1 hat2 hb1 hb2 c0 c1' c2' c3 c4 c5 d0 d1 d2 d3 d4 d5
    go_upto_region 6 with fail
    go_wp2_with fail
    refine wp_region_held_drew (S := fun w' => Below wr.heap.size wr w') (by kernel_rfl) (Below.refl _ _).drew (fun hHeld => ?_)
    have S_w1 := Lib.hid hHeld
    clear hHeld
    generalize wr.drew = Dw1 at S_w1 ⊢
    refine wpAnyH_take (i := 0) (oi := ⟨some 16, _, _, _, _, _⟩) (v := ?vwdw1_1) rfl (by kernel_rfl) (by kernel_rfl) (by kernel_rfl) (fun _ _ _ h => h) (Or.inl ⟨by rfl, ?ywdw1_1⟩) S_w1.out ?rwdw1_1
    case ywdw1_1 =>
      rintro w' hSw
      go_simp
      try with_reducible rfl
    try simp only [Act.put, List.setIfInBounds_toArray, List.set_cons_zero, List.set_cons_succ]
    refine wpAnyH_take (i := 1) (oi := ⟨some 17, _, _, _, _, _⟩) (v := ?vwdw1_2) rfl (by kernel_rfl) (by kernel_rfl) (by kernel_rfl) (fun _ _ _ h => h) (Or.inl ⟨by rfl, ?ywdw1_2⟩) S_w1.out ?rwdw1_2
    case ywdw1_2 =>
      rintro w' hSw
      go_simp
      try with_reducible rfl
    try simp only [Act.put, List.setIfInBounds_toArray, List.set_cons_zero, List.set_cons_succ]
    refine wpAnyH_take (i := 2) (oi := ⟨some 18, _, _, _, _, _⟩) (v := ?vwdw1_3) rfl (by kernel_rfl) (by kernel_rfl) (by kernel_rfl) (fun _ _ _ h => h) (Or.inl ⟨by rfl, ?ywdw1_3⟩) S_w1.out ?rwdw1_3
    case ywdw1_3 =>
      rintro w' hSw
      go_simp
      try with_reducible rfl
    try simp only [Act.put, List.setIfInBounds_toArray, List.set_cons_zero, List.set_cons_succ]
    refine wpAnyH_take (i := 3) (oi := ⟨some 19, _, _, _, _, _⟩) (v := ?vwdw1_4) rfl (by kernel_rfl) (by kernel_rfl) (by kernel_rfl) (fun _ _ _ h => h) (Or.inl ⟨by rfl, ?ywdw1_4⟩) S_w1.out ?rwdw1_4
    case ywdw1_4 =>
      rintro w' hSw
      have k0 : w'.cell? ⟨b1, o1 + k * 6, none⟩ = some (.int .i64 num) := (hSw.cell (p := ⟨b1, o1 + k * 6, none⟩) HG1.out).trans HC0.out
      have k1 : w'.cell? ⟨b1, o1 + k * 6 + 1, none⟩ = some (.int .u64 (lsn : Int)) := (hSw.cell (p := ⟨b1, o1 + k * 6 + 1, none⟩) HG1.out).trans HC1.out
      have k2 : w'.cell? ⟨b1, o1 + k * 6 + 2, none⟩ = some (.slice (st.A 0) (st.n 0) (st.c 0)) := (hSw.cell (p := ⟨b1, o1 + k * 6 + 2, none⟩) HG1.out).trans HC2.out
      have k3 : w'.cell? ⟨b1, o1 + k * 6 + 3, none⟩ = some (.slice (st.A 1) (st.n 1) (st.c 1)) := (hSw.cell (p := ⟨b1, o1 + k * 6 + 3, none⟩) HG1.out).trans HC3.out
      have k4 : w'.cell? ⟨b1, o1 + k * 6 + 4, none⟩ = some (.slice (st.A 2) (st.n 2) (st.c 2)) := (hSw.cell (p := ⟨b1, o1 + k * 6 + 4, none⟩) HG1.out).trans HC4.out
      have k5 : w'.cell? ⟨b1, o1 + k * 6 + 5, none⟩ = some (.slice (st.A 3) (st.n 3) (st.c 3)) := (hSw.cell (p := ⟨b1, o1 + k * 6 + 5, none⟩) HG1.out).trans HC5.out
      go_simp
      try with_reducible rfl
    try simp only [Act.put, List.setIfInBounds_toArray, List.set_cons_zero, List.set_cons_succ]
    refine wpAnyH_take (i := 4) (oi := ⟨some 20, _, _, _, _, _⟩) (v := ?vwdw1_5) rfl (by kernel_rfl) (by kernel_rfl) (by kernel_rfl) (fun _ _ _ h => h) (Or.inl ⟨by rfl, ?ywdw1_5⟩) S_w1.out ?rwdw1_5
    case ywdw1_5 =>
      rintro w' hSw
      go_simp
      try with_reducible rfl
    try simp only [Act.put, List.setIfInBounds_toArray, List.set_cons_zero, List.set_cons_succ]
    refine wpAnyH_take (i := 5) (oi := ⟨some 21, _, _, _, _, _⟩) (v := ?vwdw1_6) rfl (by kernel_rfl) (by kernel_rfl) (by kernel_rfl) (fun _ _ _ h => h) (Or.inl ⟨by rfl, ?ywdw1_6⟩) S_w1.out ?rwdw1_6
    case ywdw1_6 =>
      rintro w' hSw
      go_simp
      try with_reducible rfl
    try simp only [Act.put, List.setIfInBounds_toArray, List.set_cons_zero, List.set_cons_succ]
    refine wpAnyH_take (i := 6) (oi := ⟨some 22, _, _, _, _, _⟩) (v := ?vwdw1_7) rfl (by kernel_rfl) (by kernel_rfl) (by kernel_rfl) (fun _ _ _ h => h) (Or.inl ⟨by rfl, ?ywdw1_7⟩) S_w1.out ?rwdw1_7
    case ywdw1_7 =>
      rintro w' hSw
      go_simp
      try with_reducible rfl
    try simp only [Act.put, List.setIfInBounds_toArray, List.set_cons_zero, List.set_cons_succ]
    refine wpAnyH_take (i := 7) (oi := ⟨some 23, _, _, _, _, _⟩) (v := ?vwdw1_8) rfl (by kernel_rfl) (by kernel_rfl) (by kernel_rfl) (fun _ _ _ h => h) (Or.inl ⟨by rfl, ?ywdw1_8⟩) S_w1.out ?rwdw1_8
    case ywdw1_8 =>
      rintro w' hSw
      have k0 : w'.cell? ⟨b2, o2 + k * 6, none⟩ = some (.int .i64 num) := (hSw.cell (p := ⟨b2, o2 + k * 6, none⟩) HG2.out).trans HD0.out
      have k1 : w'.cell? ⟨b2, o2 + k * 6 + 1, none⟩ = some (.int .u64 (lsn : Int)) := (hSw.cell (p := ⟨b2, o2 + k * 6 + 1, none⟩) HG2.out).trans HD1.out
      have k2 : w'.cell? ⟨b2, o2 + k * 6 + 2, none⟩ = some (.slice (su.A 0) (su.n 0) (su.c 0)) := (hSw.cell (p := ⟨b2, o2 + k * 6 + 2, none⟩) HG2.out).trans HD2.out
      have k3 : w'.cell? ⟨b2, o2 + k * 6 + 3, none⟩ = some (.slice (su.A 1) (su.n 1) (su.c 1)) := (hSw.cell (p := ⟨b2, o2 + k * 6 + 3, none⟩) HG2.out).trans HD3.out
      have k4 : w'.cell? ⟨b2, o2 + k * 6 + 4, none⟩ = some (.slice (su.A 2) (su.n 2) (su.c 2)) := (hSw.cell (p := ⟨b2, o2 + k * 6 + 4, none⟩) HG2.out).trans HD4.out
      have k5 : w'.cell? ⟨b2, o2 + k * 6 + 5, none⟩ = some (.slice (su.A 3) (su.n 3) (su.c 3)) := (hSw.cell (p := ⟨b2, o2 + k * 6 + 5, none⟩) HG2.out).trans HD5.out
      go_simp
      try with_reducible rfl
    try simp only [Act.put, List.setIfInBounds_toArray, List.set_cons_zero, List.set_cons_succ]
    refine wpAnyH_ready (rs := [8]) (by kernel_rfl) (by simp) ?_
    refine (AllReadyH.cons rfl (fun K hK => ?_) AllReadyH.nil)
    go_simp
    refine (HSM.out _ S_w1.out).mono ?_
    rintro e Xwdw1_9 ⟨rfl, hb⟩
    have Swdw1_9 := Lib.hid (S_w1.out.trans (hb.mono S_w1.out.size))
    clear hb S_w1
    refine hK _ _ Swdw1_9.out (fun _ => ?_)
    clear hK K
    try simp only [Act.put, List.setIfInBounds_toArray, List.set_cons_zero, List.set_cons_succ]
    refine wpAnyH_take (i := 9) (oi := ⟨some 25, _, _, _, _, _⟩) (v := ?vwdw1_10) rfl (by kernel_rfl) (by kernel_rfl) (by kernel_rfl) (fun _ _ _ h => h) (Or.inl ⟨by rfl, ?ywdw1_10⟩) Swdw1_9.out ?rwdw1_10
    case ywdw1_10 =>
      rintro w' hSw
      go_simp
      try with_reducible rfl
    try simp only [Act.put, List.setIfInBounds_toArray, List.set_cons_zero, List.set_cons_succ]
    refine wpAnyH_done (by kernel_rfl) ?_ _
    go_wp2_with fail
    go_roundw
    case rel => exact ⟨k + 1, by omega, by go_num, Lib.hid (HI.out.trans (Swdw1_9.out.mono HI.out.size))⟩
    case measure => simp [intOf]; omega
end Go.Proofs.Ytnojkoefdigcnaa.Hp
