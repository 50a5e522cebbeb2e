/-
  slices.Reverse over bytes.
-/
import Derived.Test.YtleeanbfhfklmaaWi1
import Derived.Deep.RegionHeld
import Derived.WalkLawsBesides
namespace Go.Proofs.Ytleeanbfhfklmaa.Wi
set_option maxRecDepth 100000
open Go.RowKit Go.Proofs.Ytleeanbfhfklmaa.Wd

/-- behind k exchanges -/
def RevI (l : List UInt8) (k : Nat) (m : List UInt8) : Prop :=
  m.length = l.length ∧ ∀ p, p < l.length → m.getD p 0 = if p < k ∨ l.length - 1 - k < p then l.getD (l.length - 1 - p) 0 else l.getD p 0
theorem RevI.start (l : List UInt8) : RevI l 0 l := ⟨rfl, fun p hp => by rw [if_neg (by omega)]⟩
theorem RevI.step {l m : List UInt8} {k : Nat} (h : RevI l k m) (hk : k < l.length - 1 - k) : RevI l (k + 1) ((m.set k (m.getD (l.length - 1 - k) 0)).set (l.length - 1 - k) (m.getD k 0)) := by
  obtain ⟨hl, hp⟩ := h
  refine ⟨by simp [hl], fun p hlt => ?_⟩
  have h1 := hp k (by omega)
  have h2 := hp (l.length - 1 - k) (by omega)
  have h3 := hp p hlt
  rw [if_neg (by omega)] at h1 h2
  rw [h1, h2]
  simp only [List.getD_eq_getElem?_getD, List.getElem?_set, List.length_set, hl] at h3 ⊢
  by_cases e1 : l.length - 1 - k = p
  · rw [if_pos e1, if_pos (by omega), if_pos (by omega)]
    rw [show l.length - 1 - p = k from by omega]
    simp
  · rw [if_neg e1]
    by_cases e2 : k = p
    · rw [if_pos e2, if_pos (by omega), if_pos (by omega), ← e2]
      simp
    · rw [if_neg e2, h3]
      by_cases e3 : p < k ∨ l.length - 1 - k < p
      · rw [if_pos e3, if_pos (by omega)]
      · rw [if_neg e3, if_neg (by omega)]
theorem RevI.done {l m : List UInt8} {k : Nat} (h : RevI l k m) (hk : l.length - 1 ≤ k + k) : m = l.reverse := by
  obtain ⟨hl, hp⟩ := h
  refine List.ext_getElem (by simp [hl]) fun p h1 h2 => ?_
  have h3 := hp p (by omega)
  simp only [List.getD_eq_getElem?_getD, List.getElem?_eq_getElem h1, Option.getD_some] at h3
  rw [h3, List.getElem_reverse]
  have hr : p < l.length := by omega
  by_cases e : p < k ∨ l.length - 1 - k < p
  · rw [if_pos e, List.getElem?_eq_getElem (by omega)]; rfl
  · rw [if_neg e, List.getElem?_eq_getElem hr]
    simp only [Option.getD_some]
    congr 1
    omega
theorem grown_trans {a b c : World} {g : Option Nat} (h : a.grownBy b g) (k : b.grownBy c g) : a.grownBy c g :=
  ⟨k.os.trans h.os, k.tape.trans h.tape, k.output.trans h.output, Nat.le_trans h.size k.size, fun i hi hne => (k.block i (Nat.lt_of_lt_of_le hi h.size) hne).trans (h.block i hi hne)⟩
theorem grown_store (w : World) (g i : Nat) (u : Value) : w.grownBy (w.setCell ⟨g, i, none⟩ u) (some g) :=
  ⟨rfl, rfl, rfl, by simp [World.setCell], fun k _ hne => Below.heap_setCell w ⟨g, i, none⟩ u k (fun e => hne (by rw [e]))⟩
theorem bv_set_any (m : List UInt8) (rest : List Value) (i : Nat) (x : UInt8) (h : i < m.length) : (bv m ++ rest).set i (.int .u8 (x.toNat : Int)) = bv (m.set i x) ++ rest := by
  rw [List.set_append_left _ _ (by rw [bv_length]; exact h)]
  simp [bv, List.map_set]
theorem bv_cell (m : List UInt8) (rest : List Value) (i : Nat) (h : i < m.length) : (bv m ++ rest)[i]? = some (.int .u8 ((m.getD i 0).toNat : Int)) := by
  rw [List.getElem?_append_left (by rw [bv_length]; exact h)]
  simp [bv, h]

set_option maxHeartbeats 2000000 in
theorem Reverse_any (l : List UInt8) (rest : List Value) (g n c : Nat) (w : World) (hrow : Row w g 5 (bv l ++ rest)) (hn : l.length = n) (hm : n ≤ maxLen) (hn0 : 0 < n) :
    Calls Try.prog 33 #[.slice (some ⟨g, 0, none⟩) n c] w fun e w' => e = .returned (.tuple #[]) ∧ Row w' g 5 (bv l.reverse ++ rest) ∧ w.grownBy w' (some g) := by
  unfold maxLen at hm
  have HN := Lib.hid hn
  have H0 : Hid (Row w g 5 (bv l ++ rest)) := hrow
  clear hn hrow
  go_enter Try.func33, Try.ntmps33
  go_wp2
  have HI0 := Lib.hid (show ∃ m, RevI l 0 m ∧ Row w g 5 (bv m ++ rest) ∧ w.grownBy w (some g) from ⟨l, RevI.start l, H0.out, World.grownBy.refl _ _⟩)
  clear H0
  go_loopw [2, 3] (fun i j wr => ∃ k : Nat, k + k ≤ n ∧ i = .int .i64 k ∧ j = .int .i64 ((n : Int) - 1 - k) ∧ Hid (∃ m, RevI l k m ∧ Row wr g 5 (bv m ++ rest) ∧ w.grownBy wr (some g))) (fun i _ _ => n - (intOf i).toNat)
  case atStart => exact ⟨0, by omega, by go_num, by go_num, HI0⟩
  rename World => wr
  obtain ⟨k, hk, rfl, rfl, HI⟩ := hrel
  clear HI0
  by_cases hlt : (k : Int) < (n : Int) - 1 - (k : Int)
  case neg =>
    obtain ⟨m, hm1, hrow, hgr⟩ := HI.out
    have hmr := hm1.done (by have := HN.out; omega)
    have HE : Hid (Row wr g 5 (bv l.reverse ++ rest) ∧ w.grownBy wr (some g)) := ⟨hmr ▸ hrow, hgr⟩
    clear hm1 hrow hgr hmr HI
    go_wp2
    go_end0
    exact ⟨rfl, HE.out.1, HE.out.2⟩
  case pos =>
    obtain ⟨m, hm1, hrow, hgr⟩ := HI.out
    obtain ⟨j, hj⟩ : ∃ j, j = n - 1 - k := ⟨_, rfl⟩
    have hji : (n : Int) - 1 - (k : Int) = (j : Int) := by omega
    have hkj : k < j := by omega
    have hjn : j < n := by omega
    have hlm : m.length = n := by rw [hm1.1, HN.out]
    have hnext : RevI l (k + 1) ((m.set k (m.getD j 0)).set j (m.getD k 0)) := by
      have := hm1.step (by rw [HN.out]; omega)
      rw [HN.out, ← hj] at this
      exact this
    have HX := Lib.hid hnext
    have hck := (hrow.cell k).trans (bv_cell m rest k (by omega))
    have hcj := (hrow.cell j).trans (bv_cell m rest j (by omega))
    have hfk := hrow.frozen k
    have hfj := hrow.frozen j
    have hrow1 : Row ((wr.setCell ⟨g, k, none⟩ (.int .u8 ((m.getD j 0).toNat : Int))).setCell ⟨g, j, none⟩ (.int .u8 ((m.getD k 0).toNat : Int))) g 5 (bv ((m.set k (m.getD j 0)).set j (m.getD k 0)) ++ rest) := by
      have := (hrow.store k (.int .u8 ((m.getD j 0).toNat : Int))).store j (.int .u8 ((m.getD k 0).toNat : Int))
      rw [bv_set_any _ _ _ _ (by omega), bv_set_any _ _ _ _ (by simp; omega)] at this
      exact this
    have hkn : k < n := by omega
    have hg1 : w.grownBy ((wr.setCell ⟨g, k, none⟩ (.int .u8 ((m.getD j 0).toNat : Int))).setCell ⟨g, j, none⟩ (.int .u8 ((m.getD k 0).toNat : Int))) (some g) := grown_trans (grown_trans hgr (grown_store _ _ _ _)) (grown_store _ _ _ _)
    have HR1 := Lib.hid hrow1
    have HG1 := Lib.hid hg1
    have HJ := Lib.hid hj
    clear hrow1 hg1 hrow hgr hm1 hnext HI hj
    generalize (m.set k (m.getD j 0)).set j (m.getD k 0) = m2 at HX HR1
    generalize m.getD k 0 = x at *
    generalize m.getD j 0 = y at *
    rw [hji] at hlt ⊢
    clear hji
    go_wp2_with fail
    refine wp_region_held_drew (S := fun _ => True) (by kernel_rfl) trivial (fun hHeld => ?_)
    refine wpAnyH_take (i := 0) (oi := ⟨some 14, _, _, _, _, _⟩) (v := ?vv1) rfl (by kernel_rfl) (by kernel_rfl) (by kernel_rfl) (fun _ _ _ h => h) (Or.inl ⟨by rfl, ?yv1⟩) trivial ?rv1
    case yv1 =>
      rintro w' hSw
      go_simp
      try with_reducible rfl
    try simp only [Act.put, List.setIfInBounds_toArray, List.set_cons_zero, List.set_cons_succ]
    refine wpAnyH_take (i := 1) (oi := ⟨some 15, _, _, _, _, _⟩) (v := ?vv2) rfl (by kernel_rfl) (by kernel_rfl) (by kernel_rfl) (fun _ _ _ h => h) (Or.inl ⟨by rfl, ?yv2⟩) trivial ?rv2
    case yv2 =>
      rintro w' hSw
      go_simp
      try with_reducible rfl
    try simp only [Act.put, List.setIfInBounds_toArray, List.set_cons_zero, List.set_cons_succ]
    refine wpAnyH_take (i := 2) (oi := ⟨some 16, _, _, _, _, _⟩) (v := ?vv3) rfl (by kernel_rfl) (by kernel_rfl) (by kernel_rfl) (fun _ _ _ h => h) (Or.inl ⟨by rfl, ?yv3⟩) trivial ?rv3
    case yv3 =>
      rintro w' hSw
      go_simp
      try with_reducible rfl
    try simp only [Act.put, List.setIfInBounds_toArray, List.set_cons_zero, List.set_cons_succ]
    refine wpAnyH_take (i := 3) (oi := ⟨some 17, _, _, _, _, _⟩) (v := ?vv4) rfl (by kernel_rfl) (by kernel_rfl) (by kernel_rfl) (fun _ _ _ h => h) (Or.inl ⟨by rfl, ?yv4⟩) trivial ?rv4
    case yv4 =>
      rintro w' hSw
      go_simp
      try with_reducible rfl
    try simp only [Act.put, List.setIfInBounds_toArray, List.set_cons_zero, List.set_cons_succ]
    refine wpAnyH_take (i := 4) (oi := ⟨some 18, _, _, _, _, _⟩) (v := ?vv5) rfl (by kernel_rfl) (by kernel_rfl) (by kernel_rfl) (fun _ _ _ h => h) (Or.inl ⟨by rfl, ?yv5⟩) trivial ?rv5
    case yv5 =>
      rintro w' hSw
      go_simp
      try with_reducible rfl
    try simp only [Act.put, List.setIfInBounds_toArray, List.set_cons_zero, List.set_cons_succ]
    refine wpAnyH_take (i := 5) (oi := ⟨some 19, _, _, _, _, _⟩) (v := ?vv6) rfl (by kernel_rfl) (by kernel_rfl) (by kernel_rfl) (fun _ _ _ h => h) (Or.inl ⟨by rfl, ?yv6⟩) trivial ?rv6
    case yv6 =>
      rintro w' hSw
      go_simp
      try with_reducible rfl
    try simp only [Act.put, List.setIfInBounds_toArray, List.set_cons_zero, List.set_cons_succ]
    refine wpAnyH_take (i := 6) (oi := ⟨some 20, _, _, _, _, _⟩) (v := ?vv7) rfl (by kernel_rfl) (by kernel_rfl) (by kernel_rfl) (fun _ _ _ h => h) (Or.inl ⟨by rfl, ?yv7⟩) trivial ?rv7
    case yv7 =>
      rintro w' hSw
      go_simp
      try with_reducible rfl
    try simp only [Act.put, List.setIfInBounds_toArray, List.set_cons_zero, List.set_cons_succ]
    refine wpAnyH_take (i := 8) (oi := ⟨some 22, _, _, _, _, _⟩) (v := ?vv8) rfl (by kernel_rfl) (by kernel_rfl) (by kernel_rfl) (fun _ _ _ h => h) (Or.inl ⟨by rfl, ?yv8⟩) trivial ?rv8
    case yv8 =>
      rintro w' hSw
      go_simp
      try with_reducible rfl
    try simp only [Act.put, List.setIfInBounds_toArray, List.set_cons_zero, List.set_cons_succ]
    refine wpAnyH_take (i := 9) (oi := ⟨some 23, _, _, _, _, _⟩) (v := ?vv9) rfl (by kernel_rfl) (by kernel_rfl) (by kernel_rfl) (fun _ _ _ h => h) (Or.inl ⟨by rfl, ?yv9⟩) trivial ?rv9
    case yv9 =>
      rintro w' hSw
      go_simp
      try with_reducible rfl
    try simp only [Act.put, List.setIfInBounds_toArray, List.set_cons_zero, List.set_cons_succ]
    refine wpAnyH_take (i := 10) (oi := ⟨some 24, _, _, _, _, _⟩) (v := ?vv10) rfl (by kernel_rfl) (by kernel_rfl) (by kernel_rfl) (fun _ _ _ h => h) (Or.inl ⟨by rfl, ?yv10⟩) trivial ?rv10
    case yv10 =>
      rintro w' hSw
      go_simp
      try with_reducible rfl
    try simp only [Act.put, List.setIfInBounds_toArray, List.set_cons_zero, List.set_cons_succ]
    refine wpAnyH_ready (rs := [7, 11]) (by kernel_rfl) (by simp) ?_
    refine (AllReadyH.cons rfl (fun K hK => ?_) (AllReadyH.cons rfl (fun K hK => ?_) AllReadyH.nil))
    · rw [if_pos (by rfl)]
      go_simp
      refine hK _ _ trivial (fun _ => ?_)
      clear hK K
      try simp only [Act.put, List.setIfInBounds_toArray, List.set_cons_zero, List.set_cons_succ]
      refine wpAnyH_ready (rs := [11]) (by kernel_rfl) (by simp) ?_
      refine (AllReadyH.cons rfl (fun K hK => ?_) AllReadyH.nil)
      rw [if_pos (by rfl)]
      go_simp
      refine hK _ _ trivial (fun _ => ?_)
      clear hK K
      try simp only [Act.put, List.setIfInBounds_toArray, List.set_cons_zero, List.set_cons_succ]
      refine wpAnyH_take (i := 12) (oi := ⟨some 26, _, _, _, _, _⟩) (v := ?vv13) rfl (by kernel_rfl) (by kernel_rfl) (by kernel_rfl) (fun _ _ _ h => h) (Or.inl ⟨by rfl, ?yv13⟩) trivial ?rv13
      case yv13 =>
        rintro w' hSw
        go_simp
        try with_reducible rfl
      try simp only [Act.put, List.setIfInBounds_toArray, List.set_cons_zero, List.set_cons_succ]
      refine wpAnyH_ready (rs := [13]) (by kernel_rfl) (by simp) ?_
      refine (AllReadyH.cons rfl (fun K hK => ?_) AllReadyH.nil)
      rw [if_pos (by rfl)]
      go_simp
      refine hK _ _ trivial (fun _ => ?_)
      clear hK K
      try simp only [Act.put, List.setIfInBounds_toArray, List.set_cons_zero, List.set_cons_succ]
      refine wpAnyH_take (i := 14) (oi := ⟨some 27, _, _, _, _, _⟩) (v := ?vv15) rfl (by kernel_rfl) (by kernel_rfl) (by kernel_rfl) (fun _ _ _ h => h) (Or.inl ⟨by rfl, ?yv15⟩) trivial ?rv15
      case yv15 =>
        rintro w' hSw
        go_simp
        try with_reducible rfl
      try simp only [Act.put, List.setIfInBounds_toArray, List.set_cons_zero, List.set_cons_succ]
      refine wpAnyH_ready (rs := [15]) (by kernel_rfl) (by simp) ?_
      refine (AllReadyH.cons rfl (fun K hK => ?_) AllReadyH.nil)
      rw [if_pos (by rfl)]
      go_simp
      refine hK _ _ trivial (fun _ => ?_)
      clear hK K
      try simp only [Act.put, List.setIfInBounds_toArray, List.set_cons_zero, List.set_cons_succ]
      refine wpAnyH_done (by kernel_rfl) ?_ _
      generalize (wr.setCell ⟨g, k, none⟩ (.int .u8 (y.toNat : Int))).setCell ⟨g, j, none⟩ (.int .u8 (x.toNat : Int)) = w2 at HR1 HG1 ⊢
      have HR3 := Lib.hid HR1.out.drew
      have HG3 : Hid (w.grownBy w2.drew (some g)) := ⟨HG1.out.os, HG1.out.tape, HG1.out.output, HG1.out.size, HG1.out.block⟩
      clear HR1 HG1 hck hcj hfk hfj hHeld
      generalize w2.drew = w3 at HR3 HG3 ⊢
      have HF := Lib.hid (show ∃ m, RevI l (k + 1) m ∧ Row w3 g 5 (bv m ++ rest) ∧ w.grownBy w3 (some g) from ⟨m2, HX.out, HR3.out, HG3.out⟩)
      clear HX HR3 HG3
      go_wp2
      go_round
      case rel => exact ⟨k + 1, by have := HJ.out; omega, by go_num, (by have := HJ.out; congr 1; omega), HF⟩
      case measure => simp [intOf]; omega
    · rw [if_pos (by rfl)]
      go_simp
      refine hK _ _ trivial (fun _ => ?_)
      clear hK K
      try simp only [Act.put, List.setIfInBounds_toArray, List.set_cons_zero, List.set_cons_succ]
      refine wpAnyH_ready (rs := [7]) (by kernel_rfl) (by simp) ?_
      refine (AllReadyH.cons rfl (fun K hK => ?_) AllReadyH.nil)
      rw [if_pos (by rfl)]
      go_simp
      refine hK _ _ trivial (fun _ => ?_)
      clear hK K
      try simp only [Act.put, List.setIfInBounds_toArray, List.set_cons_zero, List.set_cons_succ]
      refine wpAnyH_take (i := 12) (oi := ⟨some 26, _, _, _, _, _⟩) (v := ?vv19) rfl (by kernel_rfl) (by kernel_rfl) (by kernel_rfl) (fun _ _ _ h => h) (Or.inl ⟨by rfl, ?yv19⟩) trivial ?rv19
      case yv19 =>
        rintro w' hSw
        go_simp
        try with_reducible rfl
      try simp only [Act.put, List.setIfInBounds_toArray, List.set_cons_zero, List.set_cons_succ]
      refine wpAnyH_ready (rs := [13]) (by kernel_rfl) (by simp) ?_
      refine (AllReadyH.cons rfl (fun K hK => ?_) AllReadyH.nil)
      rw [if_pos (by rfl)]
      go_simp
      refine hK _ _ trivial (fun _ => ?_)
      clear hK K
      try simp only [Act.put, List.setIfInBounds_toArray, List.set_cons_zero, List.set_cons_succ]
      refine wpAnyH_take (i := 14) (oi := ⟨some 27, _, _, _, _, _⟩) (v := ?vv21) rfl (by kernel_rfl) (by kernel_rfl) (by kernel_rfl) (fun _ _ _ h => h) (Or.inl ⟨by rfl, ?yv21⟩) trivial ?rv21
      case yv21 =>
        rintro w' hSw
        go_simp
        try with_reducible rfl
      try simp only [Act.put, List.setIfInBounds_toArray, List.set_cons_zero, List.set_cons_succ]
      refine wpAnyH_ready (rs := [15]) (by kernel_rfl) (by simp) ?_
      refine (AllReadyH.cons rfl (fun K hK => ?_) AllReadyH.nil)
      rw [if_pos (by rfl)]
      go_simp
      refine hK _ _ trivial (fun _ => ?_)
      clear hK K
      try simp only [Act.put, List.setIfInBounds_toArray, List.set_cons_zero, List.set_cons_succ]
      refine wpAnyH_done (by kernel_rfl) ?_ _
      generalize (wr.setCell ⟨g, k, none⟩ (.int .u8 (y.toNat : Int))).setCell ⟨g, j, none⟩ (.int .u8 (x.toNat : Int)) = w2 at HR1 HG1 ⊢
      have HR3 := Lib.hid HR1.out.drew
      have HG3 : Hid (w.grownBy w2.drew (some g)) := ⟨HG1.out.os, HG1.out.tape, HG1.out.output, HG1.out.size, HG1.out.block⟩
      clear HR1 HG1 hck hcj hfk hfj hHeld
      generalize w2.drew = w3 at HR3 HG3 ⊢
      have HF := Lib.hid (show ∃ m, RevI l (k + 1) m ∧ Row w3 g 5 (bv m ++ rest) ∧ w.grownBy w3 (some g) from ⟨m2, HX.out, HR3.out, HG3.out⟩)
      clear HX HR3 HG3
      go_wp2
      go_round
      case rel => exact ⟨k + 1, by have := HJ.out; omega, by go_num, (by have := HJ.out; congr 1; omega), HF⟩
      case measure => simp [intOf]; omega

end Go.Proofs.Ytleeanbfhfklmaa.Wi
