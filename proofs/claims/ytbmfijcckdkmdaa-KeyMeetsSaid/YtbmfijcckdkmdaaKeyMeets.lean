/-
  KeyMeets: to meet does not hang on the order; what meets a box meets each that covers it; a box meets what it covers. No condition.
-/
import Derived.Test.YtbmfijcckdkmdaaKy13
import Derived.Test.YtbmfijcckdkmdaaWiO
import Derived.Deep.RegionHeld
import Derived.Deep.Cut
import Derived.WalkLawsBesides
namespace Go.Proofs.Ytbmfijcckdkmdaa.KeyMeets
set_option maxRecDepth 100000
open Go.ChangeShapes Go.WideShapes Go.ChangeAt Go.RowKit Go.Proofs.Ytbmfijcckdkmdaa.Wd Go.Proofs.Ytbmfijcckdkmdaa.Wi Go.Proofs.Ytbmfijcckdkmdaa.Ky

theorem own : ownKnob Try.prog.godebug = none := by kernel_rfl
theorem laidOut : laidOutB Try.prog = true := by kernel_rfl

theorem max_min (a b c d : Int) : maxI a b ≤ minI c d ↔ (a ≤ c ∧ a ≤ d) ∧ (b ≤ c ∧ b ≤ d) := by
  unfold maxI minI
  split <;> split <;> omega
theorem meet_iff (x0 x1 y0 y1 u0 u1 v0 v1 : Int) : meetB x0 x1 y0 y1 u0 u1 v0 v1 = true ↔ ((x0 ≤ x1 ∧ x0 ≤ u1) ∧ (u0 ≤ x1 ∧ u0 ≤ u1)) ∧ ((y0 ≤ y1 ∧ y0 ≤ v1) ∧ (v0 ≤ y1 ∧ v0 ≤ v1)) := by
  unfold meetB boxB
  rw [Bool.and_eq_true, decide_eq_true_eq, decide_eq_true_eq, max_min, max_min]
theorem cover_iff (x0 x1 y0 y1 u0 u1 v0 v1 : Int) : coverB x0 x1 y0 y1 u0 u1 v0 v1 = true ↔ ((x0 ≤ x1 ∧ y0 ≤ y1) ∧ (u0 ≤ u1 ∧ v0 ≤ v1)) ∧ (x0 ≤ u0 ∧ u1 ≤ x1 ∧ y0 ≤ v0 ∧ v1 ≤ y1) := by
  unfold coverB boxB
  simp only [Bool.and_eq_true, decide_eq_true_eq]
theorem meet_sym (x0 x1 y0 y1 u0 u1 v0 v1 : Int) : meetB u0 u1 v0 v1 x0 x1 y0 y1 = meetB x0 x1 y0 y1 u0 u1 v0 v1 := by
  rw [Bool.eq_iff_iff, meet_iff, meet_iff]
  omega
theorem meet_cover {x0 x1 y0 y1 u0 u1 v0 v1 z0 z1 t0 t1 : Int} (h1 : meetB x0 x1 y0 y1 u0 u1 v0 v1 = true) (h2 : coverB z0 z1 t0 t1 x0 x1 y0 y1 = true) : meetB z0 z1 t0 t1 u0 u1 v0 v1 = true := by
  rw [meet_iff] at *
  rw [cover_iff] at h2
  omega
theorem cover_meet {x0 x1 y0 y1 u0 u1 v0 v1 : Int} (h : coverB x0 x1 y0 y1 u0 u1 v0 v1 = true) : meetB x0 x1 y0 y1 u0 u1 v0 v1 = true := by
  rw [meet_iff]
  rw [cover_iff] at h
  omega
theorem cover_both {x0 x1 y0 y1 u0 u1 v0 v1 : Int} (h : coverB x0 x1 y0 y1 u0 u1 v0 v1 = true) (h2 : coverB u0 u1 v0 v1 x0 x1 y0 y1 = true) : x0 = u0 ∧ x1 = u1 ∧ y0 = v0 ∧ y1 = v1 := by
  rw [cover_iff] at *
  omega

set_option maxHeartbeats 4000000 in
theorem walk_0000 (x0 x1 y0 y1 u0 u1 v0 v1 z0 z1 t0 t1 : Int) (w : World) (hm : meetB x0 x1 y0 y1 u0 u1 v0 v1 = false) (_hc : coverB z0 z1 t0 t1 x0 x1 y0 y1 = false) (hp : coverB x0 x1 y0 y1 u0 u1 v0 v1 = false)  :
    Calls Try.prog 6 #[KV x0 x1 y0 y1, KV u0 u1 v0 v1, KV z0 z1 t0 t1] w fun e w' => e = .returned (.bool true) ∧ Below w.heap.size w w' := by
  have HW := Lib.hid wakes_any
  have HM := Lib.hid (Meets_any x0 x1 y0 y1 u0 u1 v0 v1)
  have HM2 := Lib.hid (Meets_any u0 u1 v0 v1 x0 x1 y0 y1)
  have HCC := Lib.hid (Covers_any z0 z1 t0 t1 x0 x1 y0 y1)
  have HP := Lib.hid (Covers_any x0 x1 y0 y1 u0 u1 v0 v1)
  rw [meet_sym, hm] at HM2
  rw [hm] at HM
  rw [_hc] at HCC
  rw [hp] at HP
  clear hm _hc hp
  go_enter Try.func6, Try.ntmps6
  go_upto_region 1 with fail
  have RA_1 := Lib.hid (((row_last w (w.heap.size) 23 [.int .i64 x0, .int .i64 x1, .int .i64 y0, .int .i64 y1] (by simp)).alloc (.cells #[.int .i64 u0, .int .i64 u1, .int .i64 v0, .int .i64 v1] 23)).alloc (.cells #[.int .i64 z0, .int .i64 z1, .int .i64 t0, .int .i64 t1] 23))
  have RB_1 := Lib.hid ((row_last (w.alloc (.cells #[.int .i64 x0, .int .i64 x1, .int .i64 y0, .int .i64 y1] 23)) (w.heap.size + 1) 23 [.int .i64 u0, .int .i64 u1, .int .i64 v0, .int .i64 v1] (by simp)).alloc (.cells #[.int .i64 z0, .int .i64 z1, .int .i64 t0, .int .i64 t1] 23))
  have RC_1 := Lib.hid (row_last ((w.alloc (.cells #[.int .i64 x0, .int .i64 x1, .int .i64 y0, .int .i64 y1] 23)).alloc (.cells #[.int .i64 u0, .int .i64 u1, .int .i64 v0, .int .i64 v1] 23)) (w.heap.size + 1 + 1) 23 [.int .i64 z0, .int .i64 z1, .int .i64 t0, .int .i64 t1] (by simp))
  have B_1 := Lib.hid ((((Below.refl w.heap.size w).alloc (Nat.le_refl _) (.cells #[.int .i64 x0, .int .i64 x1, .int .i64 y0, .int .i64 y1] 23)).alloc (by have := Nat.le_refl w.heap.size; simp <;> omega) (.cells #[.int .i64 u0, .int .i64 u1, .int .i64 v0, .int .i64 v1] 23)).alloc (by have := Nat.le_refl w.heap.size; simp <;> omega) (.cells #[.int .i64 z0, .int .i64 z1, .int .i64 t0, .int .i64 t1] 23))
  generalize (((w.alloc (.cells #[.int .i64 x0, .int .i64 x1, .int .i64 y0, .int .i64 y1] 23)).alloc (.cells #[.int .i64 u0, .int .i64 u1, .int .i64 v0, .int .i64 v1] 23)).alloc (.cells #[.int .i64 z0, .int .i64 z1, .int .i64 t0, .int .i64 t1] 23)) = V1 at RA_1 RB_1 RC_1 B_1 ⊢
  go_wp2_with fail
  refine (HW.out _).mono ?_
  rintro e W2 ⟨rfl, hb⟩
  have RA_3 := Lib.hid (RA_1.out.below hb RA_1.out.lt)
  have RB_3 := Lib.hid (RB_1.out.below hb RB_1.out.lt)
  have RC_3 := Lib.hid (RC_1.out.below hb RC_1.out.lt)
  have B_3 := Lib.hid (B_1.out.trans (hb.mono B_1.out.size))
  clear hb RA_1 RB_1 RC_1 B_1
  go_wp2_with fail
  refine wp_region_held_drew (S := fun w' => Row w' (w.heap.size) 23 [.int .i64 x0, .int .i64 x1, .int .i64 y0, .int .i64 y1] ∧ Row w' (w.heap.size + 1) 23 [.int .i64 u0, .int .i64 u1, .int .i64 v0, .int .i64 v1]) (by kernel_rfl) ⟨RA_3.out.drew, RB_3.out.drew⟩ (fun hHeld => ?_)
  clear hHeld
  have RA_4 := Lib.hid RA_3.out.drew
  have RB_4 := Lib.hid RB_3.out.drew
  have RC_4 := Lib.hid RC_3.out.drew
  have B_4 := Lib.hid B_3.out.drew
  clear RA_3 RB_3 RC_3 B_3
  generalize W2.drew = D4 at RA_4 RB_4 RC_4 B_4 ⊢
  refine wpAnyH_take (i := 0) (oi := ⟨some 9, _, _, _, _, _⟩) (v := ?vr4_1) rfl (by kernel_rfl) (by kernel_rfl) (by kernel_rfl) (fun _ _ _ h => h) (Or.inl ⟨by rfl, ?yr4_1⟩) ⟨RA_4.out, RB_4.out⟩ ?rr4_1
  case yr4_1 =>
    rintro w' hSw
    have k0 := (show Row w' _ _ _ from hSw.1).cell 0
    have k1 := (show Row w' _ _ _ from hSw.1).cell 1
    have k2 := (show Row w' _ _ _ from hSw.1).cell 2
    have k3 := (show Row w' _ _ _ from hSw.1).cell 3
    simp only [List.getElem?_cons_zero, List.getElem?_cons_succ] at k0 k1 k2 k3
    go_simp
    try with_reducible rfl
  try simp only [Act.put, List.setIfInBounds_toArray, List.set_cons_zero, List.set_cons_succ]
  refine wpAnyH_take (i := 1) (oi := ⟨some 10, _, _, _, _, _⟩) (v := ?vr4_2) rfl (by kernel_rfl) (by kernel_rfl) (by kernel_rfl) (fun _ _ _ h => h) (Or.inl ⟨by rfl, ?yr4_2⟩) ⟨RA_4.out, RB_4.out⟩ ?rr4_2
  case yr4_2 =>
    rintro w' hSw
    have k0 := (show Row w' _ _ _ from hSw.2).cell 0
    have k1 := (show Row w' _ _ _ from hSw.2).cell 1
    have k2 := (show Row w' _ _ _ from hSw.2).cell 2
    have k3 := (show Row w' _ _ _ from hSw.2).cell 3
    simp only [List.getElem?_cons_zero, List.getElem?_cons_succ] at k0 k1 k2 k3
    go_simp
    try with_reducible rfl
  try simp only [Act.put, List.setIfInBounds_toArray, List.set_cons_zero, List.set_cons_succ]
  refine wpAnyH_take (i := 3) (oi := ⟨some 12, _, _, _, _, _⟩) (v := ?vr4_3) rfl (by kernel_rfl) (by kernel_rfl) (by kernel_rfl) (fun _ _ _ h => h) (Or.inl ⟨by rfl, ?yr4_3⟩) ⟨RA_4.out, RB_4.out⟩ ?rr4_3
  case yr4_3 =>
    rintro w' hSw
    have k0 := (show Row w' _ _ _ from hSw.2).cell 0
    have k1 := (show Row w' _ _ _ from hSw.2).cell 1
    have k2 := (show Row w' _ _ _ from hSw.2).cell 2
    have k3 := (show Row w' _ _ _ from hSw.2).cell 3
    simp only [List.getElem?_cons_zero, List.getElem?_cons_succ] at k0 k1 k2 k3
    go_simp
    try with_reducible rfl
  try simp only [Act.put, List.setIfInBounds_toArray, List.set_cons_zero, List.set_cons_succ]
  refine wpAnyH_take (i := 4) (oi := ⟨some 13, _, _, _, _, _⟩) (v := ?vr4_4) rfl (by kernel_rfl) (by kernel_rfl) (by kernel_rfl) (fun _ _ _ h => h) (Or.inl ⟨by rfl, ?yr4_4⟩) ⟨RA_4.out, RB_4.out⟩ ?rr4_4
  case yr4_4 =>
    rintro w' hSw
    have k0 := (show Row w' _ _ _ from hSw.1).cell 0
    have k1 := (show Row w' _ _ _ from hSw.1).cell 1
    have k2 := (show Row w' _ _ _ from hSw.1).cell 2
    have k3 := (show Row w' _ _ _ from hSw.1).cell 3
    simp only [List.getElem?_cons_zero, List.getElem?_cons_succ] at k0 k1 k2 k3
    go_simp
    try with_reducible rfl
  try simp only [Act.put, List.setIfInBounds_toArray, List.set_cons_zero, List.set_cons_succ]
  refine wpAnyH_ready (rs := [2]) (by kernel_rfl) (by simp) ?_
  refine (AllReadyH.cons rfl (fun K hK => ?_) AllReadyH.nil)
  go_simp
  refine (HM.out _).mono ?_
  rintro e Xr4_5 ⟨rfl, hb⟩
  have RA_r4_5_5 := Lib.hid (RA_4.out.below hb RA_4.out.lt)
  have RB_r4_5_5 := Lib.hid (RB_4.out.below hb RB_4.out.lt)
  have RC_r4_5_5 := Lib.hid (RC_4.out.below hb RC_4.out.lt)
  have B_r4_5_5 := Lib.hid (B_4.out.trans (hb.mono B_4.out.size))
  clear hb RA_4 RB_4 RC_4 B_4
  refine hK _ _ ⟨RA_r4_5_5.out, RB_r4_5_5.out⟩ (fun _ => ?_)
  clear hK K
  try simp only [Act.put, List.setIfInBounds_toArray, List.set_cons_zero, List.set_cons_succ]
  refine wpAnyH_ready (rs := [5]) (by kernel_rfl) (by simp) ?_
  refine (AllReadyH.cons rfl (fun K hK => ?_) AllReadyH.nil)
  go_simp
  refine (HM2.out _).mono ?_
  rintro e Xr4_6 ⟨rfl, hb⟩
  have RA_r4_6_6 := Lib.hid (RA_r4_5_5.out.below hb RA_r4_5_5.out.lt)
  have RB_r4_6_6 := Lib.hid (RB_r4_5_5.out.below hb RB_r4_5_5.out.lt)
  have RC_r4_6_6 := Lib.hid (RC_r4_5_5.out.below hb RC_r4_5_5.out.lt)
  have B_r4_6_6 := Lib.hid (B_r4_5_5.out.trans (hb.mono B_r4_5_5.out.size))
  clear hb RA_r4_5_5 RB_r4_5_5 RC_r4_5_5 B_r4_5_5
  refine hK _ _ ⟨RA_r4_6_6.out, RB_r4_6_6.out⟩ (fun _ => ?_)
  clear hK K
  try simp only [Act.put, List.setIfInBounds_toArray, List.set_cons_zero, List.set_cons_succ]
  refine wpAnyH_take (i := 6) (oi := ⟨some 15, _, _, _, _, _⟩) (v := ?vr4_7) rfl (by kernel_rfl) (by kernel_rfl) (by kernel_rfl) (fun _ _ _ h => h) (Or.inl ⟨by rfl, ?yr4_7⟩) ⟨RA_r4_6_6.out, RB_r4_6_6.out⟩ ?rr4_7
  case yr4_7 =>
    rintro w' hSw
    go_simp
    try with_reducible rfl
  try simp only [Act.put, List.setIfInBounds_toArray, List.set_cons_zero, List.set_cons_succ]
  refine wpAnyH_done (by kernel_rfl) ?_ _
  have cr4_6_8_0 := RA_r4_6_6.out.cell 0
  have cr4_6_8_1 := RA_r4_6_6.out.cell 1
  have cr4_6_8_2 := RA_r4_6_6.out.cell 2
  have cr4_6_8_3 := RA_r4_6_6.out.cell 3
  simp only [List.getElem?_cons_zero, List.getElem?_cons_succ] at cr4_6_8_0 cr4_6_8_1 cr4_6_8_2 cr4_6_8_3
  have cr4_6_9_0 := RB_r4_6_6.out.cell 0
  have cr4_6_9_1 := RB_r4_6_6.out.cell 1
  have cr4_6_9_2 := RB_r4_6_6.out.cell 2
  have cr4_6_9_3 := RB_r4_6_6.out.cell 3
  simp only [List.getElem?_cons_zero, List.getElem?_cons_succ] at cr4_6_9_0 cr4_6_9_1 cr4_6_9_2 cr4_6_9_3
  go_wp2_with fail
  refine (HM.out _).mono ?_
  rintro e Wr4_6_7 ⟨rfl, hb⟩
  clear cr4_6_8_0 cr4_6_8_1 cr4_6_8_2 cr4_6_8_3 cr4_6_9_0 cr4_6_9_1 cr4_6_9_2 cr4_6_9_3
  have RA_r4_6_10 := Lib.hid (RA_r4_6_6.out.below hb RA_r4_6_6.out.lt)
  have RB_r4_6_10 := Lib.hid (RB_r4_6_6.out.below hb RB_r4_6_6.out.lt)
  have RC_r4_6_10 := Lib.hid (RC_r4_6_6.out.below hb RC_r4_6_6.out.lt)
  have B_r4_6_10 := Lib.hid (B_r4_6_6.out.trans (hb.mono B_r4_6_6.out.size))
  clear hb RA_r4_6_6 RB_r4_6_6 RC_r4_6_6 B_r4_6_6
  have cr4_6_12_0 := RA_r4_6_10.out.cell 0
  have cr4_6_12_1 := RA_r4_6_10.out.cell 1
  have cr4_6_12_2 := RA_r4_6_10.out.cell 2
  have cr4_6_12_3 := RA_r4_6_10.out.cell 3
  simp only [List.getElem?_cons_zero, List.getElem?_cons_succ] at cr4_6_12_0 cr4_6_12_1 cr4_6_12_2 cr4_6_12_3
  have cr4_6_13_0 := RB_r4_6_10.out.cell 0
  have cr4_6_13_1 := RB_r4_6_10.out.cell 1
  have cr4_6_13_2 := RB_r4_6_10.out.cell 2
  have cr4_6_13_3 := RB_r4_6_10.out.cell 3
  simp only [List.getElem?_cons_zero, List.getElem?_cons_succ] at cr4_6_13_0 cr4_6_13_1 cr4_6_13_2 cr4_6_13_3
  go_wp2_with fail
  refine (HP.out _).mono ?_
  rintro e Wr4_6_11 ⟨rfl, hb⟩
  clear cr4_6_12_0 cr4_6_12_1 cr4_6_12_2 cr4_6_12_3 cr4_6_13_0 cr4_6_13_1 cr4_6_13_2 cr4_6_13_3
  have RA_r4_6_14 := Lib.hid (RA_r4_6_10.out.below hb RA_r4_6_10.out.lt)
  have RB_r4_6_14 := Lib.hid (RB_r4_6_10.out.below hb RB_r4_6_10.out.lt)
  have RC_r4_6_14 := Lib.hid (RC_r4_6_10.out.below hb RC_r4_6_10.out.lt)
  have B_r4_6_14 := Lib.hid (B_r4_6_10.out.trans (hb.mono B_r4_6_10.out.size))
  clear hb RA_r4_6_10 RB_r4_6_10 RC_r4_6_10 B_r4_6_10
  have cr4_6_15_0 := RA_r4_6_14.out.cell 0
  have cr4_6_15_1 := RA_r4_6_14.out.cell 1
  have cr4_6_15_2 := RA_r4_6_14.out.cell 2
  have cr4_6_15_3 := RA_r4_6_14.out.cell 3
  simp only [List.getElem?_cons_zero, List.getElem?_cons_succ] at cr4_6_15_0 cr4_6_15_1 cr4_6_15_2 cr4_6_15_3
  have cr4_6_16_0 := RB_r4_6_14.out.cell 0
  have cr4_6_16_1 := RB_r4_6_14.out.cell 1
  have cr4_6_16_2 := RB_r4_6_14.out.cell 2
  have cr4_6_16_3 := RB_r4_6_14.out.cell 3
  simp only [List.getElem?_cons_zero, List.getElem?_cons_succ] at cr4_6_16_0 cr4_6_16_1 cr4_6_16_2 cr4_6_16_3
  go_wp2
  go_ret
  exact ⟨rfl, B_r4_6_14.out⟩

set_option maxHeartbeats 4000000 in
theorem walk_0100 (x0 x1 y0 y1 u0 u1 v0 v1 z0 z1 t0 t1 : Int) (w : World) (hm : meetB x0 x1 y0 y1 u0 u1 v0 v1 = false) (_hc : coverB z0 z1 t0 t1 x0 x1 y0 y1 = true) (hp : coverB x0 x1 y0 y1 u0 u1 v0 v1 = false)  :
    Calls Try.prog 6 #[KV x0 x1 y0 y1, KV u0 u1 v0 v1, KV z0 z1 t0 t1] w fun e w' => e = .returned (.bool true) ∧ Below w.heap.size w w' := by
  have HW := Lib.hid wakes_any
  have HM := Lib.hid (Meets_any x0 x1 y0 y1 u0 u1 v0 v1)
  have HM2 := Lib.hid (Meets_any u0 u1 v0 v1 x0 x1 y0 y1)
  have HCC := Lib.hid (Covers_any z0 z1 t0 t1 x0 x1 y0 y1)
  have HP := Lib.hid (Covers_any x0 x1 y0 y1 u0 u1 v0 v1)
  rw [meet_sym, hm] at HM2
  rw [hm] at HM
  rw [_hc] at HCC
  rw [hp] at HP
  clear hm _hc hp
  go_enter Try.func6, Try.ntmps6
  go_upto_region 1 with fail
  have RA_1 := Lib.hid (((row_last w (w.heap.size) 23 [.int .i64 x0, .int .i64 x1, .int .i64 y0, .int .i64 y1] (by simp)).alloc (.cells #[.int .i64 u0, .int .i64 u1, .int .i64 v0, .int .i64 v1] 23)).alloc (.cells #[.int .i64 z0, .int .i64 z1, .int .i64 t0, .int .i64 t1] 23))
  have RB_1 := Lib.hid ((row_last (w.alloc (.cells #[.int .i64 x0, .int .i64 x1, .int .i64 y0, .int .i64 y1] 23)) (w.heap.size + 1) 23 [.int .i64 u0, .int .i64 u1, .int .i64 v0, .int .i64 v1] (by simp)).alloc (.cells #[.int .i64 z0, .int .i64 z1, .int .i64 t0, .int .i64 t1] 23))
  have RC_1 := Lib.hid (row_last ((w.alloc (.cells #[.int .i64 x0, .int .i64 x1, .int .i64 y0, .int .i64 y1] 23)).alloc (.cells #[.int .i64 u0, .int .i64 u1, .int .i64 v0, .int .i64 v1] 23)) (w.heap.size + 1 + 1) 23 [.int .i64 z0, .int .i64 z1, .int .i64 t0, .int .i64 t1] (by simp))
  have B_1 := Lib.hid ((((Below.refl w.heap.size w).alloc (Nat.le_refl _) (.cells #[.int .i64 x0, .int .i64 x1, .int .i64 y0, .int .i64 y1] 23)).alloc (by have := Nat.le_refl w.heap.size; simp <;> omega) (.cells #[.int .i64 u0, .int .i64 u1, .int .i64 v0, .int .i64 v1] 23)).alloc (by have := Nat.le_refl w.heap.size; simp <;> omega) (.cells #[.int .i64 z0, .int .i64 z1, .int .i64 t0, .int .i64 t1] 23))
  generalize (((w.alloc (.cells #[.int .i64 x0, .int .i64 x1, .int .i64 y0, .int .i64 y1] 23)).alloc (.cells #[.int .i64 u0, .int .i64 u1, .int .i64 v0, .int .i64 v1] 23)).alloc (.cells #[.int .i64 z0, .int .i64 z1, .int .i64 t0, .int .i64 t1] 23)) = V1 at RA_1 RB_1 RC_1 B_1 ⊢
  go_wp2_with fail
  refine (HW.out _).mono ?_
  rintro e W2 ⟨rfl, hb⟩
  have RA_3 := Lib.hid (RA_1.out.below hb RA_1.out.lt)
  have RB_3 := Lib.hid (RB_1.out.below hb RB_1.out.lt)
  have RC_3 := Lib.hid (RC_1.out.below hb RC_1.out.lt)
  have B_3 := Lib.hid (B_1.out.trans (hb.mono B_1.out.size))
  clear hb RA_1 RB_1 RC_1 B_1
  go_wp2_with fail
  refine wp_region_held_drew (S := fun w' => Row w' (w.heap.size) 23 [.int .i64 x0, .int .i64 x1, .int .i64 y0, .int .i64 y1] ∧ Row w' (w.heap.size + 1) 23 [.int .i64 u0, .int .i64 u1, .int .i64 v0, .int .i64 v1]) (by kernel_rfl) ⟨RA_3.out.drew, RB_3.out.drew⟩ (fun hHeld => ?_)
  clear hHeld
  have RA_4 := Lib.hid RA_3.out.drew
  have RB_4 := Lib.hid RB_3.out.drew
  have RC_4 := Lib.hid RC_3.out.drew
  have B_4 := Lib.hid B_3.out.drew
  clear RA_3 RB_3 RC_3 B_3
  generalize W2.drew = D4 at RA_4 RB_4 RC_4 B_4 ⊢
  refine wpAnyH_take (i := 0) (oi := ⟨some 9, _, _, _, _, _⟩) (v := ?vr4_1) rfl (by kernel_rfl) (by kernel_rfl) (by kernel_rfl) (fun _ _ _ h => h) (Or.inl ⟨by rfl, ?yr4_1⟩) ⟨RA_4.out, RB_4.out⟩ ?rr4_1
  case yr4_1 =>
    rintro w' hSw
    have k0 := (show Row w' _ _ _ from hSw.1).cell 0
    have k1 := (show Row w' _ _ _ from hSw.1).cell 1
    have k2 := (show Row w' _ _ _ from hSw.1).cell 2
    have k3 := (show Row w' _ _ _ from hSw.1).cell 3
    simp only [List.getElem?_cons_zero, List.getElem?_cons_succ] at k0 k1 k2 k3
    go_simp
    try with_reducible rfl
  try simp only [Act.put, List.setIfInBounds_toArray, List.set_cons_zero, List.set_cons_succ]
  refine wpAnyH_take (i := 1) (oi := ⟨some 10, _, _, _, _, _⟩) (v := ?vr4_2) rfl (by kernel_rfl) (by kernel_rfl) (by kernel_rfl) (fun _ _ _ h => h) (Or.inl ⟨by rfl, ?yr4_2⟩) ⟨RA_4.out, RB_4.out⟩ ?rr4_2
  case yr4_2 =>
    rintro w' hSw
    have k0 := (show Row w' _ _ _ from hSw.2).cell 0
    have k1 := (show Row w' _ _ _ from hSw.2).cell 1
    have k2 := (show Row w' _ _ _ from hSw.2).cell 2
    have k3 := (show Row w' _ _ _ from hSw.2).cell 3
    simp only [List.getElem?_cons_zero, List.getElem?_cons_succ] at k0 k1 k2 k3
    go_simp
    try with_reducible rfl
  try simp only [Act.put, List.setIfInBounds_toArray, List.set_cons_zero, List.set_cons_succ]
  refine wpAnyH_take (i := 3) (oi := ⟨some 12, _, _, _, _, _⟩) (v := ?vr4_3) rfl (by kernel_rfl) (by kernel_rfl) (by kernel_rfl) (fun _ _ _ h => h) (Or.inl ⟨by rfl, ?yr4_3⟩) ⟨RA_4.out, RB_4.out⟩ ?rr4_3
  case yr4_3 =>
    rintro w' hSw
    have k0 := (show Row w' _ _ _ from hSw.2).cell 0
    have k1 := (show Row w' _ _ _ from hSw.2).cell 1
    have k2 := (show Row w' _ _ _ from hSw.2).cell 2
    have k3 := (show Row w' _ _ _ from hSw.2).cell 3
    simp only [List.getElem?_cons_zero, List.getElem?_cons_succ] at k0 k1 k2 k3
    go_simp
    try with_reducible rfl
  try simp only [Act.put, List.setIfInBounds_toArray, List.set_cons_zero, List.set_cons_succ]
  refine wpAnyH_take (i := 4) (oi := ⟨some 13, _, _, _, _, _⟩) (v := ?vr4_4) rfl (by kernel_rfl) (by kernel_rfl) (by kernel_rfl) (fun _ _ _ h => h) (Or.inl ⟨by rfl, ?yr4_4⟩) ⟨RA_4.out, RB_4.out⟩ ?rr4_4
  case yr4_4 =>
    rintro w' hSw
    have k0 := (show Row w' _ _ _ from hSw.1).cell 0
    have k1 := (show Row w' _ _ _ from hSw.1).cell 1
    have k2 := (show Row w' _ _ _ from hSw.1).cell 2
    have k3 := (show Row w' _ _ _ from hSw.1).cell 3
    simp only [List.getElem?_cons_zero, List.getElem?_cons_succ] at k0 k1 k2 k3
    go_simp
    try with_reducible rfl
  try simp only [Act.put, List.setIfInBounds_toArray, List.set_cons_zero, List.set_cons_succ]
  refine wpAnyH_ready (rs := [2]) (by kernel_rfl) (by simp) ?_
  refine (AllReadyH.cons rfl (fun K hK => ?_) AllReadyH.nil)
  go_simp
  refine (HM.out _).mono ?_
  rintro e Xr4_5 ⟨rfl, hb⟩
  have RA_r4_5_5 := Lib.hid (RA_4.out.below hb RA_4.out.lt)
  have RB_r4_5_5 := Lib.hid (RB_4.out.below hb RB_4.out.lt)
  have RC_r4_5_5 := Lib.hid (RC_4.out.below hb RC_4.out.lt)
  have B_r4_5_5 := Lib.hid (B_4.out.trans (hb.mono B_4.out.size))
  clear hb RA_4 RB_4 RC_4 B_4
  refine hK _ _ ⟨RA_r4_5_5.out, RB_r4_5_5.out⟩ (fun _ => ?_)
  clear hK K
  try simp only [Act.put, List.setIfInBounds_toArray, List.set_cons_zero, List.set_cons_succ]
  refine wpAnyH_ready (rs := [5]) (by kernel_rfl) (by simp) ?_
  refine (AllReadyH.cons rfl (fun K hK => ?_) AllReadyH.nil)
  go_simp
  refine (HM2.out _).mono ?_
  rintro e Xr4_6 ⟨rfl, hb⟩
  have RA_r4_6_6 := Lib.hid (RA_r4_5_5.out.below hb RA_r4_5_5.out.lt)
  have RB_r4_6_6 := Lib.hid (RB_r4_5_5.out.below hb RB_r4_5_5.out.lt)
  have RC_r4_6_6 := Lib.hid (RC_r4_5_5.out.below hb RC_r4_5_5.out.lt)
  have B_r4_6_6 := Lib.hid (B_r4_5_5.out.trans (hb.mono B_r4_5_5.out.size))
  clear hb RA_r4_5_5 RB_r4_5_5 RC_r4_5_5 B_r4_5_5
  refine hK _ _ ⟨RA_r4_6_6.out, RB_r4_6_6.out⟩ (fun _ => ?_)
  clear hK K
  try simp only [Act.put, List.setIfInBounds_toArray, List.set_cons_zero, List.set_cons_succ]
  refine wpAnyH_take (i := 6) (oi := ⟨some 15, _, _, _, _, _⟩) (v := ?vr4_7) rfl (by kernel_rfl) (by kernel_rfl) (by kernel_rfl) (fun _ _ _ h => h) (Or.inl ⟨by rfl, ?yr4_7⟩) ⟨RA_r4_6_6.out, RB_r4_6_6.out⟩ ?rr4_7
  case yr4_7 =>
    rintro w' hSw
    go_simp
    try with_reducible rfl
  try simp only [Act.put, List.setIfInBounds_toArray, List.set_cons_zero, List.set_cons_succ]
  refine wpAnyH_done (by kernel_rfl) ?_ _
  have cr4_6_8_0 := RA_r4_6_6.out.cell 0
  have cr4_6_8_1 := RA_r4_6_6.out.cell 1
  have cr4_6_8_2 := RA_r4_6_6.out.cell 2
  have cr4_6_8_3 := RA_r4_6_6.out.cell 3
  simp only [List.getElem?_cons_zero, List.getElem?_cons_succ] at cr4_6_8_0 cr4_6_8_1 cr4_6_8_2 cr4_6_8_3
  have cr4_6_9_0 := RB_r4_6_6.out.cell 0
  have cr4_6_9_1 := RB_r4_6_6.out.cell 1
  have cr4_6_9_2 := RB_r4_6_6.out.cell 2
  have cr4_6_9_3 := RB_r4_6_6.out.cell 3
  simp only [List.getElem?_cons_zero, List.getElem?_cons_succ] at cr4_6_9_0 cr4_6_9_1 cr4_6_9_2 cr4_6_9_3
  go_wp2_with fail
  refine (HM.out _).mono ?_
  rintro e Wr4_6_7 ⟨rfl, hb⟩
  clear cr4_6_8_0 cr4_6_8_1 cr4_6_8_2 cr4_6_8_3 cr4_6_9_0 cr4_6_9_1 cr4_6_9_2 cr4_6_9_3
  have RA_r4_6_10 := Lib.hid (RA_r4_6_6.out.below hb RA_r4_6_6.out.lt)
  have RB_r4_6_10 := Lib.hid (RB_r4_6_6.out.below hb RB_r4_6_6.out.lt)
  have RC_r4_6_10 := Lib.hid (RC_r4_6_6.out.below hb RC_r4_6_6.out.lt)
  have B_r4_6_10 := Lib.hid (B_r4_6_6.out.trans (hb.mono B_r4_6_6.out.size))
  clear hb RA_r4_6_6 RB_r4_6_6 RC_r4_6_6 B_r4_6_6
  have cr4_6_12_0 := RA_r4_6_10.out.cell 0
  have cr4_6_12_1 := RA_r4_6_10.out.cell 1
  have cr4_6_12_2 := RA_r4_6_10.out.cell 2
  have cr4_6_12_3 := RA_r4_6_10.out.cell 3
  simp only [List.getElem?_cons_zero, List.getElem?_cons_succ] at cr4_6_12_0 cr4_6_12_1 cr4_6_12_2 cr4_6_12_3
  have cr4_6_13_0 := RB_r4_6_10.out.cell 0
  have cr4_6_13_1 := RB_r4_6_10.out.cell 1
  have cr4_6_13_2 := RB_r4_6_10.out.cell 2
  have cr4_6_13_3 := RB_r4_6_10.out.cell 3
  simp only [List.getElem?_cons_zero, List.getElem?_cons_succ] at cr4_6_13_0 cr4_6_13_1 cr4_6_13_2 cr4_6_13_3
  go_wp2_with fail
  refine (HP.out _).mono ?_
  rintro e Wr4_6_11 ⟨rfl, hb⟩
  clear cr4_6_12_0 cr4_6_12_1 cr4_6_12_2 cr4_6_12_3 cr4_6_13_0 cr4_6_13_1 cr4_6_13_2 cr4_6_13_3
  have RA_r4_6_14 := Lib.hid (RA_r4_6_10.out.below hb RA_r4_6_10.out.lt)
  have RB_r4_6_14 := Lib.hid (RB_r4_6_10.out.below hb RB_r4_6_10.out.lt)
  have RC_r4_6_14 := Lib.hid (RC_r4_6_10.out.below hb RC_r4_6_10.out.lt)
  have B_r4_6_14 := Lib.hid (B_r4_6_10.out.trans (hb.mono B_r4_6_10.out.size))
  clear hb RA_r4_6_10 RB_r4_6_10 RC_r4_6_10 B_r4_6_10
  have cr4_6_15_0 := RA_r4_6_14.out.cell 0
  have cr4_6_15_1 := RA_r4_6_14.out.cell 1
  have cr4_6_15_2 := RA_r4_6_14.out.cell 2
  have cr4_6_15_3 := RA_r4_6_14.out.cell 3
  simp only [List.getElem?_cons_zero, List.getElem?_cons_succ] at cr4_6_15_0 cr4_6_15_1 cr4_6_15_2 cr4_6_15_3
  have cr4_6_16_0 := RB_r4_6_14.out.cell 0
  have cr4_6_16_1 := RB_r4_6_14.out.cell 1
  have cr4_6_16_2 := RB_r4_6_14.out.cell 2
  have cr4_6_16_3 := RB_r4_6_14.out.cell 3
  simp only [List.getElem?_cons_zero, List.getElem?_cons_succ] at cr4_6_16_0 cr4_6_16_1 cr4_6_16_2 cr4_6_16_3
  go_wp2
  go_ret
  exact ⟨rfl, B_r4_6_14.out⟩

set_option maxHeartbeats 4000000 in
theorem walk_1000 (x0 x1 y0 y1 u0 u1 v0 v1 z0 z1 t0 t1 : Int) (w : World) (hm : meetB x0 x1 y0 y1 u0 u1 v0 v1 = true) (hc : coverB z0 z1 t0 t1 x0 x1 y0 y1 = false) (hp : coverB x0 x1 y0 y1 u0 u1 v0 v1 = false)  :
    Calls Try.prog 6 #[KV x0 x1 y0 y1, KV u0 u1 v0 v1, KV z0 z1 t0 t1] w fun e w' => e = .returned (.bool true) ∧ Below w.heap.size w w' := by
  have HW := Lib.hid wakes_any
  have HM := Lib.hid (Meets_any x0 x1 y0 y1 u0 u1 v0 v1)
  have HM2 := Lib.hid (Meets_any u0 u1 v0 v1 x0 x1 y0 y1)
  have HCC := Lib.hid (Covers_any z0 z1 t0 t1 x0 x1 y0 y1)
  have HP := Lib.hid (Covers_any x0 x1 y0 y1 u0 u1 v0 v1)
  rw [meet_sym, hm] at HM2
  rw [hm] at HM
  rw [hc] at HCC
  rw [hp] at HP
  clear hm hc hp
  go_enter Try.func6, Try.ntmps6
  go_upto_region 1 with fail
  have RA_1 := Lib.hid (((row_last w (w.heap.size) 23 [.int .i64 x0, .int .i64 x1, .int .i64 y0, .int .i64 y1] (by simp)).alloc (.cells #[.int .i64 u0, .int .i64 u1, .int .i64 v0, .int .i64 v1] 23)).alloc (.cells #[.int .i64 z0, .int .i64 z1, .int .i64 t0, .int .i64 t1] 23))
  have RB_1 := Lib.hid ((row_last (w.alloc (.cells #[.int .i64 x0, .int .i64 x1, .int .i64 y0, .int .i64 y1] 23)) (w.heap.size + 1) 23 [.int .i64 u0, .int .i64 u1, .int .i64 v0, .int .i64 v1] (by simp)).alloc (.cells #[.int .i64 z0, .int .i64 z1, .int .i64 t0, .int .i64 t1] 23))
  have RC_1 := Lib.hid (row_last ((w.alloc (.cells #[.int .i64 x0, .int .i64 x1, .int .i64 y0, .int .i64 y1] 23)).alloc (.cells #[.int .i64 u0, .int .i64 u1, .int .i64 v0, .int .i64 v1] 23)) (w.heap.size + 1 + 1) 23 [.int .i64 z0, .int .i64 z1, .int .i64 t0, .int .i64 t1] (by simp))
  have B_1 := Lib.hid ((((Below.refl w.heap.size w).alloc (Nat.le_refl _) (.cells #[.int .i64 x0, .int .i64 x1, .int .i64 y0, .int .i64 y1] 23)).alloc (by have := Nat.le_refl w.heap.size; simp <;> omega) (.cells #[.int .i64 u0, .int .i64 u1, .int .i64 v0, .int .i64 v1] 23)).alloc (by have := Nat.le_refl w.heap.size; simp <;> omega) (.cells #[.int .i64 z0, .int .i64 z1, .int .i64 t0, .int .i64 t1] 23))
  generalize (((w.alloc (.cells #[.int .i64 x0, .int .i64 x1, .int .i64 y0, .int .i64 y1] 23)).alloc (.cells #[.int .i64 u0, .int .i64 u1, .int .i64 v0, .int .i64 v1] 23)).alloc (.cells #[.int .i64 z0, .int .i64 z1, .int .i64 t0, .int .i64 t1] 23)) = V1 at RA_1 RB_1 RC_1 B_1 ⊢
  go_wp2_with fail
  refine (HW.out _).mono ?_
  rintro e W2 ⟨rfl, hb⟩
  have RA_3 := Lib.hid (RA_1.out.below hb RA_1.out.lt)
  have RB_3 := Lib.hid (RB_1.out.below hb RB_1.out.lt)
  have RC_3 := Lib.hid (RC_1.out.below hb RC_1.out.lt)
  have B_3 := Lib.hid (B_1.out.trans (hb.mono B_1.out.size))
  clear hb RA_1 RB_1 RC_1 B_1
  go_wp2_with fail
  refine wp_region_held_drew (S := fun w' => Row w' (w.heap.size) 23 [.int .i64 x0, .int .i64 x1, .int .i64 y0, .int .i64 y1] ∧ Row w' (w.heap.size + 1) 23 [.int .i64 u0, .int .i64 u1, .int .i64 v0, .int .i64 v1]) (by kernel_rfl) ⟨RA_3.out.drew, RB_3.out.drew⟩ (fun hHeld => ?_)
  clear hHeld
  have RA_4 := Lib.hid RA_3.out.drew
  have RB_4 := Lib.hid RB_3.out.drew
  have RC_4 := Lib.hid RC_3.out.drew
  have B_4 := Lib.hid B_3.out.drew
  clear RA_3 RB_3 RC_3 B_3
  generalize W2.drew = D4 at RA_4 RB_4 RC_4 B_4 ⊢
  refine wpAnyH_take (i := 0) (oi := ⟨some 9, _, _, _, _, _⟩) (v := ?vr4_1) rfl (by kernel_rfl) (by kernel_rfl) (by kernel_rfl) (fun _ _ _ h => h) (Or.inl ⟨by rfl, ?yr4_1⟩) ⟨RA_4.out, RB_4.out⟩ ?rr4_1
  case yr4_1 =>
    rintro w' hSw
    have k0 := (show Row w' _ _ _ from hSw.1).cell 0
    have k1 := (show Row w' _ _ _ from hSw.1).cell 1
    have k2 := (show Row w' _ _ _ from hSw.1).cell 2
    have k3 := (show Row w' _ _ _ from hSw.1).cell 3
    simp only [List.getElem?_cons_zero, List.getElem?_cons_succ] at k0 k1 k2 k3
    go_simp
    try with_reducible rfl
  try simp only [Act.put, List.setIfInBounds_toArray, List.set_cons_zero, List.set_cons_succ]
  refine wpAnyH_take (i := 1) (oi := ⟨some 10, _, _, _, _, _⟩) (v := ?vr4_2) rfl (by kernel_rfl) (by kernel_rfl) (by kernel_rfl) (fun _ _ _ h => h) (Or.inl ⟨by rfl, ?yr4_2⟩) ⟨RA_4.out, RB_4.out⟩ ?rr4_2
  case yr4_2 =>
    rintro w' hSw
    have k0 := (show Row w' _ _ _ from hSw.2).cell 0
    have k1 := (show Row w' _ _ _ from hSw.2).cell 1
    have k2 := (show Row w' _ _ _ from hSw.2).cell 2
    have k3 := (show Row w' _ _ _ from hSw.2).cell 3
    simp only [List.getElem?_cons_zero, List.getElem?_cons_succ] at k0 k1 k2 k3
    go_simp
    try with_reducible rfl
  try simp only [Act.put, List.setIfInBounds_toArray, List.set_cons_zero, List.set_cons_succ]
  refine wpAnyH_take (i := 3) (oi := ⟨some 12, _, _, _, _, _⟩) (v := ?vr4_3) rfl (by kernel_rfl) (by kernel_rfl) (by kernel_rfl) (fun _ _ _ h => h) (Or.inl ⟨by rfl, ?yr4_3⟩) ⟨RA_4.out, RB_4.out⟩ ?rr4_3
  case yr4_3 =>
    rintro w' hSw
    have k0 := (show Row w' _ _ _ from hSw.2).cell 0
    have k1 := (show Row w' _ _ _ from hSw.2).cell 1
    have k2 := (show Row w' _ _ _ from hSw.2).cell 2
    have k3 := (show Row w' _ _ _ from hSw.2).cell 3
    simp only [List.getElem?_cons_zero, List.getElem?_cons_succ] at k0 k1 k2 k3
    go_simp
    try with_reducible rfl
  try simp only [Act.put, List.setIfInBounds_toArray, List.set_cons_zero, List.set_cons_succ]
  refine wpAnyH_take (i := 4) (oi := ⟨some 13, _, _, _, _, _⟩) (v := ?vr4_4) rfl (by kernel_rfl) (by kernel_rfl) (by kernel_rfl) (fun _ _ _ h => h) (Or.inl ⟨by rfl, ?yr4_4⟩) ⟨RA_4.out, RB_4.out⟩ ?rr4_4
  case yr4_4 =>
    rintro w' hSw
    have k0 := (show Row w' _ _ _ from hSw.1).cell 0
    have k1 := (show Row w' _ _ _ from hSw.1).cell 1
    have k2 := (show Row w' _ _ _ from hSw.1).cell 2
    have k3 := (show Row w' _ _ _ from hSw.1).cell 3
    simp only [List.getElem?_cons_zero, List.getElem?_cons_succ] at k0 k1 k2 k3
    go_simp
    try with_reducible rfl
  try simp only [Act.put, List.setIfInBounds_toArray, List.set_cons_zero, List.set_cons_succ]
  refine wpAnyH_ready (rs := [2]) (by kernel_rfl) (by simp) ?_
  refine (AllReadyH.cons rfl (fun K hK => ?_) AllReadyH.nil)
  go_simp
  refine (HM.out _).mono ?_
  rintro e Xr4_5 ⟨rfl, hb⟩
  have RA_r4_5_5 := Lib.hid (RA_4.out.below hb RA_4.out.lt)
  have RB_r4_5_5 := Lib.hid (RB_4.out.below hb RB_4.out.lt)
  have RC_r4_5_5 := Lib.hid (RC_4.out.below hb RC_4.out.lt)
  have B_r4_5_5 := Lib.hid (B_4.out.trans (hb.mono B_4.out.size))
  clear hb RA_4 RB_4 RC_4 B_4
  refine hK _ _ ⟨RA_r4_5_5.out, RB_r4_5_5.out⟩ (fun _ => ?_)
  clear hK K
  try simp only [Act.put, List.setIfInBounds_toArray, List.set_cons_zero, List.set_cons_succ]
  refine wpAnyH_ready (rs := [5]) (by kernel_rfl) (by simp) ?_
  refine (AllReadyH.cons rfl (fun K hK => ?_) AllReadyH.nil)
  go_simp
  refine (HM2.out _).mono ?_
  rintro e Xr4_6 ⟨rfl, hb⟩
  have RA_r4_6_6 := Lib.hid (RA_r4_5_5.out.below hb RA_r4_5_5.out.lt)
  have RB_r4_6_6 := Lib.hid (RB_r4_5_5.out.below hb RB_r4_5_5.out.lt)
  have RC_r4_6_6 := Lib.hid (RC_r4_5_5.out.below hb RC_r4_5_5.out.lt)
  have B_r4_6_6 := Lib.hid (B_r4_5_5.out.trans (hb.mono B_r4_5_5.out.size))
  clear hb RA_r4_5_5 RB_r4_5_5 RC_r4_5_5 B_r4_5_5
  refine hK _ _ ⟨RA_r4_6_6.out, RB_r4_6_6.out⟩ (fun _ => ?_)
  clear hK K
  try simp only [Act.put, List.setIfInBounds_toArray, List.set_cons_zero, List.set_cons_succ]
  refine wpAnyH_take (i := 6) (oi := ⟨some 15, _, _, _, _, _⟩) (v := ?vr4_7) rfl (by kernel_rfl) (by kernel_rfl) (by kernel_rfl) (fun _ _ _ h => h) (Or.inl ⟨by rfl, ?yr4_7⟩) ⟨RA_r4_6_6.out, RB_r4_6_6.out⟩ ?rr4_7
  case yr4_7 =>
    rintro w' hSw
    go_simp
    try with_reducible rfl
  try simp only [Act.put, List.setIfInBounds_toArray, List.set_cons_zero, List.set_cons_succ]
  refine wpAnyH_done (by kernel_rfl) ?_ _
  have cr4_6_8_0 := RA_r4_6_6.out.cell 0
  have cr4_6_8_1 := RA_r4_6_6.out.cell 1
  have cr4_6_8_2 := RA_r4_6_6.out.cell 2
  have cr4_6_8_3 := RA_r4_6_6.out.cell 3
  simp only [List.getElem?_cons_zero, List.getElem?_cons_succ] at cr4_6_8_0 cr4_6_8_1 cr4_6_8_2 cr4_6_8_3
  have cr4_6_9_0 := RB_r4_6_6.out.cell 0
  have cr4_6_9_1 := RB_r4_6_6.out.cell 1
  have cr4_6_9_2 := RB_r4_6_6.out.cell 2
  have cr4_6_9_3 := RB_r4_6_6.out.cell 3
  simp only [List.getElem?_cons_zero, List.getElem?_cons_succ] at cr4_6_9_0 cr4_6_9_1 cr4_6_9_2 cr4_6_9_3
  go_wp2_with fail
  refine (HM.out _).mono ?_
  rintro e Wr4_6_7 ⟨rfl, hb⟩
  clear cr4_6_8_0 cr4_6_8_1 cr4_6_8_2 cr4_6_8_3 cr4_6_9_0 cr4_6_9_1 cr4_6_9_2 cr4_6_9_3
  have RA_r4_6_10 := Lib.hid (RA_r4_6_6.out.below hb RA_r4_6_6.out.lt)
  have RB_r4_6_10 := Lib.hid (RB_r4_6_6.out.below hb RB_r4_6_6.out.lt)
  have RC_r4_6_10 := Lib.hid (RC_r4_6_6.out.below hb RC_r4_6_6.out.lt)
  have B_r4_6_10 := Lib.hid (B_r4_6_6.out.trans (hb.mono B_r4_6_6.out.size))
  clear hb RA_r4_6_6 RB_r4_6_6 RC_r4_6_6 B_r4_6_6
  have cr4_6_12_0 := RA_r4_6_10.out.cell 0
  have cr4_6_12_1 := RA_r4_6_10.out.cell 1
  have cr4_6_12_2 := RA_r4_6_10.out.cell 2
  have cr4_6_12_3 := RA_r4_6_10.out.cell 3
  simp only [List.getElem?_cons_zero, List.getElem?_cons_succ] at cr4_6_12_0 cr4_6_12_1 cr4_6_12_2 cr4_6_12_3
  have cr4_6_13_0 := RC_r4_6_10.out.cell 0
  have cr4_6_13_1 := RC_r4_6_10.out.cell 1
  have cr4_6_13_2 := RC_r4_6_10.out.cell 2
  have cr4_6_13_3 := RC_r4_6_10.out.cell 3
  simp only [List.getElem?_cons_zero, List.getElem?_cons_succ] at cr4_6_13_0 cr4_6_13_1 cr4_6_13_2 cr4_6_13_3
  go_wp2_with fail
  refine (HCC.out _).mono ?_
  rintro e Wr4_6_11 ⟨rfl, hb⟩
  clear cr4_6_12_0 cr4_6_12_1 cr4_6_12_2 cr4_6_12_3 cr4_6_13_0 cr4_6_13_1 cr4_6_13_2 cr4_6_13_3
  have RA_r4_6_14 := Lib.hid (RA_r4_6_10.out.below hb RA_r4_6_10.out.lt)
  have RB_r4_6_14 := Lib.hid (RB_r4_6_10.out.below hb RB_r4_6_10.out.lt)
  have RC_r4_6_14 := Lib.hid (RC_r4_6_10.out.below hb RC_r4_6_10.out.lt)
  have B_r4_6_14 := Lib.hid (B_r4_6_10.out.trans (hb.mono B_r4_6_10.out.size))
  clear hb RA_r4_6_10 RB_r4_6_10 RC_r4_6_10 B_r4_6_10
  have cr4_6_16_0 := RA_r4_6_14.out.cell 0
  have cr4_6_16_1 := RA_r4_6_14.out.cell 1
  have cr4_6_16_2 := RA_r4_6_14.out.cell 2
  have cr4_6_16_3 := RA_r4_6_14.out.cell 3
  simp only [List.getElem?_cons_zero, List.getElem?_cons_succ] at cr4_6_16_0 cr4_6_16_1 cr4_6_16_2 cr4_6_16_3
  have cr4_6_17_0 := RB_r4_6_14.out.cell 0
  have cr4_6_17_1 := RB_r4_6_14.out.cell 1
  have cr4_6_17_2 := RB_r4_6_14.out.cell 2
  have cr4_6_17_3 := RB_r4_6_14.out.cell 3
  simp only [List.getElem?_cons_zero, List.getElem?_cons_succ] at cr4_6_17_0 cr4_6_17_1 cr4_6_17_2 cr4_6_17_3
  go_wp2_with fail
  refine (HP.out _).mono ?_
  rintro e Wr4_6_15 ⟨rfl, hb⟩
  clear cr4_6_16_0 cr4_6_16_1 cr4_6_16_2 cr4_6_16_3 cr4_6_17_0 cr4_6_17_1 cr4_6_17_2 cr4_6_17_3
  have RA_r4_6_18 := Lib.hid (RA_r4_6_14.out.below hb RA_r4_6_14.out.lt)
  have RB_r4_6_18 := Lib.hid (RB_r4_6_14.out.below hb RB_r4_6_14.out.lt)
  have RC_r4_6_18 := Lib.hid (RC_r4_6_14.out.below hb RC_r4_6_14.out.lt)
  have B_r4_6_18 := Lib.hid (B_r4_6_14.out.trans (hb.mono B_r4_6_14.out.size))
  clear hb RA_r4_6_14 RB_r4_6_14 RC_r4_6_14 B_r4_6_14
  have cr4_6_19_0 := RA_r4_6_18.out.cell 0
  have cr4_6_19_1 := RA_r4_6_18.out.cell 1
  have cr4_6_19_2 := RA_r4_6_18.out.cell 2
  have cr4_6_19_3 := RA_r4_6_18.out.cell 3
  simp only [List.getElem?_cons_zero, List.getElem?_cons_succ] at cr4_6_19_0 cr4_6_19_1 cr4_6_19_2 cr4_6_19_3
  have cr4_6_20_0 := RB_r4_6_18.out.cell 0
  have cr4_6_20_1 := RB_r4_6_18.out.cell 1
  have cr4_6_20_2 := RB_r4_6_18.out.cell 2
  have cr4_6_20_3 := RB_r4_6_18.out.cell 3
  simp only [List.getElem?_cons_zero, List.getElem?_cons_succ] at cr4_6_20_0 cr4_6_20_1 cr4_6_20_2 cr4_6_20_3
  go_wp2
  go_ret
  exact ⟨rfl, B_r4_6_18.out⟩

set_option maxHeartbeats 4000000 in
theorem walk_1100 (x0 x1 y0 y1 u0 u1 v0 v1 z0 z1 t0 t1 : Int) (w : World) (hm : meetB x0 x1 y0 y1 u0 u1 v0 v1 = true) (hc : coverB z0 z1 t0 t1 x0 x1 y0 y1 = true) (hp : coverB x0 x1 y0 y1 u0 u1 v0 v1 = false)  :
    Calls Try.prog 6 #[KV x0 x1 y0 y1, KV u0 u1 v0 v1, KV z0 z1 t0 t1] w fun e w' => e = .returned (.bool true) ∧ Below w.heap.size w w' := by
  have HW := Lib.hid wakes_any
  have HM := Lib.hid (Meets_any x0 x1 y0 y1 u0 u1 v0 v1)
  have HM2 := Lib.hid (Meets_any u0 u1 v0 v1 x0 x1 y0 y1)
  have HCC := Lib.hid (Covers_any z0 z1 t0 t1 x0 x1 y0 y1)
  have HP := Lib.hid (Covers_any x0 x1 y0 y1 u0 u1 v0 v1)
  rw [meet_sym, hm] at HM2
  have HMC := Lib.hid (Meets_any z0 z1 t0 t1 u0 u1 v0 v1)
  rw [meet_cover hm hc] at HMC
  rw [hm] at HM
  rw [hc] at HCC
  rw [hp] at HP
  clear hm hc hp
  go_enter Try.func6, Try.ntmps6
  go_upto_region 1 with fail
  have RA_1 := Lib.hid (((row_last w (w.heap.size) 23 [.int .i64 x0, .int .i64 x1, .int .i64 y0, .int .i64 y1] (by simp)).alloc (.cells #[.int .i64 u0, .int .i64 u1, .int .i64 v0, .int .i64 v1] 23)).alloc (.cells #[.int .i64 z0, .int .i64 z1, .int .i64 t0, .int .i64 t1] 23))
  have RB_1 := Lib.hid ((row_last (w.alloc (.cells #[.int .i64 x0, .int .i64 x1, .int .i64 y0, .int .i64 y1] 23)) (w.heap.size + 1) 23 [.int .i64 u0, .int .i64 u1, .int .i64 v0, .int .i64 v1] (by simp)).alloc (.cells #[.int .i64 z0, .int .i64 z1, .int .i64 t0, .int .i64 t1] 23))
  have RC_1 := Lib.hid (row_last ((w.alloc (.cells #[.int .i64 x0, .int .i64 x1, .int .i64 y0, .int .i64 y1] 23)).alloc (.cells #[.int .i64 u0, .int .i64 u1, .int .i64 v0, .int .i64 v1] 23)) (w.heap.size + 1 + 1) 23 [.int .i64 z0, .int .i64 z1, .int .i64 t0, .int .i64 t1] (by simp))
  have B_1 := Lib.hid ((((Below.refl w.heap.size w).alloc (Nat.le_refl _) (.cells #[.int .i64 x0, .int .i64 x1, .int .i64 y0, .int .i64 y1] 23)).alloc (by have := Nat.le_refl w.heap.size; simp <;> omega) (.cells #[.int .i64 u0, .int .i64 u1, .int .i64 v0, .int .i64 v1] 23)).alloc (by have := Nat.le_refl w.heap.size; simp <;> omega) (.cells #[.int .i64 z0, .int .i64 z1, .int .i64 t0, .int .i64 t1] 23))
  generalize (((w.alloc (.cells #[.int .i64 x0, .int .i64 x1, .int .i64 y0, .int .i64 y1] 23)).alloc (.cells #[.int .i64 u0, .int .i64 u1, .int .i64 v0, .int .i64 v1] 23)).alloc (.cells #[.int .i64 z0, .int .i64 z1, .int .i64 t0, .int .i64 t1] 23)) = V1 at RA_1 RB_1 RC_1 B_1 ⊢
  go_wp2_with fail
  refine (HW.out _).mono ?_
  rintro e W2 ⟨rfl, hb⟩
  have RA_3 := Lib.hid (RA_1.out.below hb RA_1.out.lt)
  have RB_3 := Lib.hid (RB_1.out.below hb RB_1.out.lt)
  have RC_3 := Lib.hid (RC_1.out.below hb RC_1.out.lt)
  have B_3 := Lib.hid (B_1.out.trans (hb.mono B_1.out.size))
  clear hb RA_1 RB_1 RC_1 B_1
  go_wp2_with fail
  refine wp_region_held_drew (S := fun w' => Row w' (w.heap.size) 23 [.int .i64 x0, .int .i64 x1, .int .i64 y0, .int .i64 y1] ∧ Row w' (w.heap.size + 1) 23 [.int .i64 u0, .int .i64 u1, .int .i64 v0, .int .i64 v1]) (by kernel_rfl) ⟨RA_3.out.drew, RB_3.out.drew⟩ (fun hHeld => ?_)
  clear hHeld
  have RA_4 := Lib.hid RA_3.out.drew
  have RB_4 := Lib.hid RB_3.out.drew
  have RC_4 := Lib.hid RC_3.out.drew
  have B_4 := Lib.hid B_3.out.drew
  clear RA_3 RB_3 RC_3 B_3
  generalize W2.drew = D4 at RA_4 RB_4 RC_4 B_4 ⊢
  refine wpAnyH_take (i := 0) (oi := ⟨some 9, _, _, _, _, _⟩) (v := ?vr4_1) rfl (by kernel_rfl) (by kernel_rfl) (by kernel_rfl) (fun _ _ _ h => h) (Or.inl ⟨by rfl, ?yr4_1⟩) ⟨RA_4.out, RB_4.out⟩ ?rr4_1
  case yr4_1 =>
    rintro w' hSw
    have k0 := (show Row w' _ _ _ from hSw.1).cell 0
    have k1 := (show Row w' _ _ _ from hSw.1).cell 1
    have k2 := (show Row w' _ _ _ from hSw.1).cell 2
    have k3 := (show Row w' _ _ _ from hSw.1).cell 3
    simp only [List.getElem?_cons_zero, List.getElem?_cons_succ] at k0 k1 k2 k3
    go_simp
    try with_reducible rfl
  try simp only [Act.put, List.setIfInBounds_toArray, List.set_cons_zero, List.set_cons_succ]
  refine wpAnyH_take (i := 1) (oi := ⟨some 10, _, _, _, _, _⟩) (v := ?vr4_2) rfl (by kernel_rfl) (by kernel_rfl) (by kernel_rfl) (fun _ _ _ h => h) (Or.inl ⟨by rfl, ?yr4_2⟩) ⟨RA_4.out, RB_4.out⟩ ?rr4_2
  case yr4_2 =>
    rintro w' hSw
    have k0 := (show Row w' _ _ _ from hSw.2).cell 0
    have k1 := (show Row w' _ _ _ from hSw.2).cell 1
    have k2 := (show Row w' _ _ _ from hSw.2).cell 2
    have k3 := (show Row w' _ _ _ from hSw.2).cell 3
    simp only [List.getElem?_cons_zero, List.getElem?_cons_succ] at k0 k1 k2 k3
    go_simp
    try with_reducible rfl
  try simp only [Act.put, List.setIfInBounds_toArray, List.set_cons_zero, List.set_cons_succ]
  refine wpAnyH_take (i := 3) (oi := ⟨some 12, _, _, _, _, _⟩) (v := ?vr4_3) rfl (by kernel_rfl) (by kernel_rfl) (by kernel_rfl) (fun _ _ _ h => h) (Or.inl ⟨by rfl, ?yr4_3⟩) ⟨RA_4.out, RB_4.out⟩ ?rr4_3
  case yr4_3 =>
    rintro w' hSw
    have k0 := (show Row w' _ _ _ from hSw.2).cell 0
    have k1 := (show Row w' _ _ _ from hSw.2).cell 1
    have k2 := (show Row w' _ _ _ from hSw.2).cell 2
    have k3 := (show Row w' _ _ _ from hSw.2).cell 3
    simp only [List.getElem?_cons_zero, List.getElem?_cons_succ] at k0 k1 k2 k3
    go_simp
    try with_reducible rfl
  try simp only [Act.put, List.setIfInBounds_toArray, List.set_cons_zero, List.set_cons_succ]
  refine wpAnyH_take (i := 4) (oi := ⟨some 13, _, _, _, _, _⟩) (v := ?vr4_4) rfl (by kernel_rfl) (by kernel_rfl) (by kernel_rfl) (fun _ _ _ h => h) (Or.inl ⟨by rfl, ?yr4_4⟩) ⟨RA_4.out, RB_4.out⟩ ?rr4_4
  case yr4_4 =>
    rintro w' hSw
    have k0 := (show Row w' _ _ _ from hSw.1).cell 0
    have k1 := (show Row w' _ _ _ from hSw.1).cell 1
    have k2 := (show Row w' _ _ _ from hSw.1).cell 2
    have k3 := (show Row w' _ _ _ from hSw.1).cell 3
    simp only [List.getElem?_cons_zero, List.getElem?_cons_succ] at k0 k1 k2 k3
    go_simp
    try with_reducible rfl
  try simp only [Act.put, List.setIfInBounds_toArray, List.set_cons_zero, List.set_cons_succ]
  refine wpAnyH_ready (rs := [2]) (by kernel_rfl) (by simp) ?_
  refine (AllReadyH.cons rfl (fun K hK => ?_) AllReadyH.nil)
  go_simp
  refine (HM.out _).mono ?_
  rintro e Xr4_5 ⟨rfl, hb⟩
  have RA_r4_5_5 := Lib.hid (RA_4.out.below hb RA_4.out.lt)
  have RB_r4_5_5 := Lib.hid (RB_4.out.below hb RB_4.out.lt)
  have RC_r4_5_5 := Lib.hid (RC_4.out.below hb RC_4.out.lt)
  have B_r4_5_5 := Lib.hid (B_4.out.trans (hb.mono B_4.out.size))
  clear hb RA_4 RB_4 RC_4 B_4
  refine hK _ _ ⟨RA_r4_5_5.out, RB_r4_5_5.out⟩ (fun _ => ?_)
  clear hK K
  try simp only [Act.put, List.setIfInBounds_toArray, List.set_cons_zero, List.set_cons_succ]
  refine wpAnyH_ready (rs := [5]) (by kernel_rfl) (by simp) ?_
  refine (AllReadyH.cons rfl (fun K hK => ?_) AllReadyH.nil)
  go_simp
  refine (HM2.out _).mono ?_
  rintro e Xr4_6 ⟨rfl, hb⟩
  have RA_r4_6_6 := Lib.hid (RA_r4_5_5.out.below hb RA_r4_5_5.out.lt)
  have RB_r4_6_6 := Lib.hid (RB_r4_5_5.out.below hb RB_r4_5_5.out.lt)
  have RC_r4_6_6 := Lib.hid (RC_r4_5_5.out.below hb RC_r4_5_5.out.lt)
  have B_r4_6_6 := Lib.hid (B_r4_5_5.out.trans (hb.mono B_r4_5_5.out.size))
  clear hb RA_r4_5_5 RB_r4_5_5 RC_r4_5_5 B_r4_5_5
  refine hK _ _ ⟨RA_r4_6_6.out, RB_r4_6_6.out⟩ (fun _ => ?_)
  clear hK K
  try simp only [Act.put, List.setIfInBounds_toArray, List.set_cons_zero, List.set_cons_succ]
  refine wpAnyH_take (i := 6) (oi := ⟨some 15, _, _, _, _, _⟩) (v := ?vr4_7) rfl (by kernel_rfl) (by kernel_rfl) (by kernel_rfl) (fun _ _ _ h => h) (Or.inl ⟨by rfl, ?yr4_7⟩) ⟨RA_r4_6_6.out, RB_r4_6_6.out⟩ ?rr4_7
  case yr4_7 =>
    rintro w' hSw
    go_simp
    try with_reducible rfl
  try simp only [Act.put, List.setIfInBounds_toArray, List.set_cons_zero, List.set_cons_succ]
  refine wpAnyH_done (by kernel_rfl) ?_ _
  have cr4_6_8_0 := RA_r4_6_6.out.cell 0
  have cr4_6_8_1 := RA_r4_6_6.out.cell 1
  have cr4_6_8_2 := RA_r4_6_6.out.cell 2
  have cr4_6_8_3 := RA_r4_6_6.out.cell 3
  simp only [List.getElem?_cons_zero, List.getElem?_cons_succ] at cr4_6_8_0 cr4_6_8_1 cr4_6_8_2 cr4_6_8_3
  have cr4_6_9_0 := RB_r4_6_6.out.cell 0
  have cr4_6_9_1 := RB_r4_6_6.out.cell 1
  have cr4_6_9_2 := RB_r4_6_6.out.cell 2
  have cr4_6_9_3 := RB_r4_6_6.out.cell 3
  simp only [List.getElem?_cons_zero, List.getElem?_cons_succ] at cr4_6_9_0 cr4_6_9_1 cr4_6_9_2 cr4_6_9_3
  go_wp2_with fail
  refine (HM.out _).mono ?_
  rintro e Wr4_6_7 ⟨rfl, hb⟩
  clear cr4_6_8_0 cr4_6_8_1 cr4_6_8_2 cr4_6_8_3 cr4_6_9_0 cr4_6_9_1 cr4_6_9_2 cr4_6_9_3
  have RA_r4_6_10 := Lib.hid (RA_r4_6_6.out.below hb RA_r4_6_6.out.lt)
  have RB_r4_6_10 := Lib.hid (RB_r4_6_6.out.below hb RB_r4_6_6.out.lt)
  have RC_r4_6_10 := Lib.hid (RC_r4_6_6.out.below hb RC_r4_6_6.out.lt)
  have B_r4_6_10 := Lib.hid (B_r4_6_6.out.trans (hb.mono B_r4_6_6.out.size))
  clear hb RA_r4_6_6 RB_r4_6_6 RC_r4_6_6 B_r4_6_6
  have cr4_6_12_0 := RA_r4_6_10.out.cell 0
  have cr4_6_12_1 := RA_r4_6_10.out.cell 1
  have cr4_6_12_2 := RA_r4_6_10.out.cell 2
  have cr4_6_12_3 := RA_r4_6_10.out.cell 3
  simp only [List.getElem?_cons_zero, List.getElem?_cons_succ] at cr4_6_12_0 cr4_6_12_1 cr4_6_12_2 cr4_6_12_3
  have cr4_6_13_0 := RC_r4_6_10.out.cell 0
  have cr4_6_13_1 := RC_r4_6_10.out.cell 1
  have cr4_6_13_2 := RC_r4_6_10.out.cell 2
  have cr4_6_13_3 := RC_r4_6_10.out.cell 3
  simp only [List.getElem?_cons_zero, List.getElem?_cons_succ] at cr4_6_13_0 cr4_6_13_1 cr4_6_13_2 cr4_6_13_3
  go_wp2_with fail
  refine (HCC.out _).mono ?_
  rintro e Wr4_6_11 ⟨rfl, hb⟩
  clear cr4_6_12_0 cr4_6_12_1 cr4_6_12_2 cr4_6_12_3 cr4_6_13_0 cr4_6_13_1 cr4_6_13_2 cr4_6_13_3
  have RA_r4_6_14 := Lib.hid (RA_r4_6_10.out.below hb RA_r4_6_10.out.lt)
  have RB_r4_6_14 := Lib.hid (RB_r4_6_10.out.below hb RB_r4_6_10.out.lt)
  have RC_r4_6_14 := Lib.hid (RC_r4_6_10.out.below hb RC_r4_6_10.out.lt)
  have B_r4_6_14 := Lib.hid (B_r4_6_10.out.trans (hb.mono B_r4_6_10.out.size))
  clear hb RA_r4_6_10 RB_r4_6_10 RC_r4_6_10 B_r4_6_10
  have cr4_6_16_0 := RB_r4_6_14.out.cell 0
  have cr4_6_16_1 := RB_r4_6_14.out.cell 1
  have cr4_6_16_2 := RB_r4_6_14.out.cell 2
  have cr4_6_16_3 := RB_r4_6_14.out.cell 3
  simp only [List.getElem?_cons_zero, List.getElem?_cons_succ] at cr4_6_16_0 cr4_6_16_1 cr4_6_16_2 cr4_6_16_3
  have cr4_6_17_0 := RC_r4_6_14.out.cell 0
  have cr4_6_17_1 := RC_r4_6_14.out.cell 1
  have cr4_6_17_2 := RC_r4_6_14.out.cell 2
  have cr4_6_17_3 := RC_r4_6_14.out.cell 3
  simp only [List.getElem?_cons_zero, List.getElem?_cons_succ] at cr4_6_17_0 cr4_6_17_1 cr4_6_17_2 cr4_6_17_3
  go_wp2_with fail
  refine (HMC.out _).mono ?_
  rintro e Wr4_6_15 ⟨rfl, hb⟩
  clear cr4_6_16_0 cr4_6_16_1 cr4_6_16_2 cr4_6_16_3 cr4_6_17_0 cr4_6_17_1 cr4_6_17_2 cr4_6_17_3
  have RA_r4_6_18 := Lib.hid (RA_r4_6_14.out.below hb RA_r4_6_14.out.lt)
  have RB_r4_6_18 := Lib.hid (RB_r4_6_14.out.below hb RB_r4_6_14.out.lt)
  have RC_r4_6_18 := Lib.hid (RC_r4_6_14.out.below hb RC_r4_6_14.out.lt)
  have B_r4_6_18 := Lib.hid (B_r4_6_14.out.trans (hb.mono B_r4_6_14.out.size))
  clear hb RA_r4_6_14 RB_r4_6_14 RC_r4_6_14 B_r4_6_14
  have cr4_6_20_0 := RA_r4_6_18.out.cell 0
  have cr4_6_20_1 := RA_r4_6_18.out.cell 1
  have cr4_6_20_2 := RA_r4_6_18.out.cell 2
  have cr4_6_20_3 := RA_r4_6_18.out.cell 3
  simp only [List.getElem?_cons_zero, List.getElem?_cons_succ] at cr4_6_20_0 cr4_6_20_1 cr4_6_20_2 cr4_6_20_3
  have cr4_6_21_0 := RB_r4_6_18.out.cell 0
  have cr4_6_21_1 := RB_r4_6_18.out.cell 1
  have cr4_6_21_2 := RB_r4_6_18.out.cell 2
  have cr4_6_21_3 := RB_r4_6_18.out.cell 3
  simp only [List.getElem?_cons_zero, List.getElem?_cons_succ] at cr4_6_21_0 cr4_6_21_1 cr4_6_21_2 cr4_6_21_3
  go_wp2_with fail
  refine (HP.out _).mono ?_
  rintro e Wr4_6_19 ⟨rfl, hb⟩
  clear cr4_6_20_0 cr4_6_20_1 cr4_6_20_2 cr4_6_20_3 cr4_6_21_0 cr4_6_21_1 cr4_6_21_2 cr4_6_21_3
  have RA_r4_6_22 := Lib.hid (RA_r4_6_18.out.below hb RA_r4_6_18.out.lt)
  have RB_r4_6_22 := Lib.hid (RB_r4_6_18.out.below hb RB_r4_6_18.out.lt)
  have RC_r4_6_22 := Lib.hid (RC_r4_6_18.out.below hb RC_r4_6_18.out.lt)
  have B_r4_6_22 := Lib.hid (B_r4_6_18.out.trans (hb.mono B_r4_6_18.out.size))
  clear hb RA_r4_6_18 RB_r4_6_18 RC_r4_6_18 B_r4_6_18
  have cr4_6_23_0 := RA_r4_6_22.out.cell 0
  have cr4_6_23_1 := RA_r4_6_22.out.cell 1
  have cr4_6_23_2 := RA_r4_6_22.out.cell 2
  have cr4_6_23_3 := RA_r4_6_22.out.cell 3
  simp only [List.getElem?_cons_zero, List.getElem?_cons_succ] at cr4_6_23_0 cr4_6_23_1 cr4_6_23_2 cr4_6_23_3
  have cr4_6_24_0 := RB_r4_6_22.out.cell 0
  have cr4_6_24_1 := RB_r4_6_22.out.cell 1
  have cr4_6_24_2 := RB_r4_6_22.out.cell 2
  have cr4_6_24_3 := RB_r4_6_22.out.cell 3
  simp only [List.getElem?_cons_zero, List.getElem?_cons_succ] at cr4_6_24_0 cr4_6_24_1 cr4_6_24_2 cr4_6_24_3
  go_wp2
  go_ret
  exact ⟨rfl, B_r4_6_22.out⟩

set_option maxHeartbeats 4000000 in
theorem walk_1011 (x0 x1 y0 y1 u0 u1 v0 v1 z0 z1 t0 t1 : Int) (w : World) (hm : meetB x0 x1 y0 y1 u0 u1 v0 v1 = true) (hc : coverB z0 z1 t0 t1 x0 x1 y0 y1 = false) (hp : coverB x0 x1 y0 y1 u0 u1 v0 v1 = true) (h1 : ¬ x0 = u0) :
    Calls Try.prog 6 #[KV x0 x1 y0 y1, KV u0 u1 v0 v1, KV z0 z1 t0 t1] w fun e w' => e = .returned (.bool true) ∧ Below w.heap.size w w' := by
  have HW := Lib.hid wakes_any
  have HM := Lib.hid (Meets_any x0 x1 y0 y1 u0 u1 v0 v1)
  have HM2 := Lib.hid (Meets_any u0 u1 v0 v1 x0 x1 y0 y1)
  have HCC := Lib.hid (Covers_any z0 z1 t0 t1 x0 x1 y0 y1)
  have HP := Lib.hid (Covers_any x0 x1 y0 y1 u0 u1 v0 v1)
  rw [meet_sym, hm] at HM2
  rw [hm] at HM
  rw [hc] at HCC
  have HP2 := Lib.hid (Covers_any u0 u1 v0 v1 x0 x1 y0 y1)
  have hn : coverB u0 u1 v0 v1 x0 x1 y0 y1 = false := Bool.eq_false_iff.2 (fun h => by have := cover_both hp h; omega)
  rw [hn] at HP2
  clear hn
  rw [hp] at HP
  clear hm hc hp
  go_enter Try.func6, Try.ntmps6
  go_upto_region 1 with fail
  have RA_1 := Lib.hid (((row_last w (w.heap.size) 23 [.int .i64 x0, .int .i64 x1, .int .i64 y0, .int .i64 y1] (by simp)).alloc (.cells #[.int .i64 u0, .int .i64 u1, .int .i64 v0, .int .i64 v1] 23)).alloc (.cells #[.int .i64 z0, .int .i64 z1, .int .i64 t0, .int .i64 t1] 23))
  have RB_1 := Lib.hid ((row_last (w.alloc (.cells #[.int .i64 x0, .int .i64 x1, .int .i64 y0, .int .i64 y1] 23)) (w.heap.size + 1) 23 [.int .i64 u0, .int .i64 u1, .int .i64 v0, .int .i64 v1] (by simp)).alloc (.cells #[.int .i64 z0, .int .i64 z1, .int .i64 t0, .int .i64 t1] 23))
  have RC_1 := Lib.hid (row_last ((w.alloc (.cells #[.int .i64 x0, .int .i64 x1, .int .i64 y0, .int .i64 y1] 23)).alloc (.cells #[.int .i64 u0, .int .i64 u1, .int .i64 v0, .int .i64 v1] 23)) (w.heap.size + 1 + 1) 23 [.int .i64 z0, .int .i64 z1, .int .i64 t0, .int .i64 t1] (by simp))
  have B_1 := Lib.hid ((((Below.refl w.heap.size w).alloc (Nat.le_refl _) (.cells #[.int .i64 x0, .int .i64 x1, .int .i64 y0, .int .i64 y1] 23)).alloc (by have := Nat.le_refl w.heap.size; simp <;> omega) (.cells #[.int .i64 u0, .int .i64 u1, .int .i64 v0, .int .i64 v1] 23)).alloc (by have := Nat.le_refl w.heap.size; simp <;> omega) (.cells #[.int .i64 z0, .int .i64 z1, .int .i64 t0, .int .i64 t1] 23))
  generalize (((w.alloc (.cells #[.int .i64 x0, .int .i64 x1, .int .i64 y0, .int .i64 y1] 23)).alloc (.cells #[.int .i64 u0, .int .i64 u1, .int .i64 v0, .int .i64 v1] 23)).alloc (.cells #[.int .i64 z0, .int .i64 z1, .int .i64 t0, .int .i64 t1] 23)) = V1 at RA_1 RB_1 RC_1 B_1 ⊢
  go_wp2_with fail
  refine (HW.out _).mono ?_
  rintro e W2 ⟨rfl, hb⟩
  have RA_3 := Lib.hid (RA_1.out.below hb RA_1.out.lt)
  have RB_3 := Lib.hid (RB_1.out.below hb RB_1.out.lt)
  have RC_3 := Lib.hid (RC_1.out.below hb RC_1.out.lt)
  have B_3 := Lib.hid (B_1.out.trans (hb.mono B_1.out.size))
  clear hb RA_1 RB_1 RC_1 B_1
  go_wp2_with fail
  refine wp_region_held_drew (S := fun w' => Row w' (w.heap.size) 23 [.int .i64 x0, .int .i64 x1, .int .i64 y0, .int .i64 y1] ∧ Row w' (w.heap.size + 1) 23 [.int .i64 u0, .int .i64 u1, .int .i64 v0, .int .i64 v1]) (by kernel_rfl) ⟨RA_3.out.drew, RB_3.out.drew⟩ (fun hHeld => ?_)
  clear hHeld
  have RA_4 := Lib.hid RA_3.out.drew
  have RB_4 := Lib.hid RB_3.out.drew
  have RC_4 := Lib.hid RC_3.out.drew
  have B_4 := Lib.hid B_3.out.drew
  clear RA_3 RB_3 RC_3 B_3
  generalize W2.drew = D4 at RA_4 RB_4 RC_4 B_4 ⊢
  refine wpAnyH_take (i := 0) (oi := ⟨some 9, _, _, _, _, _⟩) (v := ?vr4_1) rfl (by kernel_rfl) (by kernel_rfl) (by kernel_rfl) (fun _ _ _ h => h) (Or.inl ⟨by rfl, ?yr4_1⟩) ⟨RA_4.out, RB_4.out⟩ ?rr4_1
  case yr4_1 =>
    rintro w' hSw
    have k0 := (show Row w' _ _ _ from hSw.1).cell 0
    have k1 := (show Row w' _ _ _ from hSw.1).cell 1
    have k2 := (show Row w' _ _ _ from hSw.1).cell 2
    have k3 := (show Row w' _ _ _ from hSw.1).cell 3
    simp only [List.getElem?_cons_zero, List.getElem?_cons_succ] at k0 k1 k2 k3
    go_simp
    try with_reducible rfl
  try simp only [Act.put, List.setIfInBounds_toArray, List.set_cons_zero, List.set_cons_succ]
  refine wpAnyH_take (i := 1) (oi := ⟨some 10, _, _, _, _, _⟩) (v := ?vr4_2) rfl (by kernel_rfl) (by kernel_rfl) (by kernel_rfl) (fun _ _ _ h => h) (Or.inl ⟨by rfl, ?yr4_2⟩) ⟨RA_4.out, RB_4.out⟩ ?rr4_2
  case yr4_2 =>
    rintro w' hSw
    have k0 := (show Row w' _ _ _ from hSw.2).cell 0
    have k1 := (show Row w' _ _ _ from hSw.2).cell 1
    have k2 := (show Row w' _ _ _ from hSw.2).cell 2
    have k3 := (show Row w' _ _ _ from hSw.2).cell 3
    simp only [List.getElem?_cons_zero, List.getElem?_cons_succ] at k0 k1 k2 k3
    go_simp
    try with_reducible rfl
  try simp only [Act.put, List.setIfInBounds_toArray, List.set_cons_zero, List.set_cons_succ]
  refine wpAnyH_take (i := 3) (oi := ⟨some 12, _, _, _, _, _⟩) (v := ?vr4_3) rfl (by kernel_rfl) (by kernel_rfl) (by kernel_rfl) (fun _ _ _ h => h) (Or.inl ⟨by rfl, ?yr4_3⟩) ⟨RA_4.out, RB_4.out⟩ ?rr4_3
  case yr4_3 =>
    rintro w' hSw
    have k0 := (show Row w' _ _ _ from hSw.2).cell 0
    have k1 := (show Row w' _ _ _ from hSw.2).cell 1
    have k2 := (show Row w' _ _ _ from hSw.2).cell 2
    have k3 := (show Row w' _ _ _ from hSw.2).cell 3
    simp only [List.getElem?_cons_zero, List.getElem?_cons_succ] at k0 k1 k2 k3
    go_simp
    try with_reducible rfl
  try simp only [Act.put, List.setIfInBounds_toArray, List.set_cons_zero, List.set_cons_succ]
  refine wpAnyH_take (i := 4) (oi := ⟨some 13, _, _, _, _, _⟩) (v := ?vr4_4) rfl (by kernel_rfl) (by kernel_rfl) (by kernel_rfl) (fun _ _ _ h => h) (Or.inl ⟨by rfl, ?yr4_4⟩) ⟨RA_4.out, RB_4.out⟩ ?rr4_4
  case yr4_4 =>
    rintro w' hSw
    have k0 := (show Row w' _ _ _ from hSw.1).cell 0
    have k1 := (show Row w' _ _ _ from hSw.1).cell 1
    have k2 := (show Row w' _ _ _ from hSw.1).cell 2
    have k3 := (show Row w' _ _ _ from hSw.1).cell 3
    simp only [List.getElem?_cons_zero, List.getElem?_cons_succ] at k0 k1 k2 k3
    go_simp
    try with_reducible rfl
  try simp only [Act.put, List.setIfInBounds_toArray, List.set_cons_zero, List.set_cons_succ]
  refine wpAnyH_ready (rs := [2]) (by kernel_rfl) (by simp) ?_
  refine (AllReadyH.cons rfl (fun K hK => ?_) AllReadyH.nil)
  go_simp
  refine (HM.out _).mono ?_
  rintro e Xr4_5 ⟨rfl, hb⟩
  have RA_r4_5_5 := Lib.hid (RA_4.out.below hb RA_4.out.lt)
  have RB_r4_5_5 := Lib.hid (RB_4.out.below hb RB_4.out.lt)
  have RC_r4_5_5 := Lib.hid (RC_4.out.below hb RC_4.out.lt)
  have B_r4_5_5 := Lib.hid (B_4.out.trans (hb.mono B_4.out.size))
  clear hb RA_4 RB_4 RC_4 B_4
  refine hK _ _ ⟨RA_r4_5_5.out, RB_r4_5_5.out⟩ (fun _ => ?_)
  clear hK K
  try simp only [Act.put, List.setIfInBounds_toArray, List.set_cons_zero, List.set_cons_succ]
  refine wpAnyH_ready (rs := [5]) (by kernel_rfl) (by simp) ?_
  refine (AllReadyH.cons rfl (fun K hK => ?_) AllReadyH.nil)
  go_simp
  refine (HM2.out _).mono ?_
  rintro e Xr4_6 ⟨rfl, hb⟩
  have RA_r4_6_6 := Lib.hid (RA_r4_5_5.out.below hb RA_r4_5_5.out.lt)
  have RB_r4_6_6 := Lib.hid (RB_r4_5_5.out.below hb RB_r4_5_5.out.lt)
  have RC_r4_6_6 := Lib.hid (RC_r4_5_5.out.below hb RC_r4_5_5.out.lt)
  have B_r4_6_6 := Lib.hid (B_r4_5_5.out.trans (hb.mono B_r4_5_5.out.size))
  clear hb RA_r4_5_5 RB_r4_5_5 RC_r4_5_5 B_r4_5_5
  refine hK _ _ ⟨RA_r4_6_6.out, RB_r4_6_6.out⟩ (fun _ => ?_)
  clear hK K
  try simp only [Act.put, List.setIfInBounds_toArray, List.set_cons_zero, List.set_cons_succ]
  refine wpAnyH_take (i := 6) (oi := ⟨some 15, _, _, _, _, _⟩) (v := ?vr4_7) rfl (by kernel_rfl) (by kernel_rfl) (by kernel_rfl) (fun _ _ _ h => h) (Or.inl ⟨by rfl, ?yr4_7⟩) ⟨RA_r4_6_6.out, RB_r4_6_6.out⟩ ?rr4_7
  case yr4_7 =>
    rintro w' hSw
    go_simp
    try with_reducible rfl
  try simp only [Act.put, List.setIfInBounds_toArray, List.set_cons_zero, List.set_cons_succ]
  refine wpAnyH_done (by kernel_rfl) ?_ _
  have cr4_6_8_0 := RA_r4_6_6.out.cell 0
  have cr4_6_8_1 := RA_r4_6_6.out.cell 1
  have cr4_6_8_2 := RA_r4_6_6.out.cell 2
  have cr4_6_8_3 := RA_r4_6_6.out.cell 3
  simp only [List.getElem?_cons_zero, List.getElem?_cons_succ] at cr4_6_8_0 cr4_6_8_1 cr4_6_8_2 cr4_6_8_3
  have cr4_6_9_0 := RB_r4_6_6.out.cell 0
  have cr4_6_9_1 := RB_r4_6_6.out.cell 1
  have cr4_6_9_2 := RB_r4_6_6.out.cell 2
  have cr4_6_9_3 := RB_r4_6_6.out.cell 3
  simp only [List.getElem?_cons_zero, List.getElem?_cons_succ] at cr4_6_9_0 cr4_6_9_1 cr4_6_9_2 cr4_6_9_3
  go_wp2_with fail
  refine (HM.out _).mono ?_
  rintro e Wr4_6_7 ⟨rfl, hb⟩
  clear cr4_6_8_0 cr4_6_8_1 cr4_6_8_2 cr4_6_8_3 cr4_6_9_0 cr4_6_9_1 cr4_6_9_2 cr4_6_9_3
  have RA_r4_6_10 := Lib.hid (RA_r4_6_6.out.below hb RA_r4_6_6.out.lt)
  have RB_r4_6_10 := Lib.hid (RB_r4_6_6.out.below hb RB_r4_6_6.out.lt)
  have RC_r4_6_10 := Lib.hid (RC_r4_6_6.out.below hb RC_r4_6_6.out.lt)
  have B_r4_6_10 := Lib.hid (B_r4_6_6.out.trans (hb.mono B_r4_6_6.out.size))
  clear hb RA_r4_6_6 RB_r4_6_6 RC_r4_6_6 B_r4_6_6
  have cr4_6_12_0 := RA_r4_6_10.out.cell 0
  have cr4_6_12_1 := RA_r4_6_10.out.cell 1
  have cr4_6_12_2 := RA_r4_6_10.out.cell 2
  have cr4_6_12_3 := RA_r4_6_10.out.cell 3
  simp only [List.getElem?_cons_zero, List.getElem?_cons_succ] at cr4_6_12_0 cr4_6_12_1 cr4_6_12_2 cr4_6_12_3
  have cr4_6_13_0 := RC_r4_6_10.out.cell 0
  have cr4_6_13_1 := RC_r4_6_10.out.cell 1
  have cr4_6_13_2 := RC_r4_6_10.out.cell 2
  have cr4_6_13_3 := RC_r4_6_10.out.cell 3
  simp only [List.getElem?_cons_zero, List.getElem?_cons_succ] at cr4_6_13_0 cr4_6_13_1 cr4_6_13_2 cr4_6_13_3
  go_wp2_with fail
  refine (HCC.out _).mono ?_
  rintro e Wr4_6_11 ⟨rfl, hb⟩
  clear cr4_6_12_0 cr4_6_12_1 cr4_6_12_2 cr4_6_12_3 cr4_6_13_0 cr4_6_13_1 cr4_6_13_2 cr4_6_13_3
  have RA_r4_6_14 := Lib.hid (RA_r4_6_10.out.below hb RA_r4_6_10.out.lt)
  have RB_r4_6_14 := Lib.hid (RB_r4_6_10.out.below hb RB_r4_6_10.out.lt)
  have RC_r4_6_14 := Lib.hid (RC_r4_6_10.out.below hb RC_r4_6_10.out.lt)
  have B_r4_6_14 := Lib.hid (B_r4_6_10.out.trans (hb.mono B_r4_6_10.out.size))
  clear hb RA_r4_6_10 RB_r4_6_10 RC_r4_6_10 B_r4_6_10
  have cr4_6_16_0 := RA_r4_6_14.out.cell 0
  have cr4_6_16_1 := RA_r4_6_14.out.cell 1
  have cr4_6_16_2 := RA_r4_6_14.out.cell 2
  have cr4_6_16_3 := RA_r4_6_14.out.cell 3
  simp only [List.getElem?_cons_zero, List.getElem?_cons_succ] at cr4_6_16_0 cr4_6_16_1 cr4_6_16_2 cr4_6_16_3
  have cr4_6_17_0 := RB_r4_6_14.out.cell 0
  have cr4_6_17_1 := RB_r4_6_14.out.cell 1
  have cr4_6_17_2 := RB_r4_6_14.out.cell 2
  have cr4_6_17_3 := RB_r4_6_14.out.cell 3
  simp only [List.getElem?_cons_zero, List.getElem?_cons_succ] at cr4_6_17_0 cr4_6_17_1 cr4_6_17_2 cr4_6_17_3
  go_wp2_with fail
  refine (HP.out _).mono ?_
  rintro e Wr4_6_15 ⟨rfl, hb⟩
  clear cr4_6_16_0 cr4_6_16_1 cr4_6_16_2 cr4_6_16_3 cr4_6_17_0 cr4_6_17_1 cr4_6_17_2 cr4_6_17_3
  have RA_r4_6_18 := Lib.hid (RA_r4_6_14.out.below hb RA_r4_6_14.out.lt)
  have RB_r4_6_18 := Lib.hid (RB_r4_6_14.out.below hb RB_r4_6_14.out.lt)
  have RC_r4_6_18 := Lib.hid (RC_r4_6_14.out.below hb RC_r4_6_14.out.lt)
  have B_r4_6_18 := Lib.hid (B_r4_6_14.out.trans (hb.mono B_r4_6_14.out.size))
  clear hb RA_r4_6_14 RB_r4_6_14 RC_r4_6_14 B_r4_6_14
  have cr4_6_20_0 := RA_r4_6_18.out.cell 0
  have cr4_6_20_1 := RA_r4_6_18.out.cell 1
  have cr4_6_20_2 := RA_r4_6_18.out.cell 2
  have cr4_6_20_3 := RA_r4_6_18.out.cell 3
  simp only [List.getElem?_cons_zero, List.getElem?_cons_succ] at cr4_6_20_0 cr4_6_20_1 cr4_6_20_2 cr4_6_20_3
  have cr4_6_21_0 := RB_r4_6_18.out.cell 0
  have cr4_6_21_1 := RB_r4_6_18.out.cell 1
  have cr4_6_21_2 := RB_r4_6_18.out.cell 2
  have cr4_6_21_3 := RB_r4_6_18.out.cell 3
  simp only [List.getElem?_cons_zero, List.getElem?_cons_succ] at cr4_6_21_0 cr4_6_21_1 cr4_6_21_2 cr4_6_21_3
  go_wp2_with fail
  refine (HM.out _).mono ?_
  rintro e Wr4_6_19 ⟨rfl, hb⟩
  clear cr4_6_20_0 cr4_6_20_1 cr4_6_20_2 cr4_6_20_3 cr4_6_21_0 cr4_6_21_1 cr4_6_21_2 cr4_6_21_3
  have RA_r4_6_22 := Lib.hid (RA_r4_6_18.out.below hb RA_r4_6_18.out.lt)
  have RB_r4_6_22 := Lib.hid (RB_r4_6_18.out.below hb RB_r4_6_18.out.lt)
  have RC_r4_6_22 := Lib.hid (RC_r4_6_18.out.below hb RC_r4_6_18.out.lt)
  have B_r4_6_22 := Lib.hid (B_r4_6_18.out.trans (hb.mono B_r4_6_18.out.size))
  clear hb RA_r4_6_18 RB_r4_6_18 RC_r4_6_18 B_r4_6_18
  have cr4_6_24_0 := RA_r4_6_22.out.cell 0
  have cr4_6_24_1 := RA_r4_6_22.out.cell 1
  have cr4_6_24_2 := RA_r4_6_22.out.cell 2
  have cr4_6_24_3 := RA_r4_6_22.out.cell 3
  simp only [List.getElem?_cons_zero, List.getElem?_cons_succ] at cr4_6_24_0 cr4_6_24_1 cr4_6_24_2 cr4_6_24_3
  have cr4_6_25_0 := RB_r4_6_22.out.cell 0
  have cr4_6_25_1 := RB_r4_6_22.out.cell 1
  have cr4_6_25_2 := RB_r4_6_22.out.cell 2
  have cr4_6_25_3 := RB_r4_6_22.out.cell 3
  simp only [List.getElem?_cons_zero, List.getElem?_cons_succ] at cr4_6_25_0 cr4_6_25_1 cr4_6_25_2 cr4_6_25_3
  go_wp2_with fail
  refine (HP2.out _).mono ?_
  rintro e Wr4_6_23 ⟨rfl, hb⟩
  clear cr4_6_24_0 cr4_6_24_1 cr4_6_24_2 cr4_6_24_3 cr4_6_25_0 cr4_6_25_1 cr4_6_25_2 cr4_6_25_3
  have RA_r4_6_26 := Lib.hid (RA_r4_6_22.out.below hb RA_r4_6_22.out.lt)
  have RB_r4_6_26 := Lib.hid (RB_r4_6_22.out.below hb RB_r4_6_22.out.lt)
  have RC_r4_6_26 := Lib.hid (RC_r4_6_22.out.below hb RC_r4_6_22.out.lt)
  have B_r4_6_26 := Lib.hid (B_r4_6_22.out.trans (hb.mono B_r4_6_22.out.size))
  clear hb RA_r4_6_22 RB_r4_6_22 RC_r4_6_22 B_r4_6_22
  have cr4_6_27_0 := RA_r4_6_26.out.cell 0
  have cr4_6_27_1 := RA_r4_6_26.out.cell 1
  have cr4_6_27_2 := RA_r4_6_26.out.cell 2
  have cr4_6_27_3 := RA_r4_6_26.out.cell 3
  simp only [List.getElem?_cons_zero, List.getElem?_cons_succ] at cr4_6_27_0 cr4_6_27_1 cr4_6_27_2 cr4_6_27_3
  have cr4_6_28_0 := RB_r4_6_26.out.cell 0
  have cr4_6_28_1 := RB_r4_6_26.out.cell 1
  have cr4_6_28_2 := RB_r4_6_26.out.cell 2
  have cr4_6_28_3 := RB_r4_6_26.out.cell 3
  simp only [List.getElem?_cons_zero, List.getElem?_cons_succ] at cr4_6_28_0 cr4_6_28_1 cr4_6_28_2 cr4_6_28_3
  go_wp2
  go_ret
  exact ⟨rfl, B_r4_6_26.out⟩

set_option maxHeartbeats 4000000 in
theorem walk_1012 (x0 x1 y0 y1 u0 u1 v0 v1 z0 z1 t0 t1 : Int) (w : World) (hm : meetB x0 x1 y0 y1 u0 u1 v0 v1 = true) (hc : coverB z0 z1 t0 t1 x0 x1 y0 y1 = false) (hp : coverB x0 x1 y0 y1 u0 u1 v0 v1 = true) (h2 : ¬ x1 = u1) :
    Calls Try.prog 6 #[KV x0 x1 y0 y1, KV u0 u1 v0 v1, KV z0 z1 t0 t1] w fun e w' => e = .returned (.bool true) ∧ Below w.heap.size w w' := by
  have HW := Lib.hid wakes_any
  have HM := Lib.hid (Meets_any x0 x1 y0 y1 u0 u1 v0 v1)
  have HM2 := Lib.hid (Meets_any u0 u1 v0 v1 x0 x1 y0 y1)
  have HCC := Lib.hid (Covers_any z0 z1 t0 t1 x0 x1 y0 y1)
  have HP := Lib.hid (Covers_any x0 x1 y0 y1 u0 u1 v0 v1)
  rw [meet_sym, hm] at HM2
  rw [hm] at HM
  rw [hc] at HCC
  have HP2 := Lib.hid (Covers_any u0 u1 v0 v1 x0 x1 y0 y1)
  have hn : coverB u0 u1 v0 v1 x0 x1 y0 y1 = false := Bool.eq_false_iff.2 (fun h => by have := cover_both hp h; omega)
  rw [hn] at HP2
  clear hn
  rw [hp] at HP
  clear hm hc hp
  go_enter Try.func6, Try.ntmps6
  go_upto_region 1 with fail
  have RA_1 := Lib.hid (((row_last w (w.heap.size) 23 [.int .i64 x0, .int .i64 x1, .int .i64 y0, .int .i64 y1] (by simp)).alloc (.cells #[.int .i64 u0, .int .i64 u1, .int .i64 v0, .int .i64 v1] 23)).alloc (.cells #[.int .i64 z0, .int .i64 z1, .int .i64 t0, .int .i64 t1] 23))
  have RB_1 := Lib.hid ((row_last (w.alloc (.cells #[.int .i64 x0, .int .i64 x1, .int .i64 y0, .int .i64 y1] 23)) (w.heap.size + 1) 23 [.int .i64 u0, .int .i64 u1, .int .i64 v0, .int .i64 v1] (by simp)).alloc (.cells #[.int .i64 z0, .int .i64 z1, .int .i64 t0, .int .i64 t1] 23))
  have RC_1 := Lib.hid (row_last ((w.alloc (.cells #[.int .i64 x0, .int .i64 x1, .int .i64 y0, .int .i64 y1] 23)).alloc (.cells #[.int .i64 u0, .int .i64 u1, .int .i64 v0, .int .i64 v1] 23)) (w.heap.size + 1 + 1) 23 [.int .i64 z0, .int .i64 z1, .int .i64 t0, .int .i64 t1] (by simp))
  have B_1 := Lib.hid ((((Below.refl w.heap.size w).alloc (Nat.le_refl _) (.cells #[.int .i64 x0, .int .i64 x1, .int .i64 y0, .int .i64 y1] 23)).alloc (by have := Nat.le_refl w.heap.size; simp <;> omega) (.cells #[.int .i64 u0, .int .i64 u1, .int .i64 v0, .int .i64 v1] 23)).alloc (by have := Nat.le_refl w.heap.size; simp <;> omega) (.cells #[.int .i64 z0, .int .i64 z1, .int .i64 t0, .int .i64 t1] 23))
  generalize (((w.alloc (.cells #[.int .i64 x0, .int .i64 x1, .int .i64 y0, .int .i64 y1] 23)).alloc (.cells #[.int .i64 u0, .int .i64 u1, .int .i64 v0, .int .i64 v1] 23)).alloc (.cells #[.int .i64 z0, .int .i64 z1, .int .i64 t0, .int .i64 t1] 23)) = V1 at RA_1 RB_1 RC_1 B_1 ⊢
  go_wp2_with fail
  refine (HW.out _).mono ?_
  rintro e W2 ⟨rfl, hb⟩
  have RA_3 := Lib.hid (RA_1.out.below hb RA_1.out.lt)
  have RB_3 := Lib.hid (RB_1.out.below hb RB_1.out.lt)
  have RC_3 := Lib.hid (RC_1.out.below hb RC_1.out.lt)
  have B_3 := Lib.hid (B_1.out.trans (hb.mono B_1.out.size))
  clear hb RA_1 RB_1 RC_1 B_1
  go_wp2_with fail
  refine wp_region_held_drew (S := fun w' => Row w' (w.heap.size) 23 [.int .i64 x0, .int .i64 x1, .int .i64 y0, .int .i64 y1] ∧ Row w' (w.heap.size + 1) 23 [.int .i64 u0, .int .i64 u1, .int .i64 v0, .int .i64 v1]) (by kernel_rfl) ⟨RA_3.out.drew, RB_3.out.drew⟩ (fun hHeld => ?_)
  clear hHeld
  have RA_4 := Lib.hid RA_3.out.drew
  have RB_4 := Lib.hid RB_3.out.drew
  have RC_4 := Lib.hid RC_3.out.drew
  have B_4 := Lib.hid B_3.out.drew
  clear RA_3 RB_3 RC_3 B_3
  generalize W2.drew = D4 at RA_4 RB_4 RC_4 B_4 ⊢
  refine wpAnyH_take (i := 0) (oi := ⟨some 9, _, _, _, _, _⟩) (v := ?vr4_1) rfl (by kernel_rfl) (by kernel_rfl) (by kernel_rfl) (fun _ _ _ h => h) (Or.inl ⟨by rfl, ?yr4_1⟩) ⟨RA_4.out, RB_4.out⟩ ?rr4_1
  case yr4_1 =>
    rintro w' hSw
    have k0 := (show Row w' _ _ _ from hSw.1).cell 0
    have k1 := (show Row w' _ _ _ from hSw.1).cell 1
    have k2 := (show Row w' _ _ _ from hSw.1).cell 2
    have k3 := (show Row w' _ _ _ from hSw.1).cell 3
    simp only [List.getElem?_cons_zero, List.getElem?_cons_succ] at k0 k1 k2 k3
    go_simp
    try with_reducible rfl
  try simp only [Act.put, List.setIfInBounds_toArray, List.set_cons_zero, List.set_cons_succ]
  refine wpAnyH_take (i := 1) (oi := ⟨some 10, _, _, _, _, _⟩) (v := ?vr4_2) rfl (by kernel_rfl) (by kernel_rfl) (by kernel_rfl) (fun _ _ _ h => h) (Or.inl ⟨by rfl, ?yr4_2⟩) ⟨RA_4.out, RB_4.out⟩ ?rr4_2
  case yr4_2 =>
    rintro w' hSw
    have k0 := (show Row w' _ _ _ from hSw.2).cell 0
    have k1 := (show Row w' _ _ _ from hSw.2).cell 1
    have k2 := (show Row w' _ _ _ from hSw.2).cell 2
    have k3 := (show Row w' _ _ _ from hSw.2).cell 3
    simp only [List.getElem?_cons_zero, List.getElem?_cons_succ] at k0 k1 k2 k3
    go_simp
    try with_reducible rfl
  try simp only [Act.put, List.setIfInBounds_toArray, List.set_cons_zero, List.set_cons_succ]
  refine wpAnyH_take (i := 3) (oi := ⟨some 12, _, _, _, _, _⟩) (v := ?vr4_3) rfl (by kernel_rfl) (by kernel_rfl) (by kernel_rfl) (fun _ _ _ h => h) (Or.inl ⟨by rfl, ?yr4_3⟩) ⟨RA_4.out, RB_4.out⟩ ?rr4_3
  case yr4_3 =>
    rintro w' hSw
    have k0 := (show Row w' _ _ _ from hSw.2).cell 0
    have k1 := (show Row w' _ _ _ from hSw.2).cell 1
    have k2 := (show Row w' _ _ _ from hSw.2).cell 2
    have k3 := (show Row w' _ _ _ from hSw.2).cell 3
    simp only [List.getElem?_cons_zero, List.getElem?_cons_succ] at k0 k1 k2 k3
    go_simp
    try with_reducible rfl
  try simp only [Act.put, List.setIfInBounds_toArray, List.set_cons_zero, List.set_cons_succ]
  refine wpAnyH_take (i := 4) (oi := ⟨some 13, _, _, _, _, _⟩) (v := ?vr4_4) rfl (by kernel_rfl) (by kernel_rfl) (by kernel_rfl) (fun _ _ _ h => h) (Or.inl ⟨by rfl, ?yr4_4⟩) ⟨RA_4.out, RB_4.out⟩ ?rr4_4
  case yr4_4 =>
    rintro w' hSw
    have k0 := (show Row w' _ _ _ from hSw.1).cell 0
    have k1 := (show Row w' _ _ _ from hSw.1).cell 1
    have k2 := (show Row w' _ _ _ from hSw.1).cell 2
    have k3 := (show Row w' _ _ _ from hSw.1).cell 3
    simp only [List.getElem?_cons_zero, List.getElem?_cons_succ] at k0 k1 k2 k3
    go_simp
    try with_reducible rfl
  try simp only [Act.put, List.setIfInBounds_toArray, List.set_cons_zero, List.set_cons_succ]
  refine wpAnyH_ready (rs := [2]) (by kernel_rfl) (by simp) ?_
  refine (AllReadyH.cons rfl (fun K hK => ?_) AllReadyH.nil)
  go_simp
  refine (HM.out _).mono ?_
  rintro e Xr4_5 ⟨rfl, hb⟩
  have RA_r4_5_5 := Lib.hid (RA_4.out.below hb RA_4.out.lt)
  have RB_r4_5_5 := Lib.hid (RB_4.out.below hb RB_4.out.lt)
  have RC_r4_5_5 := Lib.hid (RC_4.out.below hb RC_4.out.lt)
  have B_r4_5_5 := Lib.hid (B_4.out.trans (hb.mono B_4.out.size))
  clear hb RA_4 RB_4 RC_4 B_4
  refine hK _ _ ⟨RA_r4_5_5.out, RB_r4_5_5.out⟩ (fun _ => ?_)
  clear hK K
  try simp only [Act.put, List.setIfInBounds_toArray, List.set_cons_zero, List.set_cons_succ]
  refine wpAnyH_ready (rs := [5]) (by kernel_rfl) (by simp) ?_
  refine (AllReadyH.cons rfl (fun K hK => ?_) AllReadyH.nil)
  go_simp
  refine (HM2.out _).mono ?_
  rintro e Xr4_6 ⟨rfl, hb⟩
  have RA_r4_6_6 := Lib.hid (RA_r4_5_5.out.below hb RA_r4_5_5.out.lt)
  have RB_r4_6_6 := Lib.hid (RB_r4_5_5.out.below hb RB_r4_5_5.out.lt)
  have RC_r4_6_6 := Lib.hid (RC_r4_5_5.out.below hb RC_r4_5_5.out.lt)
  have B_r4_6_6 := Lib.hid (B_r4_5_5.out.trans (hb.mono B_r4_5_5.out.size))
  clear hb RA_r4_5_5 RB_r4_5_5 RC_r4_5_5 B_r4_5_5
  refine hK _ _ ⟨RA_r4_6_6.out, RB_r4_6_6.out⟩ (fun _ => ?_)
  clear hK K
  try simp only [Act.put, List.setIfInBounds_toArray, List.set_cons_zero, List.set_cons_succ]
  refine wpAnyH_take (i := 6) (oi := ⟨some 15, _, _, _, _, _⟩) (v := ?vr4_7) rfl (by kernel_rfl) (by kernel_rfl) (by kernel_rfl) (fun _ _ _ h => h) (Or.inl ⟨by rfl, ?yr4_7⟩) ⟨RA_r4_6_6.out, RB_r4_6_6.out⟩ ?rr4_7
  case yr4_7 =>
    rintro w' hSw
    go_simp
    try with_reducible rfl
  try simp only [Act.put, List.setIfInBounds_toArray, List.set_cons_zero, List.set_cons_succ]
  refine wpAnyH_done (by kernel_rfl) ?_ _
  have cr4_6_8_0 := RA_r4_6_6.out.cell 0
  have cr4_6_8_1 := RA_r4_6_6.out.cell 1
  have cr4_6_8_2 := RA_r4_6_6.out.cell 2
  have cr4_6_8_3 := RA_r4_6_6.out.cell 3
  simp only [List.getElem?_cons_zero, List.getElem?_cons_succ] at cr4_6_8_0 cr4_6_8_1 cr4_6_8_2 cr4_6_8_3
  have cr4_6_9_0 := RB_r4_6_6.out.cell 0
  have cr4_6_9_1 := RB_r4_6_6.out.cell 1
  have cr4_6_9_2 := RB_r4_6_6.out.cell 2
  have cr4_6_9_3 := RB_r4_6_6.out.cell 3
  simp only [List.getElem?_cons_zero, List.getElem?_cons_succ] at cr4_6_9_0 cr4_6_9_1 cr4_6_9_2 cr4_6_9_3
  go_wp2_with fail
  refine (HM.out _).mono ?_
  rintro e Wr4_6_7 ⟨rfl, hb⟩
  clear cr4_6_8_0 cr4_6_8_1 cr4_6_8_2 cr4_6_8_3 cr4_6_9_0 cr4_6_9_1 cr4_6_9_2 cr4_6_9_3
  have RA_r4_6_10 := Lib.hid (RA_r4_6_6.out.below hb RA_r4_6_6.out.lt)
  have RB_r4_6_10 := Lib.hid (RB_r4_6_6.out.below hb RB_r4_6_6.out.lt)
  have RC_r4_6_10 := Lib.hid (RC_r4_6_6.out.below hb RC_r4_6_6.out.lt)
  have B_r4_6_10 := Lib.hid (B_r4_6_6.out.trans (hb.mono B_r4_6_6.out.size))
  clear hb RA_r4_6_6 RB_r4_6_6 RC_r4_6_6 B_r4_6_6
  have cr4_6_12_0 := RA_r4_6_10.out.cell 0
  have cr4_6_12_1 := RA_r4_6_10.out.cell 1
  have cr4_6_12_2 := RA_r4_6_10.out.cell 2
  have cr4_6_12_3 := RA_r4_6_10.out.cell 3
  simp only [List.getElem?_cons_zero, List.getElem?_cons_succ] at cr4_6_12_0 cr4_6_12_1 cr4_6_12_2 cr4_6_12_3
  have cr4_6_13_0 := RC_r4_6_10.out.cell 0
  have cr4_6_13_1 := RC_r4_6_10.out.cell 1
  have cr4_6_13_2 := RC_r4_6_10.out.cell 2
  have cr4_6_13_3 := RC_r4_6_10.out.cell 3
  simp only [List.getElem?_cons_zero, List.getElem?_cons_succ] at cr4_6_13_0 cr4_6_13_1 cr4_6_13_2 cr4_6_13_3
  go_wp2_with fail
  refine (HCC.out _).mono ?_
  rintro e Wr4_6_11 ⟨rfl, hb⟩
  clear cr4_6_12_0 cr4_6_12_1 cr4_6_12_2 cr4_6_12_3 cr4_6_13_0 cr4_6_13_1 cr4_6_13_2 cr4_6_13_3
  have RA_r4_6_14 := Lib.hid (RA_r4_6_10.out.below hb RA_r4_6_10.out.lt)
  have RB_r4_6_14 := Lib.hid (RB_r4_6_10.out.below hb RB_r4_6_10.out.lt)
  have RC_r4_6_14 := Lib.hid (RC_r4_6_10.out.below hb RC_r4_6_10.out.lt)
  have B_r4_6_14 := Lib.hid (B_r4_6_10.out.trans (hb.mono B_r4_6_10.out.size))
  clear hb RA_r4_6_10 RB_r4_6_10 RC_r4_6_10 B_r4_6_10
  have cr4_6_16_0 := RA_r4_6_14.out.cell 0
  have cr4_6_16_1 := RA_r4_6_14.out.cell 1
  have cr4_6_16_2 := RA_r4_6_14.out.cell 2
  have cr4_6_16_3 := RA_r4_6_14.out.cell 3
  simp only [List.getElem?_cons_zero, List.getElem?_cons_succ] at cr4_6_16_0 cr4_6_16_1 cr4_6_16_2 cr4_6_16_3
  have cr4_6_17_0 := RB_r4_6_14.out.cell 0
  have cr4_6_17_1 := RB_r4_6_14.out.cell 1
  have cr4_6_17_2 := RB_r4_6_14.out.cell 2
  have cr4_6_17_3 := RB_r4_6_14.out.cell 3
  simp only [List.getElem?_cons_zero, List.getElem?_cons_succ] at cr4_6_17_0 cr4_6_17_1 cr4_6_17_2 cr4_6_17_3
  go_wp2_with fail
  refine (HP.out _).mono ?_
  rintro e Wr4_6_15 ⟨rfl, hb⟩
  clear cr4_6_16_0 cr4_6_16_1 cr4_6_16_2 cr4_6_16_3 cr4_6_17_0 cr4_6_17_1 cr4_6_17_2 cr4_6_17_3
  have RA_r4_6_18 := Lib.hid (RA_r4_6_14.out.below hb RA_r4_6_14.out.lt)
  have RB_r4_6_18 := Lib.hid (RB_r4_6_14.out.below hb RB_r4_6_14.out.lt)
  have RC_r4_6_18 := Lib.hid (RC_r4_6_14.out.below hb RC_r4_6_14.out.lt)
  have B_r4_6_18 := Lib.hid (B_r4_6_14.out.trans (hb.mono B_r4_6_14.out.size))
  clear hb RA_r4_6_14 RB_r4_6_14 RC_r4_6_14 B_r4_6_14
  have cr4_6_20_0 := RA_r4_6_18.out.cell 0
  have cr4_6_20_1 := RA_r4_6_18.out.cell 1
  have cr4_6_20_2 := RA_r4_6_18.out.cell 2
  have cr4_6_20_3 := RA_r4_6_18.out.cell 3
  simp only [List.getElem?_cons_zero, List.getElem?_cons_succ] at cr4_6_20_0 cr4_6_20_1 cr4_6_20_2 cr4_6_20_3
  have cr4_6_21_0 := RB_r4_6_18.out.cell 0
  have cr4_6_21_1 := RB_r4_6_18.out.cell 1
  have cr4_6_21_2 := RB_r4_6_18.out.cell 2
  have cr4_6_21_3 := RB_r4_6_18.out.cell 3
  simp only [List.getElem?_cons_zero, List.getElem?_cons_succ] at cr4_6_21_0 cr4_6_21_1 cr4_6_21_2 cr4_6_21_3
  go_wp2_with fail
  refine (HM.out _).mono ?_
  rintro e Wr4_6_19 ⟨rfl, hb⟩
  clear cr4_6_20_0 cr4_6_20_1 cr4_6_20_2 cr4_6_20_3 cr4_6_21_0 cr4_6_21_1 cr4_6_21_2 cr4_6_21_3
  have RA_r4_6_22 := Lib.hid (RA_r4_6_18.out.below hb RA_r4_6_18.out.lt)
  have RB_r4_6_22 := Lib.hid (RB_r4_6_18.out.below hb RB_r4_6_18.out.lt)
  have RC_r4_6_22 := Lib.hid (RC_r4_6_18.out.below hb RC_r4_6_18.out.lt)
  have B_r4_6_22 := Lib.hid (B_r4_6_18.out.trans (hb.mono B_r4_6_18.out.size))
  clear hb RA_r4_6_18 RB_r4_6_18 RC_r4_6_18 B_r4_6_18
  have cr4_6_24_0 := RA_r4_6_22.out.cell 0
  have cr4_6_24_1 := RA_r4_6_22.out.cell 1
  have cr4_6_24_2 := RA_r4_6_22.out.cell 2
  have cr4_6_24_3 := RA_r4_6_22.out.cell 3
  simp only [List.getElem?_cons_zero, List.getElem?_cons_succ] at cr4_6_24_0 cr4_6_24_1 cr4_6_24_2 cr4_6_24_3
  have cr4_6_25_0 := RB_r4_6_22.out.cell 0
  have cr4_6_25_1 := RB_r4_6_22.out.cell 1
  have cr4_6_25_2 := RB_r4_6_22.out.cell 2
  have cr4_6_25_3 := RB_r4_6_22.out.cell 3
  simp only [List.getElem?_cons_zero, List.getElem?_cons_succ] at cr4_6_25_0 cr4_6_25_1 cr4_6_25_2 cr4_6_25_3
  go_wp2_with fail
  refine (HP2.out _).mono ?_
  rintro e Wr4_6_23 ⟨rfl, hb⟩
  clear cr4_6_24_0 cr4_6_24_1 cr4_6_24_2 cr4_6_24_3 cr4_6_25_0 cr4_6_25_1 cr4_6_25_2 cr4_6_25_3
  have RA_r4_6_26 := Lib.hid (RA_r4_6_22.out.below hb RA_r4_6_22.out.lt)
  have RB_r4_6_26 := Lib.hid (RB_r4_6_22.out.below hb RB_r4_6_22.out.lt)
  have RC_r4_6_26 := Lib.hid (RC_r4_6_22.out.below hb RC_r4_6_22.out.lt)
  have B_r4_6_26 := Lib.hid (B_r4_6_22.out.trans (hb.mono B_r4_6_22.out.size))
  clear hb RA_r4_6_22 RB_r4_6_22 RC_r4_6_22 B_r4_6_22
  have cr4_6_27_0 := RA_r4_6_26.out.cell 0
  have cr4_6_27_1 := RA_r4_6_26.out.cell 1
  have cr4_6_27_2 := RA_r4_6_26.out.cell 2
  have cr4_6_27_3 := RA_r4_6_26.out.cell 3
  simp only [List.getElem?_cons_zero, List.getElem?_cons_succ] at cr4_6_27_0 cr4_6_27_1 cr4_6_27_2 cr4_6_27_3
  have cr4_6_28_0 := RB_r4_6_26.out.cell 0
  have cr4_6_28_1 := RB_r4_6_26.out.cell 1
  have cr4_6_28_2 := RB_r4_6_26.out.cell 2
  have cr4_6_28_3 := RB_r4_6_26.out.cell 3
  simp only [List.getElem?_cons_zero, List.getElem?_cons_succ] at cr4_6_28_0 cr4_6_28_1 cr4_6_28_2 cr4_6_28_3
  go_wp2
  go_ret
  exact ⟨rfl, B_r4_6_26.out⟩

set_option maxHeartbeats 4000000 in
theorem walk_1013 (x0 x1 y0 y1 u0 u1 v0 v1 z0 z1 t0 t1 : Int) (w : World) (hm : meetB x0 x1 y0 y1 u0 u1 v0 v1 = true) (hc : coverB z0 z1 t0 t1 x0 x1 y0 y1 = false) (hp : coverB x0 x1 y0 y1 u0 u1 v0 v1 = true) (h3 : ¬ y0 = v0) :
    Calls Try.prog 6 #[KV x0 x1 y0 y1, KV u0 u1 v0 v1, KV z0 z1 t0 t1] w fun e w' => e = .returned (.bool true) ∧ Below w.heap.size w w' := by
  have HW := Lib.hid wakes_any
  have HM := Lib.hid (Meets_any x0 x1 y0 y1 u0 u1 v0 v1)
  have HM2 := Lib.hid (Meets_any u0 u1 v0 v1 x0 x1 y0 y1)
  have HCC := Lib.hid (Covers_any z0 z1 t0 t1 x0 x1 y0 y1)
  have HP := Lib.hid (Covers_any x0 x1 y0 y1 u0 u1 v0 v1)
  rw [meet_sym, hm] at HM2
  rw [hm] at HM
  rw [hc] at HCC
  have HP2 := Lib.hid (Covers_any u0 u1 v0 v1 x0 x1 y0 y1)
  have hn : coverB u0 u1 v0 v1 x0 x1 y0 y1 = false := Bool.eq_false_iff.2 (fun h => by have := cover_both hp h; omega)
  rw [hn] at HP2
  clear hn
  rw [hp] at HP
  clear hm hc hp
  go_enter Try.func6, Try.ntmps6
  go_upto_region 1 with fail
  have RA_1 := Lib.hid (((row_last w (w.heap.size) 23 [.int .i64 x0, .int .i64 x1, .int .i64 y0, .int .i64 y1] (by simp)).alloc (.cells #[.int .i64 u0, .int .i64 u1, .int .i64 v0, .int .i64 v1] 23)).alloc (.cells #[.int .i64 z0, .int .i64 z1, .int .i64 t0, .int .i64 t1] 23))
  have RB_1 := Lib.hid ((row_last (w.alloc (.cells #[.int .i64 x0, .int .i64 x1, .int .i64 y0, .int .i64 y1] 23)) (w.heap.size + 1) 23 [.int .i64 u0, .int .i64 u1, .int .i64 v0, .int .i64 v1] (by simp)).alloc (.cells #[.int .i64 z0, .int .i64 z1, .int .i64 t0, .int .i64 t1] 23))
  have RC_1 := Lib.hid (row_last ((w.alloc (.cells #[.int .i64 x0, .int .i64 x1, .int .i64 y0, .int .i64 y1] 23)).alloc (.cells #[.int .i64 u0, .int .i64 u1, .int .i64 v0, .int .i64 v1] 23)) (w.heap.size + 1 + 1) 23 [.int .i64 z0, .int .i64 z1, .int .i64 t0, .int .i64 t1] (by simp))
  have B_1 := Lib.hid ((((Below.refl w.heap.size w).alloc (Nat.le_refl _) (.cells #[.int .i64 x0, .int .i64 x1, .int .i64 y0, .int .i64 y1] 23)).alloc (by have := Nat.le_refl w.heap.size; simp <;> omega) (.cells #[.int .i64 u0, .int .i64 u1, .int .i64 v0, .int .i64 v1] 23)).alloc (by have := Nat.le_refl w.heap.size; simp <;> omega) (.cells #[.int .i64 z0, .int .i64 z1, .int .i64 t0, .int .i64 t1] 23))
  generalize (((w.alloc (.cells #[.int .i64 x0, .int .i64 x1, .int .i64 y0, .int .i64 y1] 23)).alloc (.cells #[.int .i64 u0, .int .i64 u1, .int .i64 v0, .int .i64 v1] 23)).alloc (.cells #[.int .i64 z0, .int .i64 z1, .int .i64 t0, .int .i64 t1] 23)) = V1 at RA_1 RB_1 RC_1 B_1 ⊢
  go_wp2_with fail
  refine (HW.out _).mono ?_
  rintro e W2 ⟨rfl, hb⟩
  have RA_3 := Lib.hid (RA_1.out.below hb RA_1.out.lt)
  have RB_3 := Lib.hid (RB_1.out.below hb RB_1.out.lt)
  have RC_3 := Lib.hid (RC_1.out.below hb RC_1.out.lt)
  have B_3 := Lib.hid (B_1.out.trans (hb.mono B_1.out.size))
  clear hb RA_1 RB_1 RC_1 B_1
  go_wp2_with fail
  refine wp_region_held_drew (S := fun w' => Row w' (w.heap.size) 23 [.int .i64 x0, .int .i64 x1, .int .i64 y0, .int .i64 y1] ∧ Row w' (w.heap.size + 1) 23 [.int .i64 u0, .int .i64 u1, .int .i64 v0, .int .i64 v1]) (by kernel_rfl) ⟨RA_3.out.drew, RB_3.out.drew⟩ (fun hHeld => ?_)
  clear hHeld
  have RA_4 := Lib.hid RA_3.out.drew
  have RB_4 := Lib.hid RB_3.out.drew
  have RC_4 := Lib.hid RC_3.out.drew
  have B_4 := Lib.hid B_3.out.drew
  clear RA_3 RB_3 RC_3 B_3
  generalize W2.drew = D4 at RA_4 RB_4 RC_4 B_4 ⊢
  refine wpAnyH_take (i := 0) (oi := ⟨some 9, _, _, _, _, _⟩) (v := ?vr4_1) rfl (by kernel_rfl) (by kernel_rfl) (by kernel_rfl) (fun _ _ _ h => h) (Or.inl ⟨by rfl, ?yr4_1⟩) ⟨RA_4.out, RB_4.out⟩ ?rr4_1
  case yr4_1 =>
    rintro w' hSw
    have k0 := (show Row w' _ _ _ from hSw.1).cell 0
    have k1 := (show Row w' _ _ _ from hSw.1).cell 1
    have k2 := (show Row w' _ _ _ from hSw.1).cell 2
    have k3 := (show Row w' _ _ _ from hSw.1).cell 3
    simp only [List.getElem?_cons_zero, List.getElem?_cons_succ] at k0 k1 k2 k3
    go_simp
    try with_reducible rfl
  try simp only [Act.put, List.setIfInBounds_toArray, List.set_cons_zero, List.set_cons_succ]
  refine wpAnyH_take (i := 1) (oi := ⟨some 10, _, _, _, _, _⟩) (v := ?vr4_2) rfl (by kernel_rfl) (by kernel_rfl) (by kernel_rfl) (fun _ _ _ h => h) (Or.inl ⟨by rfl, ?yr4_2⟩) ⟨RA_4.out, RB_4.out⟩ ?rr4_2
  case yr4_2 =>
    rintro w' hSw
    have k0 := (show Row w' _ _ _ from hSw.2).cell 0
    have k1 := (show Row w' _ _ _ from hSw.2).cell 1
    have k2 := (show Row w' _ _ _ from hSw.2).cell 2
    have k3 := (show Row w' _ _ _ from hSw.2).cell 3
    simp only [List.getElem?_cons_zero, List.getElem?_cons_succ] at k0 k1 k2 k3
    go_simp
    try with_reducible rfl
  try simp only [Act.put, List.setIfInBounds_toArray, List.set_cons_zero, List.set_cons_succ]
  refine wpAnyH_take (i := 3) (oi := ⟨some 12, _, _, _, _, _⟩) (v := ?vr4_3) rfl (by kernel_rfl) (by kernel_rfl) (by kernel_rfl) (fun _ _ _ h => h) (Or.inl ⟨by rfl, ?yr4_3⟩) ⟨RA_4.out, RB_4.out⟩ ?rr4_3
  case yr4_3 =>
    rintro w' hSw
    have k0 := (show Row w' _ _ _ from hSw.2).cell 0
    have k1 := (show Row w' _ _ _ from hSw.2).cell 1
    have k2 := (show Row w' _ _ _ from hSw.2).cell 2
    have k3 := (show Row w' _ _ _ from hSw.2).cell 3
    simp only [List.getElem?_cons_zero, List.getElem?_cons_succ] at k0 k1 k2 k3
    go_simp
    try with_reducible rfl
  try simp only [Act.put, List.setIfInBounds_toArray, List.set_cons_zero, List.set_cons_succ]
  refine wpAnyH_take (i := 4) (oi := ⟨some 13, _, _, _, _, _⟩) (v := ?vr4_4) rfl (by kernel_rfl) (by kernel_rfl) (by kernel_rfl) (fun _ _ _ h => h) (Or.inl ⟨by rfl, ?yr4_4⟩) ⟨RA_4.out, RB_4.out⟩ ?rr4_4
  case yr4_4 =>
    rintro w' hSw
    have k0 := (show Row w' _ _ _ from hSw.1).cell 0
    have k1 := (show Row w' _ _ _ from hSw.1).cell 1
    have k2 := (show Row w' _ _ _ from hSw.1).cell 2
    have k3 := (show Row w' _ _ _ from hSw.1).cell 3
    simp only [List.getElem?_cons_zero, List.getElem?_cons_succ] at k0 k1 k2 k3
    go_simp
    try with_reducible rfl
  try simp only [Act.put, List.setIfInBounds_toArray, List.set_cons_zero, List.set_cons_succ]
  refine wpAnyH_ready (rs := [2]) (by kernel_rfl) (by simp) ?_
  refine (AllReadyH.cons rfl (fun K hK => ?_) AllReadyH.nil)
  go_simp
  refine (HM.out _).mono ?_
  rintro e Xr4_5 ⟨rfl, hb⟩
  have RA_r4_5_5 := Lib.hid (RA_4.out.below hb RA_4.out.lt)
  have RB_r4_5_5 := Lib.hid (RB_4.out.below hb RB_4.out.lt)
  have RC_r4_5_5 := Lib.hid (RC_4.out.below hb RC_4.out.lt)
  have B_r4_5_5 := Lib.hid (B_4.out.trans (hb.mono B_4.out.size))
  clear hb RA_4 RB_4 RC_4 B_4
  refine hK _ _ ⟨RA_r4_5_5.out, RB_r4_5_5.out⟩ (fun _ => ?_)
  clear hK K
  try simp only [Act.put, List.setIfInBounds_toArray, List.set_cons_zero, List.set_cons_succ]
  refine wpAnyH_ready (rs := [5]) (by kernel_rfl) (by simp) ?_
  refine (AllReadyH.cons rfl (fun K hK => ?_) AllReadyH.nil)
  go_simp
  refine (HM2.out _).mono ?_
  rintro e Xr4_6 ⟨rfl, hb⟩
  have RA_r4_6_6 := Lib.hid (RA_r4_5_5.out.below hb RA_r4_5_5.out.lt)
  have RB_r4_6_6 := Lib.hid (RB_r4_5_5.out.below hb RB_r4_5_5.out.lt)
  have RC_r4_6_6 := Lib.hid (RC_r4_5_5.out.below hb RC_r4_5_5.out.lt)
  have B_r4_6_6 := Lib.hid (B_r4_5_5.out.trans (hb.mono B_r4_5_5.out.size))
  clear hb RA_r4_5_5 RB_r4_5_5 RC_r4_5_5 B_r4_5_5
  refine hK _ _ ⟨RA_r4_6_6.out, RB_r4_6_6.out⟩ (fun _ => ?_)
  clear hK K
  try simp only [Act.put, List.setIfInBounds_toArray, List.set_cons_zero, List.set_cons_succ]
  refine wpAnyH_take (i := 6) (oi := ⟨some 15, _, _, _, _, _⟩) (v := ?vr4_7) rfl (by kernel_rfl) (by kernel_rfl) (by kernel_rfl) (fun _ _ _ h => h) (Or.inl ⟨by rfl, ?yr4_7⟩) ⟨RA_r4_6_6.out, RB_r4_6_6.out⟩ ?rr4_7
  case yr4_7 =>
    rintro w' hSw
    go_simp
    try with_reducible rfl
  try simp only [Act.put, List.setIfInBounds_toArray, List.set_cons_zero, List.set_cons_succ]
  refine wpAnyH_done (by kernel_rfl) ?_ _
  have cr4_6_8_0 := RA_r4_6_6.out.cell 0
  have cr4_6_8_1 := RA_r4_6_6.out.cell 1
  have cr4_6_8_2 := RA_r4_6_6.out.cell 2
  have cr4_6_8_3 := RA_r4_6_6.out.cell 3
  simp only [List.getElem?_cons_zero, List.getElem?_cons_succ] at cr4_6_8_0 cr4_6_8_1 cr4_6_8_2 cr4_6_8_3
  have cr4_6_9_0 := RB_r4_6_6.out.cell 0
  have cr4_6_9_1 := RB_r4_6_6.out.cell 1
  have cr4_6_9_2 := RB_r4_6_6.out.cell 2
  have cr4_6_9_3 := RB_r4_6_6.out.cell 3
  simp only [List.getElem?_cons_zero, List.getElem?_cons_succ] at cr4_6_9_0 cr4_6_9_1 cr4_6_9_2 cr4_6_9_3
  go_wp2_with fail
  refine (HM.out _).mono ?_
  rintro e Wr4_6_7 ⟨rfl, hb⟩
  clear cr4_6_8_0 cr4_6_8_1 cr4_6_8_2 cr4_6_8_3 cr4_6_9_0 cr4_6_9_1 cr4_6_9_2 cr4_6_9_3
  have RA_r4_6_10 := Lib.hid (RA_r4_6_6.out.below hb RA_r4_6_6.out.lt)
  have RB_r4_6_10 := Lib.hid (RB_r4_6_6.out.below hb RB_r4_6_6.out.lt)
  have RC_r4_6_10 := Lib.hid (RC_r4_6_6.out.below hb RC_r4_6_6.out.lt)
  have B_r4_6_10 := Lib.hid (B_r4_6_6.out.trans (hb.mono B_r4_6_6.out.size))
  clear hb RA_r4_6_6 RB_r4_6_6 RC_r4_6_6 B_r4_6_6
  have cr4_6_12_0 := RA_r4_6_10.out.cell 0
  have cr4_6_12_1 := RA_r4_6_10.out.cell 1
  have cr4_6_12_2 := RA_r4_6_10.out.cell 2
  have cr4_6_12_3 := RA_r4_6_10.out.cell 3
  simp only [List.getElem?_cons_zero, List.getElem?_cons_succ] at cr4_6_12_0 cr4_6_12_1 cr4_6_12_2 cr4_6_12_3
  have cr4_6_13_0 := RC_r4_6_10.out.cell 0
  have cr4_6_13_1 := RC_r4_6_10.out.cell 1
  have cr4_6_13_2 := RC_r4_6_10.out.cell 2
  have cr4_6_13_3 := RC_r4_6_10.out.cell 3
  simp only [List.getElem?_cons_zero, List.getElem?_cons_succ] at cr4_6_13_0 cr4_6_13_1 cr4_6_13_2 cr4_6_13_3
  go_wp2_with fail
  refine (HCC.out _).mono ?_
  rintro e Wr4_6_11 ⟨rfl, hb⟩
  clear cr4_6_12_0 cr4_6_12_1 cr4_6_12_2 cr4_6_12_3 cr4_6_13_0 cr4_6_13_1 cr4_6_13_2 cr4_6_13_3
  have RA_r4_6_14 := Lib.hid (RA_r4_6_10.out.below hb RA_r4_6_10.out.lt)
  have RB_r4_6_14 := Lib.hid (RB_r4_6_10.out.below hb RB_r4_6_10.out.lt)
  have RC_r4_6_14 := Lib.hid (RC_r4_6_10.out.below hb RC_r4_6_10.out.lt)
  have B_r4_6_14 := Lib.hid (B_r4_6_10.out.trans (hb.mono B_r4_6_10.out.size))
  clear hb RA_r4_6_10 RB_r4_6_10 RC_r4_6_10 B_r4_6_10
  have cr4_6_16_0 := RA_r4_6_14.out.cell 0
  have cr4_6_16_1 := RA_r4_6_14.out.cell 1
  have cr4_6_16_2 := RA_r4_6_14.out.cell 2
  have cr4_6_16_3 := RA_r4_6_14.out.cell 3
  simp only [List.getElem?_cons_zero, List.getElem?_cons_succ] at cr4_6_16_0 cr4_6_16_1 cr4_6_16_2 cr4_6_16_3
  have cr4_6_17_0 := RB_r4_6_14.out.cell 0
  have cr4_6_17_1 := RB_r4_6_14.out.cell 1
  have cr4_6_17_2 := RB_r4_6_14.out.cell 2
  have cr4_6_17_3 := RB_r4_6_14.out.cell 3
  simp only [List.getElem?_cons_zero, List.getElem?_cons_succ] at cr4_6_17_0 cr4_6_17_1 cr4_6_17_2 cr4_6_17_3
  go_wp2_with fail
  refine (HP.out _).mono ?_
  rintro e Wr4_6_15 ⟨rfl, hb⟩
  clear cr4_6_16_0 cr4_6_16_1 cr4_6_16_2 cr4_6_16_3 cr4_6_17_0 cr4_6_17_1 cr4_6_17_2 cr4_6_17_3
  have RA_r4_6_18 := Lib.hid (RA_r4_6_14.out.below hb RA_r4_6_14.out.lt)
  have RB_r4_6_18 := Lib.hid (RB_r4_6_14.out.below hb RB_r4_6_14.out.lt)
  have RC_r4_6_18 := Lib.hid (RC_r4_6_14.out.below hb RC_r4_6_14.out.lt)
  have B_r4_6_18 := Lib.hid (B_r4_6_14.out.trans (hb.mono B_r4_6_14.out.size))
  clear hb RA_r4_6_14 RB_r4_6_14 RC_r4_6_14 B_r4_6_14
  have cr4_6_20_0 := RA_r4_6_18.out.cell 0
  have cr4_6_20_1 := RA_r4_6_18.out.cell 1
  have cr4_6_20_2 := RA_r4_6_18.out.cell 2
  have cr4_6_20_3 := RA_r4_6_18.out.cell 3
  simp only [List.getElem?_cons_zero, List.getElem?_cons_succ] at cr4_6_20_0 cr4_6_20_1 cr4_6_20_2 cr4_6_20_3
  have cr4_6_21_0 := RB_r4_6_18.out.cell 0
  have cr4_6_21_1 := RB_r4_6_18.out.cell 1
  have cr4_6_21_2 := RB_r4_6_18.out.cell 2
  have cr4_6_21_3 := RB_r4_6_18.out.cell 3
  simp only [List.getElem?_cons_zero, List.getElem?_cons_succ] at cr4_6_21_0 cr4_6_21_1 cr4_6_21_2 cr4_6_21_3
  go_wp2_with fail
  refine (HM.out _).mono ?_
  rintro e Wr4_6_19 ⟨rfl, hb⟩
  clear cr4_6_20_0 cr4_6_20_1 cr4_6_20_2 cr4_6_20_3 cr4_6_21_0 cr4_6_21_1 cr4_6_21_2 cr4_6_21_3
  have RA_r4_6_22 := Lib.hid (RA_r4_6_18.out.below hb RA_r4_6_18.out.lt)
  have RB_r4_6_22 := Lib.hid (RB_r4_6_18.out.below hb RB_r4_6_18.out.lt)
  have RC_r4_6_22 := Lib.hid (RC_r4_6_18.out.below hb RC_r4_6_18.out.lt)
  have B_r4_6_22 := Lib.hid (B_r4_6_18.out.trans (hb.mono B_r4_6_18.out.size))
  clear hb RA_r4_6_18 RB_r4_6_18 RC_r4_6_18 B_r4_6_18
  have cr4_6_24_0 := RA_r4_6_22.out.cell 0
  have cr4_6_24_1 := RA_r4_6_22.out.cell 1
  have cr4_6_24_2 := RA_r4_6_22.out.cell 2
  have cr4_6_24_3 := RA_r4_6_22.out.cell 3
  simp only [List.getElem?_cons_zero, List.getElem?_cons_succ] at cr4_6_24_0 cr4_6_24_1 cr4_6_24_2 cr4_6_24_3
  have cr4_6_25_0 := RB_r4_6_22.out.cell 0
  have cr4_6_25_1 := RB_r4_6_22.out.cell 1
  have cr4_6_25_2 := RB_r4_6_22.out.cell 2
  have cr4_6_25_3 := RB_r4_6_22.out.cell 3
  simp only [List.getElem?_cons_zero, List.getElem?_cons_succ] at cr4_6_25_0 cr4_6_25_1 cr4_6_25_2 cr4_6_25_3
  go_wp2_with fail
  refine (HP2.out _).mono ?_
  rintro e Wr4_6_23 ⟨rfl, hb⟩
  clear cr4_6_24_0 cr4_6_24_1 cr4_6_24_2 cr4_6_24_3 cr4_6_25_0 cr4_6_25_1 cr4_6_25_2 cr4_6_25_3
  have RA_r4_6_26 := Lib.hid (RA_r4_6_22.out.below hb RA_r4_6_22.out.lt)
  have RB_r4_6_26 := Lib.hid (RB_r4_6_22.out.below hb RB_r4_6_22.out.lt)
  have RC_r4_6_26 := Lib.hid (RC_r4_6_22.out.below hb RC_r4_6_22.out.lt)
  have B_r4_6_26 := Lib.hid (B_r4_6_22.out.trans (hb.mono B_r4_6_22.out.size))
  clear hb RA_r4_6_22 RB_r4_6_22 RC_r4_6_22 B_r4_6_22
  have cr4_6_27_0 := RA_r4_6_26.out.cell 0
  have cr4_6_27_1 := RA_r4_6_26.out.cell 1
  have cr4_6_27_2 := RA_r4_6_26.out.cell 2
  have cr4_6_27_3 := RA_r4_6_26.out.cell 3
  simp only [List.getElem?_cons_zero, List.getElem?_cons_succ] at cr4_6_27_0 cr4_6_27_1 cr4_6_27_2 cr4_6_27_3
  have cr4_6_28_0 := RB_r4_6_26.out.cell 0
  have cr4_6_28_1 := RB_r4_6_26.out.cell 1
  have cr4_6_28_2 := RB_r4_6_26.out.cell 2
  have cr4_6_28_3 := RB_r4_6_26.out.cell 3
  simp only [List.getElem?_cons_zero, List.getElem?_cons_succ] at cr4_6_28_0 cr4_6_28_1 cr4_6_28_2 cr4_6_28_3
  go_wp2
  go_ret
  exact ⟨rfl, B_r4_6_26.out⟩

set_option maxHeartbeats 4000000 in
theorem walk_1015 (x0 x1 y0 y1 u0 u1 v0 v1 z0 z1 t0 t1 : Int) (w : World) (hm : meetB x0 x1 y0 y1 u0 u1 v0 v1 = true) (hc : coverB z0 z1 t0 t1 x0 x1 y0 y1 = false) (hp : coverB x0 x1 y0 y1 u0 u1 v0 v1 = true) (h4 : ¬ y1 = v1) :
    Calls Try.prog 6 #[KV x0 x1 y0 y1, KV u0 u1 v0 v1, KV z0 z1 t0 t1] w fun e w' => e = .returned (.bool true) ∧ Below w.heap.size w w' := by
  have HW := Lib.hid wakes_any
  have HM := Lib.hid (Meets_any x0 x1 y0 y1 u0 u1 v0 v1)
  have HM2 := Lib.hid (Meets_any u0 u1 v0 v1 x0 x1 y0 y1)
  have HCC := Lib.hid (Covers_any z0 z1 t0 t1 x0 x1 y0 y1)
  have HP := Lib.hid (Covers_any x0 x1 y0 y1 u0 u1 v0 v1)
  rw [meet_sym, hm] at HM2
  rw [hm] at HM
  rw [hc] at HCC
  have HP2 := Lib.hid (Covers_any u0 u1 v0 v1 x0 x1 y0 y1)
  have hn : coverB u0 u1 v0 v1 x0 x1 y0 y1 = false := Bool.eq_false_iff.2 (fun h => by have := cover_both hp h; omega)
  rw [hn] at HP2
  clear hn
  rw [hp] at HP
  clear hm hc hp
  go_enter Try.func6, Try.ntmps6
  go_upto_region 1 with fail
  have RA_1 := Lib.hid (((row_last w (w.heap.size) 23 [.int .i64 x0, .int .i64 x1, .int .i64 y0, .int .i64 y1] (by simp)).alloc (.cells #[.int .i64 u0, .int .i64 u1, .int .i64 v0, .int .i64 v1] 23)).alloc (.cells #[.int .i64 z0, .int .i64 z1, .int .i64 t0, .int .i64 t1] 23))
  have RB_1 := Lib.hid ((row_last (w.alloc (.cells #[.int .i64 x0, .int .i64 x1, .int .i64 y0, .int .i64 y1] 23)) (w.heap.size + 1) 23 [.int .i64 u0, .int .i64 u1, .int .i64 v0, .int .i64 v1] (by simp)).alloc (.cells #[.int .i64 z0, .int .i64 z1, .int .i64 t0, .int .i64 t1] 23))
  have RC_1 := Lib.hid (row_last ((w.alloc (.cells #[.int .i64 x0, .int .i64 x1, .int .i64 y0, .int .i64 y1] 23)).alloc (.cells #[.int .i64 u0, .int .i64 u1, .int .i64 v0, .int .i64 v1] 23)) (w.heap.size + 1 + 1) 23 [.int .i64 z0, .int .i64 z1, .int .i64 t0, .int .i64 t1] (by simp))
  have B_1 := Lib.hid ((((Below.refl w.heap.size w).alloc (Nat.le_refl _) (.cells #[.int .i64 x0, .int .i64 x1, .int .i64 y0, .int .i64 y1] 23)).alloc (by have := Nat.le_refl w.heap.size; simp <;> omega) (.cells #[.int .i64 u0, .int .i64 u1, .int .i64 v0, .int .i64 v1] 23)).alloc (by have := Nat.le_refl w.heap.size; simp <;> omega) (.cells #[.int .i64 z0, .int .i64 z1, .int .i64 t0, .int .i64 t1] 23))
  generalize (((w.alloc (.cells #[.int .i64 x0, .int .i64 x1, .int .i64 y0, .int .i64 y1] 23)).alloc (.cells #[.int .i64 u0, .int .i64 u1, .int .i64 v0, .int .i64 v1] 23)).alloc (.cells #[.int .i64 z0, .int .i64 z1, .int .i64 t0, .int .i64 t1] 23)) = V1 at RA_1 RB_1 RC_1 B_1 ⊢
  go_wp2_with fail
  refine (HW.out _).mono ?_
  rintro e W2 ⟨rfl, hb⟩
  have RA_3 := Lib.hid (RA_1.out.below hb RA_1.out.lt)
  have RB_3 := Lib.hid (RB_1.out.below hb RB_1.out.lt)
  have RC_3 := Lib.hid (RC_1.out.below hb RC_1.out.lt)
  have B_3 := Lib.hid (B_1.out.trans (hb.mono B_1.out.size))
  clear hb RA_1 RB_1 RC_1 B_1
  go_wp2_with fail
  refine wp_region_held_drew (S := fun w' => Row w' (w.heap.size) 23 [.int .i64 x0, .int .i64 x1, .int .i64 y0, .int .i64 y1] ∧ Row w' (w.heap.size + 1) 23 [.int .i64 u0, .int .i64 u1, .int .i64 v0, .int .i64 v1]) (by kernel_rfl) ⟨RA_3.out.drew, RB_3.out.drew⟩ (fun hHeld => ?_)
  clear hHeld
  have RA_4 := Lib.hid RA_3.out.drew
  have RB_4 := Lib.hid RB_3.out.drew
  have RC_4 := Lib.hid RC_3.out.drew
  have B_4 := Lib.hid B_3.out.drew
  clear RA_3 RB_3 RC_3 B_3
  generalize W2.drew = D4 at RA_4 RB_4 RC_4 B_4 ⊢
  refine wpAnyH_take (i := 0) (oi := ⟨some 9, _, _, _, _, _⟩) (v := ?vr4_1) rfl (by kernel_rfl) (by kernel_rfl) (by kernel_rfl) (fun _ _ _ h => h) (Or.inl ⟨by rfl, ?yr4_1⟩) ⟨RA_4.out, RB_4.out⟩ ?rr4_1
  case yr4_1 =>
    rintro w' hSw
    have k0 := (show Row w' _ _ _ from hSw.1).cell 0
    have k1 := (show Row w' _ _ _ from hSw.1).cell 1
    have k2 := (show Row w' _ _ _ from hSw.1).cell 2
    have k3 := (show Row w' _ _ _ from hSw.1).cell 3
    simp only [List.getElem?_cons_zero, List.getElem?_cons_succ] at k0 k1 k2 k3
    go_simp
    try with_reducible rfl
  try simp only [Act.put, List.setIfInBounds_toArray, List.set_cons_zero, List.set_cons_succ]
  refine wpAnyH_take (i := 1) (oi := ⟨some 10, _, _, _, _, _⟩) (v := ?vr4_2) rfl (by kernel_rfl) (by kernel_rfl) (by kernel_rfl) (fun _ _ _ h => h) (Or.inl ⟨by rfl, ?yr4_2⟩) ⟨RA_4.out, RB_4.out⟩ ?rr4_2
  case yr4_2 =>
    rintro w' hSw
    have k0 := (show Row w' _ _ _ from hSw.2).cell 0
    have k1 := (show Row w' _ _ _ from hSw.2).cell 1
    have k2 := (show Row w' _ _ _ from hSw.2).cell 2
    have k3 := (show Row w' _ _ _ from hSw.2).cell 3
    simp only [List.getElem?_cons_zero, List.getElem?_cons_succ] at k0 k1 k2 k3
    go_simp
    try with_reducible rfl
  try simp only [Act.put, List.setIfInBounds_toArray, List.set_cons_zero, List.set_cons_succ]
  refine wpAnyH_take (i := 3) (oi := ⟨some 12, _, _, _, _, _⟩) (v := ?vr4_3) rfl (by kernel_rfl) (by kernel_rfl) (by kernel_rfl) (fun _ _ _ h => h) (Or.inl ⟨by rfl, ?yr4_3⟩) ⟨RA_4.out, RB_4.out⟩ ?rr4_3
  case yr4_3 =>
    rintro w' hSw
    have k0 := (show Row w' _ _ _ from hSw.2).cell 0
    have k1 := (show Row w' _ _ _ from hSw.2).cell 1
    have k2 := (show Row w' _ _ _ from hSw.2).cell 2
    have k3 := (show Row w' _ _ _ from hSw.2).cell 3
    simp only [List.getElem?_cons_zero, List.getElem?_cons_succ] at k0 k1 k2 k3
    go_simp
    try with_reducible rfl
  try simp only [Act.put, List.setIfInBounds_toArray, List.set_cons_zero, List.set_cons_succ]
  refine wpAnyH_take (i := 4) (oi := ⟨some 13, _, _, _, _, _⟩) (v := ?vr4_4) rfl (by kernel_rfl) (by kernel_rfl) (by kernel_rfl) (fun _ _ _ h => h) (Or.inl ⟨by rfl, ?yr4_4⟩) ⟨RA_4.out, RB_4.out⟩ ?rr4_4
  case yr4_4 =>
    rintro w' hSw
    have k0 := (show Row w' _ _ _ from hSw.1).cell 0
    have k1 := (show Row w' _ _ _ from hSw.1).cell 1
    have k2 := (show Row w' _ _ _ from hSw.1).cell 2
    have k3 := (show Row w' _ _ _ from hSw.1).cell 3
    simp only [List.getElem?_cons_zero, List.getElem?_cons_succ] at k0 k1 k2 k3
    go_simp
    try with_reducible rfl
  try simp only [Act.put, List.setIfInBounds_toArray, List.set_cons_zero, List.set_cons_succ]
  refine wpAnyH_ready (rs := [2]) (by kernel_rfl) (by simp) ?_
  refine (AllReadyH.cons rfl (fun K hK => ?_) AllReadyH.nil)
  go_simp
  refine (HM.out _).mono ?_
  rintro e Xr4_5 ⟨rfl, hb⟩
  have RA_r4_5_5 := Lib.hid (RA_4.out.below hb RA_4.out.lt)
  have RB_r4_5_5 := Lib.hid (RB_4.out.below hb RB_4.out.lt)
  have RC_r4_5_5 := Lib.hid (RC_4.out.below hb RC_4.out.lt)
  have B_r4_5_5 := Lib.hid (B_4.out.trans (hb.mono B_4.out.size))
  clear hb RA_4 RB_4 RC_4 B_4
  refine hK _ _ ⟨RA_r4_5_5.out, RB_r4_5_5.out⟩ (fun _ => ?_)
  clear hK K
  try simp only [Act.put, List.setIfInBounds_toArray, List.set_cons_zero, List.set_cons_succ]
  refine wpAnyH_ready (rs := [5]) (by kernel_rfl) (by simp) ?_
  refine (AllReadyH.cons rfl (fun K hK => ?_) AllReadyH.nil)
  go_simp
  refine (HM2.out _).mono ?_
  rintro e Xr4_6 ⟨rfl, hb⟩
  have RA_r4_6_6 := Lib.hid (RA_r4_5_5.out.below hb RA_r4_5_5.out.lt)
  have RB_r4_6_6 := Lib.hid (RB_r4_5_5.out.below hb RB_r4_5_5.out.lt)
  have RC_r4_6_6 := Lib.hid (RC_r4_5_5.out.below hb RC_r4_5_5.out.lt)
  have B_r4_6_6 := Lib.hid (B_r4_5_5.out.trans (hb.mono B_r4_5_5.out.size))
  clear hb RA_r4_5_5 RB_r4_5_5 RC_r4_5_5 B_r4_5_5
  refine hK _ _ ⟨RA_r4_6_6.out, RB_r4_6_6.out⟩ (fun _ => ?_)
  clear hK K
  try simp only [Act.put, List.setIfInBounds_toArray, List.set_cons_zero, List.set_cons_succ]
  refine wpAnyH_take (i := 6) (oi := ⟨some 15, _, _, _, _, _⟩) (v := ?vr4_7) rfl (by kernel_rfl) (by kernel_rfl) (by kernel_rfl) (fun _ _ _ h => h) (Or.inl ⟨by rfl, ?yr4_7⟩) ⟨RA_r4_6_6.out, RB_r4_6_6.out⟩ ?rr4_7
  case yr4_7 =>
    rintro w' hSw
    go_simp
    try with_reducible rfl
  try simp only [Act.put, List.setIfInBounds_toArray, List.set_cons_zero, List.set_cons_succ]
  refine wpAnyH_done (by kernel_rfl) ?_ _
  have cr4_6_8_0 := RA_r4_6_6.out.cell 0
  have cr4_6_8_1 := RA_r4_6_6.out.cell 1
  have cr4_6_8_2 := RA_r4_6_6.out.cell 2
  have cr4_6_8_3 := RA_r4_6_6.out.cell 3
  simp only [List.getElem?_cons_zero, List.getElem?_cons_succ] at cr4_6_8_0 cr4_6_8_1 cr4_6_8_2 cr4_6_8_3
  have cr4_6_9_0 := RB_r4_6_6.out.cell 0
  have cr4_6_9_1 := RB_r4_6_6.out.cell 1
  have cr4_6_9_2 := RB_r4_6_6.out.cell 2
  have cr4_6_9_3 := RB_r4_6_6.out.cell 3
  simp only [List.getElem?_cons_zero, List.getElem?_cons_succ] at cr4_6_9_0 cr4_6_9_1 cr4_6_9_2 cr4_6_9_3
  go_wp2_with fail
  refine (HM.out _).mono ?_
  rintro e Wr4_6_7 ⟨rfl, hb⟩
  clear cr4_6_8_0 cr4_6_8_1 cr4_6_8_2 cr4_6_8_3 cr4_6_9_0 cr4_6_9_1 cr4_6_9_2 cr4_6_9_3
  have RA_r4_6_10 := Lib.hid (RA_r4_6_6.out.below hb RA_r4_6_6.out.lt)
  have RB_r4_6_10 := Lib.hid (RB_r4_6_6.out.below hb RB_r4_6_6.out.lt)
  have RC_r4_6_10 := Lib.hid (RC_r4_6_6.out.below hb RC_r4_6_6.out.lt)
  have B_r4_6_10 := Lib.hid (B_r4_6_6.out.trans (hb.mono B_r4_6_6.out.size))
  clear hb RA_r4_6_6 RB_r4_6_6 RC_r4_6_6 B_r4_6_6
  have cr4_6_12_0 := RA_r4_6_10.out.cell 0
  have cr4_6_12_1 := RA_r4_6_10.out.cell 1
  have cr4_6_12_2 := RA_r4_6_10.out.cell 2
  have cr4_6_12_3 := RA_r4_6_10.out.cell 3
  simp only [List.getElem?_cons_zero, List.getElem?_cons_succ] at cr4_6_12_0 cr4_6_12_1 cr4_6_12_2 cr4_6_12_3
  have cr4_6_13_0 := RC_r4_6_10.out.cell 0
  have cr4_6_13_1 := RC_r4_6_10.out.cell 1
  have cr4_6_13_2 := RC_r4_6_10.out.cell 2
  have cr4_6_13_3 := RC_r4_6_10.out.cell 3
  simp only [List.getElem?_cons_zero, List.getElem?_cons_succ] at cr4_6_13_0 cr4_6_13_1 cr4_6_13_2 cr4_6_13_3
  go_wp2_with fail
  refine (HCC.out _).mono ?_
  rintro e Wr4_6_11 ⟨rfl, hb⟩
  clear cr4_6_12_0 cr4_6_12_1 cr4_6_12_2 cr4_6_12_3 cr4_6_13_0 cr4_6_13_1 cr4_6_13_2 cr4_6_13_3
  have RA_r4_6_14 := Lib.hid (RA_r4_6_10.out.below hb RA_r4_6_10.out.lt)
  have RB_r4_6_14 := Lib.hid (RB_r4_6_10.out.below hb RB_r4_6_10.out.lt)
  have RC_r4_6_14 := Lib.hid (RC_r4_6_10.out.below hb RC_r4_6_10.out.lt)
  have B_r4_6_14 := Lib.hid (B_r4_6_10.out.trans (hb.mono B_r4_6_10.out.size))
  clear hb RA_r4_6_10 RB_r4_6_10 RC_r4_6_10 B_r4_6_10
  have cr4_6_16_0 := RA_r4_6_14.out.cell 0
  have cr4_6_16_1 := RA_r4_6_14.out.cell 1
  have cr4_6_16_2 := RA_r4_6_14.out.cell 2
  have cr4_6_16_3 := RA_r4_6_14.out.cell 3
  simp only [List.getElem?_cons_zero, List.getElem?_cons_succ] at cr4_6_16_0 cr4_6_16_1 cr4_6_16_2 cr4_6_16_3
  have cr4_6_17_0 := RB_r4_6_14.out.cell 0
  have cr4_6_17_1 := RB_r4_6_14.out.cell 1
  have cr4_6_17_2 := RB_r4_6_14.out.cell 2
  have cr4_6_17_3 := RB_r4_6_14.out.cell 3
  simp only [List.getElem?_cons_zero, List.getElem?_cons_succ] at cr4_6_17_0 cr4_6_17_1 cr4_6_17_2 cr4_6_17_3
  go_wp2_with fail
  refine (HP.out _).mono ?_
  rintro e Wr4_6_15 ⟨rfl, hb⟩
  clear cr4_6_16_0 cr4_6_16_1 cr4_6_16_2 cr4_6_16_3 cr4_6_17_0 cr4_6_17_1 cr4_6_17_2 cr4_6_17_3
  have RA_r4_6_18 := Lib.hid (RA_r4_6_14.out.below hb RA_r4_6_14.out.lt)
  have RB_r4_6_18 := Lib.hid (RB_r4_6_14.out.below hb RB_r4_6_14.out.lt)
  have RC_r4_6_18 := Lib.hid (RC_r4_6_14.out.below hb RC_r4_6_14.out.lt)
  have B_r4_6_18 := Lib.hid (B_r4_6_14.out.trans (hb.mono B_r4_6_14.out.size))
  clear hb RA_r4_6_14 RB_r4_6_14 RC_r4_6_14 B_r4_6_14
  have cr4_6_20_0 := RA_r4_6_18.out.cell 0
  have cr4_6_20_1 := RA_r4_6_18.out.cell 1
  have cr4_6_20_2 := RA_r4_6_18.out.cell 2
  have cr4_6_20_3 := RA_r4_6_18.out.cell 3
  simp only [List.getElem?_cons_zero, List.getElem?_cons_succ] at cr4_6_20_0 cr4_6_20_1 cr4_6_20_2 cr4_6_20_3
  have cr4_6_21_0 := RB_r4_6_18.out.cell 0
  have cr4_6_21_1 := RB_r4_6_18.out.cell 1
  have cr4_6_21_2 := RB_r4_6_18.out.cell 2
  have cr4_6_21_3 := RB_r4_6_18.out.cell 3
  simp only [List.getElem?_cons_zero, List.getElem?_cons_succ] at cr4_6_21_0 cr4_6_21_1 cr4_6_21_2 cr4_6_21_3
  go_wp2_with fail
  refine (HM.out _).mono ?_
  rintro e Wr4_6_19 ⟨rfl, hb⟩
  clear cr4_6_20_0 cr4_6_20_1 cr4_6_20_2 cr4_6_20_3 cr4_6_21_0 cr4_6_21_1 cr4_6_21_2 cr4_6_21_3
  have RA_r4_6_22 := Lib.hid (RA_r4_6_18.out.below hb RA_r4_6_18.out.lt)
  have RB_r4_6_22 := Lib.hid (RB_r4_6_18.out.below hb RB_r4_6_18.out.lt)
  have RC_r4_6_22 := Lib.hid (RC_r4_6_18.out.below hb RC_r4_6_18.out.lt)
  have B_r4_6_22 := Lib.hid (B_r4_6_18.out.trans (hb.mono B_r4_6_18.out.size))
  clear hb RA_r4_6_18 RB_r4_6_18 RC_r4_6_18 B_r4_6_18
  have cr4_6_24_0 := RA_r4_6_22.out.cell 0
  have cr4_6_24_1 := RA_r4_6_22.out.cell 1
  have cr4_6_24_2 := RA_r4_6_22.out.cell 2
  have cr4_6_24_3 := RA_r4_6_22.out.cell 3
  simp only [List.getElem?_cons_zero, List.getElem?_cons_succ] at cr4_6_24_0 cr4_6_24_1 cr4_6_24_2 cr4_6_24_3
  have cr4_6_25_0 := RB_r4_6_22.out.cell 0
  have cr4_6_25_1 := RB_r4_6_22.out.cell 1
  have cr4_6_25_2 := RB_r4_6_22.out.cell 2
  have cr4_6_25_3 := RB_r4_6_22.out.cell 3
  simp only [List.getElem?_cons_zero, List.getElem?_cons_succ] at cr4_6_25_0 cr4_6_25_1 cr4_6_25_2 cr4_6_25_3
  go_wp2_with fail
  refine (HP2.out _).mono ?_
  rintro e Wr4_6_23 ⟨rfl, hb⟩
  clear cr4_6_24_0 cr4_6_24_1 cr4_6_24_2 cr4_6_24_3 cr4_6_25_0 cr4_6_25_1 cr4_6_25_2 cr4_6_25_3
  have RA_r4_6_26 := Lib.hid (RA_r4_6_22.out.below hb RA_r4_6_22.out.lt)
  have RB_r4_6_26 := Lib.hid (RB_r4_6_22.out.below hb RB_r4_6_22.out.lt)
  have RC_r4_6_26 := Lib.hid (RC_r4_6_22.out.below hb RC_r4_6_22.out.lt)
  have B_r4_6_26 := Lib.hid (B_r4_6_22.out.trans (hb.mono B_r4_6_22.out.size))
  clear hb RA_r4_6_22 RB_r4_6_22 RC_r4_6_22 B_r4_6_22
  have cr4_6_27_0 := RA_r4_6_26.out.cell 0
  have cr4_6_27_1 := RA_r4_6_26.out.cell 1
  have cr4_6_27_2 := RA_r4_6_26.out.cell 2
  have cr4_6_27_3 := RA_r4_6_26.out.cell 3
  simp only [List.getElem?_cons_zero, List.getElem?_cons_succ] at cr4_6_27_0 cr4_6_27_1 cr4_6_27_2 cr4_6_27_3
  have cr4_6_28_0 := RB_r4_6_26.out.cell 0
  have cr4_6_28_1 := RB_r4_6_26.out.cell 1
  have cr4_6_28_2 := RB_r4_6_26.out.cell 2
  have cr4_6_28_3 := RB_r4_6_26.out.cell 3
  simp only [List.getElem?_cons_zero, List.getElem?_cons_succ] at cr4_6_28_0 cr4_6_28_1 cr4_6_28_2 cr4_6_28_3
  go_wp2
  go_ret
  exact ⟨rfl, B_r4_6_26.out⟩

set_option maxHeartbeats 4000000 in
theorem walk_1111 (x0 x1 y0 y1 u0 u1 v0 v1 z0 z1 t0 t1 : Int) (w : World) (hm : meetB x0 x1 y0 y1 u0 u1 v0 v1 = true) (hc : coverB z0 z1 t0 t1 x0 x1 y0 y1 = true) (hp : coverB x0 x1 y0 y1 u0 u1 v0 v1 = true) (h1 : ¬ x0 = u0) :
    Calls Try.prog 6 #[KV x0 x1 y0 y1, KV u0 u1 v0 v1, KV z0 z1 t0 t1] w fun e w' => e = .returned (.bool true) ∧ Below w.heap.size w w' := by
  have HW := Lib.hid wakes_any
  have HM := Lib.hid (Meets_any x0 x1 y0 y1 u0 u1 v0 v1)
  have HM2 := Lib.hid (Meets_any u0 u1 v0 v1 x0 x1 y0 y1)
  have HCC := Lib.hid (Covers_any z0 z1 t0 t1 x0 x1 y0 y1)
  have HP := Lib.hid (Covers_any x0 x1 y0 y1 u0 u1 v0 v1)
  rw [meet_sym, hm] at HM2
  have HMC := Lib.hid (Meets_any z0 z1 t0 t1 u0 u1 v0 v1)
  rw [meet_cover hm hc] at HMC
  rw [hm] at HM
  rw [hc] at HCC
  have HP2 := Lib.hid (Covers_any u0 u1 v0 v1 x0 x1 y0 y1)
  have hn : coverB u0 u1 v0 v1 x0 x1 y0 y1 = false := Bool.eq_false_iff.2 (fun h => by have := cover_both hp h; omega)
  rw [hn] at HP2
  clear hn
  rw [hp] at HP
  clear hm hc hp
  go_enter Try.func6, Try.ntmps6
  go_upto_region 1 with fail
  have RA_1 := Lib.hid (((row_last w (w.heap.size) 23 [.int .i64 x0, .int .i64 x1, .int .i64 y0, .int .i64 y1] (by simp)).alloc (.cells #[.int .i64 u0, .int .i64 u1, .int .i64 v0, .int .i64 v1] 23)).alloc (.cells #[.int .i64 z0, .int .i64 z1, .int .i64 t0, .int .i64 t1] 23))
  have RB_1 := Lib.hid ((row_last (w.alloc (.cells #[.int .i64 x0, .int .i64 x1, .int .i64 y0, .int .i64 y1] 23)) (w.heap.size + 1) 23 [.int .i64 u0, .int .i64 u1, .int .i64 v0, .int .i64 v1] (by simp)).alloc (.cells #[.int .i64 z0, .int .i64 z1, .int .i64 t0, .int .i64 t1] 23))
  have RC_1 := Lib.hid (row_last ((w.alloc (.cells #[.int .i64 x0, .int .i64 x1, .int .i64 y0, .int .i64 y1] 23)).alloc (.cells #[.int .i64 u0, .int .i64 u1, .int .i64 v0, .int .i64 v1] 23)) (w.heap.size + 1 + 1) 23 [.int .i64 z0, .int .i64 z1, .int .i64 t0, .int .i64 t1] (by simp))
  have B_1 := Lib.hid ((((Below.refl w.heap.size w).alloc (Nat.le_refl _) (.cells #[.int .i64 x0, .int .i64 x1, .int .i64 y0, .int .i64 y1] 23)).alloc (by have := Nat.le_refl w.heap.size; simp <;> omega) (.cells #[.int .i64 u0, .int .i64 u1, .int .i64 v0, .int .i64 v1] 23)).alloc (by have := Nat.le_refl w.heap.size; simp <;> omega) (.cells #[.int .i64 z0, .int .i64 z1, .int .i64 t0, .int .i64 t1] 23))
  generalize (((w.alloc (.cells #[.int .i64 x0, .int .i64 x1, .int .i64 y0, .int .i64 y1] 23)).alloc (.cells #[.int .i64 u0, .int .i64 u1, .int .i64 v0, .int .i64 v1] 23)).alloc (.cells #[.int .i64 z0, .int .i64 z1, .int .i64 t0, .int .i64 t1] 23)) = V1 at RA_1 RB_1 RC_1 B_1 ⊢
  go_wp2_with fail
  refine (HW.out _).mono ?_
  rintro e W2 ⟨rfl, hb⟩
  have RA_3 := Lib.hid (RA_1.out.below hb RA_1.out.lt)
  have RB_3 := Lib.hid (RB_1.out.below hb RB_1.out.lt)
  have RC_3 := Lib.hid (RC_1.out.below hb RC_1.out.lt)
  have B_3 := Lib.hid (B_1.out.trans (hb.mono B_1.out.size))
  clear hb RA_1 RB_1 RC_1 B_1
  go_wp2_with fail
  refine wp_region_held_drew (S := fun w' => Row w' (w.heap.size) 23 [.int .i64 x0, .int .i64 x1, .int .i64 y0, .int .i64 y1] ∧ Row w' (w.heap.size + 1) 23 [.int .i64 u0, .int .i64 u1, .int .i64 v0, .int .i64 v1]) (by kernel_rfl) ⟨RA_3.out.drew, RB_3.out.drew⟩ (fun hHeld => ?_)
  clear hHeld
  have RA_4 := Lib.hid RA_3.out.drew
  have RB_4 := Lib.hid RB_3.out.drew
  have RC_4 := Lib.hid RC_3.out.drew
  have B_4 := Lib.hid B_3.out.drew
  clear RA_3 RB_3 RC_3 B_3
  generalize W2.drew = D4 at RA_4 RB_4 RC_4 B_4 ⊢
  refine wpAnyH_take (i := 0) (oi := ⟨some 9, _, _, _, _, _⟩) (v := ?vr4_1) rfl (by kernel_rfl) (by kernel_rfl) (by kernel_rfl) (fun _ _ _ h => h) (Or.inl ⟨by rfl, ?yr4_1⟩) ⟨RA_4.out, RB_4.out⟩ ?rr4_1
  case yr4_1 =>
    rintro w' hSw
    have k0 := (show Row w' _ _ _ from hSw.1).cell 0
    have k1 := (show Row w' _ _ _ from hSw.1).cell 1
    have k2 := (show Row w' _ _ _ from hSw.1).cell 2
    have k3 := (show Row w' _ _ _ from hSw.1).cell 3
    simp only [List.getElem?_cons_zero, List.getElem?_cons_succ] at k0 k1 k2 k3
    go_simp
    try with_reducible rfl
  try simp only [Act.put, List.setIfInBounds_toArray, List.set_cons_zero, List.set_cons_succ]
  refine wpAnyH_take (i := 1) (oi := ⟨some 10, _, _, _, _, _⟩) (v := ?vr4_2) rfl (by kernel_rfl) (by kernel_rfl) (by kernel_rfl) (fun _ _ _ h => h) (Or.inl ⟨by rfl, ?yr4_2⟩) ⟨RA_4.out, RB_4.out⟩ ?rr4_2
  case yr4_2 =>
    rintro w' hSw
    have k0 := (show Row w' _ _ _ from hSw.2).cell 0
    have k1 := (show Row w' _ _ _ from hSw.2).cell 1
    have k2 := (show Row w' _ _ _ from hSw.2).cell 2
    have k3 := (show Row w' _ _ _ from hSw.2).cell 3
    simp only [List.getElem?_cons_zero, List.getElem?_cons_succ] at k0 k1 k2 k3
    go_simp
    try with_reducible rfl
  try simp only [Act.put, List.setIfInBounds_toArray, List.set_cons_zero, List.set_cons_succ]
  refine wpAnyH_take (i := 3) (oi := ⟨some 12, _, _, _, _, _⟩) (v := ?vr4_3) rfl (by kernel_rfl) (by kernel_rfl) (by kernel_rfl) (fun _ _ _ h => h) (Or.inl ⟨by rfl, ?yr4_3⟩) ⟨RA_4.out, RB_4.out⟩ ?rr4_3
  case yr4_3 =>
    rintro w' hSw
    have k0 := (show Row w' _ _ _ from hSw.2).cell 0
    have k1 := (show Row w' _ _ _ from hSw.2).cell 1
    have k2 := (show Row w' _ _ _ from hSw.2).cell 2
    have k3 := (show Row w' _ _ _ from hSw.2).cell 3
    simp only [List.getElem?_cons_zero, List.getElem?_cons_succ] at k0 k1 k2 k3
    go_simp
    try with_reducible rfl
  try simp only [Act.put, List.setIfInBounds_toArray, List.set_cons_zero, List.set_cons_succ]
  refine wpAnyH_take (i := 4) (oi := ⟨some 13, _, _, _, _, _⟩) (v := ?vr4_4) rfl (by kernel_rfl) (by kernel_rfl) (by kernel_rfl) (fun _ _ _ h => h) (Or.inl ⟨by rfl, ?yr4_4⟩) ⟨RA_4.out, RB_4.out⟩ ?rr4_4
  case yr4_4 =>
    rintro w' hSw
    have k0 := (show Row w' _ _ _ from hSw.1).cell 0
    have k1 := (show Row w' _ _ _ from hSw.1).cell 1
    have k2 := (show Row w' _ _ _ from hSw.1).cell 2
    have k3 := (show Row w' _ _ _ from hSw.1).cell 3
    simp only [List.getElem?_cons_zero, List.getElem?_cons_succ] at k0 k1 k2 k3
    go_simp
    try with_reducible rfl
  try simp only [Act.put, List.setIfInBounds_toArray, List.set_cons_zero, List.set_cons_succ]
  refine wpAnyH_ready (rs := [2]) (by kernel_rfl) (by simp) ?_
  refine (AllReadyH.cons rfl (fun K hK => ?_) AllReadyH.nil)
  go_simp
  refine (HM.out _).mono ?_
  rintro e Xr4_5 ⟨rfl, hb⟩
  have RA_r4_5_5 := Lib.hid (RA_4.out.below hb RA_4.out.lt)
  have RB_r4_5_5 := Lib.hid (RB_4.out.below hb RB_4.out.lt)
  have RC_r4_5_5 := Lib.hid (RC_4.out.below hb RC_4.out.lt)
  have B_r4_5_5 := Lib.hid (B_4.out.trans (hb.mono B_4.out.size))
  clear hb RA_4 RB_4 RC_4 B_4
  refine hK _ _ ⟨RA_r4_5_5.out, RB_r4_5_5.out⟩ (fun _ => ?_)
  clear hK K
  try simp only [Act.put, List.setIfInBounds_toArray, List.set_cons_zero, List.set_cons_succ]
  refine wpAnyH_ready (rs := [5]) (by kernel_rfl) (by simp) ?_
  refine (AllReadyH.cons rfl (fun K hK => ?_) AllReadyH.nil)
  go_simp
  refine (HM2.out _).mono ?_
  rintro e Xr4_6 ⟨rfl, hb⟩
  have RA_r4_6_6 := Lib.hid (RA_r4_5_5.out.below hb RA_r4_5_5.out.lt)
  have RB_r4_6_6 := Lib.hid (RB_r4_5_5.out.below hb RB_r4_5_5.out.lt)
  have RC_r4_6_6 := Lib.hid (RC_r4_5_5.out.below hb RC_r4_5_5.out.lt)
  have B_r4_6_6 := Lib.hid (B_r4_5_5.out.trans (hb.mono B_r4_5_5.out.size))
  clear hb RA_r4_5_5 RB_r4_5_5 RC_r4_5_5 B_r4_5_5
  refine hK _ _ ⟨RA_r4_6_6.out, RB_r4_6_6.out⟩ (fun _ => ?_)
  clear hK K
  try simp only [Act.put, List.setIfInBounds_toArray, List.set_cons_zero, List.set_cons_succ]
  refine wpAnyH_take (i := 6) (oi := ⟨some 15, _, _, _, _, _⟩) (v := ?vr4_7) rfl (by kernel_rfl) (by kernel_rfl) (by kernel_rfl) (fun _ _ _ h => h) (Or.inl ⟨by rfl, ?yr4_7⟩) ⟨RA_r4_6_6.out, RB_r4_6_6.out⟩ ?rr4_7
  case yr4_7 =>
    rintro w' hSw
    go_simp
    try with_reducible rfl
  try simp only [Act.put, List.setIfInBounds_toArray, List.set_cons_zero, List.set_cons_succ]
  refine wpAnyH_done (by kernel_rfl) ?_ _
  have cr4_6_8_0 := RA_r4_6_6.out.cell 0
  have cr4_6_8_1 := RA_r4_6_6.out.cell 1
  have cr4_6_8_2 := RA_r4_6_6.out.cell 2
  have cr4_6_8_3 := RA_r4_6_6.out.cell 3
  simp only [List.getElem?_cons_zero, List.getElem?_cons_succ] at cr4_6_8_0 cr4_6_8_1 cr4_6_8_2 cr4_6_8_3
  have cr4_6_9_0 := RB_r4_6_6.out.cell 0
  have cr4_6_9_1 := RB_r4_6_6.out.cell 1
  have cr4_6_9_2 := RB_r4_6_6.out.cell 2
  have cr4_6_9_3 := RB_r4_6_6.out.cell 3
  simp only [List.getElem?_cons_zero, List.getElem?_cons_succ] at cr4_6_9_0 cr4_6_9_1 cr4_6_9_2 cr4_6_9_3
  go_wp2_with fail
  refine (HM.out _).mono ?_
  rintro e Wr4_6_7 ⟨rfl, hb⟩
  clear cr4_6_8_0 cr4_6_8_1 cr4_6_8_2 cr4_6_8_3 cr4_6_9_0 cr4_6_9_1 cr4_6_9_2 cr4_6_9_3
  have RA_r4_6_10 := Lib.hid (RA_r4_6_6.out.below hb RA_r4_6_6.out.lt)
  have RB_r4_6_10 := Lib.hid (RB_r4_6_6.out.below hb RB_r4_6_6.out.lt)
  have RC_r4_6_10 := Lib.hid (RC_r4_6_6.out.below hb RC_r4_6_6.out.lt)
  have B_r4_6_10 := Lib.hid (B_r4_6_6.out.trans (hb.mono B_r4_6_6.out.size))
  clear hb RA_r4_6_6 RB_r4_6_6 RC_r4_6_6 B_r4_6_6
  have cr4_6_12_0 := RA_r4_6_10.out.cell 0
  have cr4_6_12_1 := RA_r4_6_10.out.cell 1
  have cr4_6_12_2 := RA_r4_6_10.out.cell 2
  have cr4_6_12_3 := RA_r4_6_10.out.cell 3
  simp only [List.getElem?_cons_zero, List.getElem?_cons_succ] at cr4_6_12_0 cr4_6_12_1 cr4_6_12_2 cr4_6_12_3
  have cr4_6_13_0 := RC_r4_6_10.out.cell 0
  have cr4_6_13_1 := RC_r4_6_10.out.cell 1
  have cr4_6_13_2 := RC_r4_6_10.out.cell 2
  have cr4_6_13_3 := RC_r4_6_10.out.cell 3
  simp only [List.getElem?_cons_zero, List.getElem?_cons_succ] at cr4_6_13_0 cr4_6_13_1 cr4_6_13_2 cr4_6_13_3
  go_wp2_with fail
  refine (HCC.out _).mono ?_
  rintro e Wr4_6_11 ⟨rfl, hb⟩
  clear cr4_6_12_0 cr4_6_12_1 cr4_6_12_2 cr4_6_12_3 cr4_6_13_0 cr4_6_13_1 cr4_6_13_2 cr4_6_13_3
  have RA_r4_6_14 := Lib.hid (RA_r4_6_10.out.below hb RA_r4_6_10.out.lt)
  have RB_r4_6_14 := Lib.hid (RB_r4_6_10.out.below hb RB_r4_6_10.out.lt)
  have RC_r4_6_14 := Lib.hid (RC_r4_6_10.out.below hb RC_r4_6_10.out.lt)
  have B_r4_6_14 := Lib.hid (B_r4_6_10.out.trans (hb.mono B_r4_6_10.out.size))
  clear hb RA_r4_6_10 RB_r4_6_10 RC_r4_6_10 B_r4_6_10
  have cr4_6_16_0 := RB_r4_6_14.out.cell 0
  have cr4_6_16_1 := RB_r4_6_14.out.cell 1
  have cr4_6_16_2 := RB_r4_6_14.out.cell 2
  have cr4_6_16_3 := RB_r4_6_14.out.cell 3
  simp only [List.getElem?_cons_zero, List.getElem?_cons_succ] at cr4_6_16_0 cr4_6_16_1 cr4_6_16_2 cr4_6_16_3
  have cr4_6_17_0 := RC_r4_6_14.out.cell 0
  have cr4_6_17_1 := RC_r4_6_14.out.cell 1
  have cr4_6_17_2 := RC_r4_6_14.out.cell 2
  have cr4_6_17_3 := RC_r4_6_14.out.cell 3
  simp only [List.getElem?_cons_zero, List.getElem?_cons_succ] at cr4_6_17_0 cr4_6_17_1 cr4_6_17_2 cr4_6_17_3
  go_wp2_with fail
  refine (HMC.out _).mono ?_
  rintro e Wr4_6_15 ⟨rfl, hb⟩
  clear cr4_6_16_0 cr4_6_16_1 cr4_6_16_2 cr4_6_16_3 cr4_6_17_0 cr4_6_17_1 cr4_6_17_2 cr4_6_17_3
  have RA_r4_6_18 := Lib.hid (RA_r4_6_14.out.below hb RA_r4_6_14.out.lt)
  have RB_r4_6_18 := Lib.hid (RB_r4_6_14.out.below hb RB_r4_6_14.out.lt)
  have RC_r4_6_18 := Lib.hid (RC_r4_6_14.out.below hb RC_r4_6_14.out.lt)
  have B_r4_6_18 := Lib.hid (B_r4_6_14.out.trans (hb.mono B_r4_6_14.out.size))
  clear hb RA_r4_6_14 RB_r4_6_14 RC_r4_6_14 B_r4_6_14
  have cr4_6_20_0 := RA_r4_6_18.out.cell 0
  have cr4_6_20_1 := RA_r4_6_18.out.cell 1
  have cr4_6_20_2 := RA_r4_6_18.out.cell 2
  have cr4_6_20_3 := RA_r4_6_18.out.cell 3
  simp only [List.getElem?_cons_zero, List.getElem?_cons_succ] at cr4_6_20_0 cr4_6_20_1 cr4_6_20_2 cr4_6_20_3
  have cr4_6_21_0 := RB_r4_6_18.out.cell 0
  have cr4_6_21_1 := RB_r4_6_18.out.cell 1
  have cr4_6_21_2 := RB_r4_6_18.out.cell 2
  have cr4_6_21_3 := RB_r4_6_18.out.cell 3
  simp only [List.getElem?_cons_zero, List.getElem?_cons_succ] at cr4_6_21_0 cr4_6_21_1 cr4_6_21_2 cr4_6_21_3
  go_wp2_with fail
  refine (HP.out _).mono ?_
  rintro e Wr4_6_19 ⟨rfl, hb⟩
  clear cr4_6_20_0 cr4_6_20_1 cr4_6_20_2 cr4_6_20_3 cr4_6_21_0 cr4_6_21_1 cr4_6_21_2 cr4_6_21_3
  have RA_r4_6_22 := Lib.hid (RA_r4_6_18.out.below hb RA_r4_6_18.out.lt)
  have RB_r4_6_22 := Lib.hid (RB_r4_6_18.out.below hb RB_r4_6_18.out.lt)
  have RC_r4_6_22 := Lib.hid (RC_r4_6_18.out.below hb RC_r4_6_18.out.lt)
  have B_r4_6_22 := Lib.hid (B_r4_6_18.out.trans (hb.mono B_r4_6_18.out.size))
  clear hb RA_r4_6_18 RB_r4_6_18 RC_r4_6_18 B_r4_6_18
  have cr4_6_24_0 := RA_r4_6_22.out.cell 0
  have cr4_6_24_1 := RA_r4_6_22.out.cell 1
  have cr4_6_24_2 := RA_r4_6_22.out.cell 2
  have cr4_6_24_3 := RA_r4_6_22.out.cell 3
  simp only [List.getElem?_cons_zero, List.getElem?_cons_succ] at cr4_6_24_0 cr4_6_24_1 cr4_6_24_2 cr4_6_24_3
  have cr4_6_25_0 := RB_r4_6_22.out.cell 0
  have cr4_6_25_1 := RB_r4_6_22.out.cell 1
  have cr4_6_25_2 := RB_r4_6_22.out.cell 2
  have cr4_6_25_3 := RB_r4_6_22.out.cell 3
  simp only [List.getElem?_cons_zero, List.getElem?_cons_succ] at cr4_6_25_0 cr4_6_25_1 cr4_6_25_2 cr4_6_25_3
  go_wp2_with fail
  refine (HM.out _).mono ?_
  rintro e Wr4_6_23 ⟨rfl, hb⟩
  clear cr4_6_24_0 cr4_6_24_1 cr4_6_24_2 cr4_6_24_3 cr4_6_25_0 cr4_6_25_1 cr4_6_25_2 cr4_6_25_3
  have RA_r4_6_26 := Lib.hid (RA_r4_6_22.out.below hb RA_r4_6_22.out.lt)
  have RB_r4_6_26 := Lib.hid (RB_r4_6_22.out.below hb RB_r4_6_22.out.lt)
  have RC_r4_6_26 := Lib.hid (RC_r4_6_22.out.below hb RC_r4_6_22.out.lt)
  have B_r4_6_26 := Lib.hid (B_r4_6_22.out.trans (hb.mono B_r4_6_22.out.size))
  clear hb RA_r4_6_22 RB_r4_6_22 RC_r4_6_22 B_r4_6_22
  have cr4_6_28_0 := RA_r4_6_26.out.cell 0
  have cr4_6_28_1 := RA_r4_6_26.out.cell 1
  have cr4_6_28_2 := RA_r4_6_26.out.cell 2
  have cr4_6_28_3 := RA_r4_6_26.out.cell 3
  simp only [List.getElem?_cons_zero, List.getElem?_cons_succ] at cr4_6_28_0 cr4_6_28_1 cr4_6_28_2 cr4_6_28_3
  have cr4_6_29_0 := RB_r4_6_26.out.cell 0
  have cr4_6_29_1 := RB_r4_6_26.out.cell 1
  have cr4_6_29_2 := RB_r4_6_26.out.cell 2
  have cr4_6_29_3 := RB_r4_6_26.out.cell 3
  simp only [List.getElem?_cons_zero, List.getElem?_cons_succ] at cr4_6_29_0 cr4_6_29_1 cr4_6_29_2 cr4_6_29_3
  go_wp2_with fail
  refine (HP2.out _).mono ?_
  rintro e Wr4_6_27 ⟨rfl, hb⟩
  clear cr4_6_28_0 cr4_6_28_1 cr4_6_28_2 cr4_6_28_3 cr4_6_29_0 cr4_6_29_1 cr4_6_29_2 cr4_6_29_3
  have RA_r4_6_30 := Lib.hid (RA_r4_6_26.out.below hb RA_r4_6_26.out.lt)
  have RB_r4_6_30 := Lib.hid (RB_r4_6_26.out.below hb RB_r4_6_26.out.lt)
  have RC_r4_6_30 := Lib.hid (RC_r4_6_26.out.below hb RC_r4_6_26.out.lt)
  have B_r4_6_30 := Lib.hid (B_r4_6_26.out.trans (hb.mono B_r4_6_26.out.size))
  clear hb RA_r4_6_26 RB_r4_6_26 RC_r4_6_26 B_r4_6_26
  have cr4_6_31_0 := RA_r4_6_30.out.cell 0
  have cr4_6_31_1 := RA_r4_6_30.out.cell 1
  have cr4_6_31_2 := RA_r4_6_30.out.cell 2
  have cr4_6_31_3 := RA_r4_6_30.out.cell 3
  simp only [List.getElem?_cons_zero, List.getElem?_cons_succ] at cr4_6_31_0 cr4_6_31_1 cr4_6_31_2 cr4_6_31_3
  have cr4_6_32_0 := RB_r4_6_30.out.cell 0
  have cr4_6_32_1 := RB_r4_6_30.out.cell 1
  have cr4_6_32_2 := RB_r4_6_30.out.cell 2
  have cr4_6_32_3 := RB_r4_6_30.out.cell 3
  simp only [List.getElem?_cons_zero, List.getElem?_cons_succ] at cr4_6_32_0 cr4_6_32_1 cr4_6_32_2 cr4_6_32_3
  go_wp2
  go_ret
  exact ⟨rfl, B_r4_6_30.out⟩

set_option maxHeartbeats 4000000 in
theorem walk_1112 (x0 x1 y0 y1 u0 u1 v0 v1 z0 z1 t0 t1 : Int) (w : World) (hm : meetB x0 x1 y0 y1 u0 u1 v0 v1 = true) (hc : coverB z0 z1 t0 t1 x0 x1 y0 y1 = true) (hp : coverB x0 x1 y0 y1 u0 u1 v0 v1 = true) (h2 : ¬ x1 = u1) :
    Calls Try.prog 6 #[KV x0 x1 y0 y1, KV u0 u1 v0 v1, KV z0 z1 t0 t1] w fun e w' => e = .returned (.bool true) ∧ Below w.heap.size w w' := by
  have HW := Lib.hid wakes_any
  have HM := Lib.hid (Meets_any x0 x1 y0 y1 u0 u1 v0 v1)
  have HM2 := Lib.hid (Meets_any u0 u1 v0 v1 x0 x1 y0 y1)
  have HCC := Lib.hid (Covers_any z0 z1 t0 t1 x0 x1 y0 y1)
  have HP := Lib.hid (Covers_any x0 x1 y0 y1 u0 u1 v0 v1)
  rw [meet_sym, hm] at HM2
  have HMC := Lib.hid (Meets_any z0 z1 t0 t1 u0 u1 v0 v1)
  rw [meet_cover hm hc] at HMC
  rw [hm] at HM
  rw [hc] at HCC
  have HP2 := Lib.hid (Covers_any u0 u1 v0 v1 x0 x1 y0 y1)
  have hn : coverB u0 u1 v0 v1 x0 x1 y0 y1 = false := Bool.eq_false_iff.2 (fun h => by have := cover_both hp h; omega)
  rw [hn] at HP2
  clear hn
  rw [hp] at HP
  clear hm hc hp
  go_enter Try.func6, Try.ntmps6
  go_upto_region 1 with fail
  have RA_1 := Lib.hid (((row_last w (w.heap.size) 23 [.int .i64 x0, .int .i64 x1, .int .i64 y0, .int .i64 y1] (by simp)).alloc (.cells #[.int .i64 u0, .int .i64 u1, .int .i64 v0, .int .i64 v1] 23)).alloc (.cells #[.int .i64 z0, .int .i64 z1, .int .i64 t0, .int .i64 t1] 23))
  have RB_1 := Lib.hid ((row_last (w.alloc (.cells #[.int .i64 x0, .int .i64 x1, .int .i64 y0, .int .i64 y1] 23)) (w.heap.size + 1) 23 [.int .i64 u0, .int .i64 u1, .int .i64 v0, .int .i64 v1] (by simp)).alloc (.cells #[.int .i64 z0, .int .i64 z1, .int .i64 t0, .int .i64 t1] 23))
  have RC_1 := Lib.hid (row_last ((w.alloc (.cells #[.int .i64 x0, .int .i64 x1, .int .i64 y0, .int .i64 y1] 23)).alloc (.cells #[.int .i64 u0, .int .i64 u1, .int .i64 v0, .int .i64 v1] 23)) (w.heap.size + 1 + 1) 23 [.int .i64 z0, .int .i64 z1, .int .i64 t0, .int .i64 t1] (by simp))
  have B_1 := Lib.hid ((((Below.refl w.heap.size w).alloc (Nat.le_refl _) (.cells #[.int .i64 x0, .int .i64 x1, .int .i64 y0, .int .i64 y1] 23)).alloc (by have := Nat.le_refl w.heap.size; simp <;> omega) (.cells #[.int .i64 u0, .int .i64 u1, .int .i64 v0, .int .i64 v1] 23)).alloc (by have := Nat.le_refl w.heap.size; simp <;> omega) (.cells #[.int .i64 z0, .int .i64 z1, .int .i64 t0, .int .i64 t1] 23))
  generalize (((w.alloc (.cells #[.int .i64 x0, .int .i64 x1, .int .i64 y0, .int .i64 y1] 23)).alloc (.cells #[.int .i64 u0, .int .i64 u1, .int .i64 v0, .int .i64 v1] 23)).alloc (.cells #[.int .i64 z0, .int .i64 z1, .int .i64 t0, .int .i64 t1] 23)) = V1 at RA_1 RB_1 RC_1 B_1 ⊢
  go_wp2_with fail
  refine (HW.out _).mono ?_
  rintro e W2 ⟨rfl, hb⟩
  have RA_3 := Lib.hid (RA_1.out.below hb RA_1.out.lt)
  have RB_3 := Lib.hid (RB_1.out.below hb RB_1.out.lt)
  have RC_3 := Lib.hid (RC_1.out.below hb RC_1.out.lt)
  have B_3 := Lib.hid (B_1.out.trans (hb.mono B_1.out.size))
  clear hb RA_1 RB_1 RC_1 B_1
  go_wp2_with fail
  refine wp_region_held_drew (S := fun w' => Row w' (w.heap.size) 23 [.int .i64 x0, .int .i64 x1, .int .i64 y0, .int .i64 y1] ∧ Row w' (w.heap.size + 1) 23 [.int .i64 u0, .int .i64 u1, .int .i64 v0, .int .i64 v1]) (by kernel_rfl) ⟨RA_3.out.drew, RB_3.out.drew⟩ (fun hHeld => ?_)
  clear hHeld
  have RA_4 := Lib.hid RA_3.out.drew
  have RB_4 := Lib.hid RB_3.out.drew
  have RC_4 := Lib.hid RC_3.out.drew
  have B_4 := Lib.hid B_3.out.drew
  clear RA_3 RB_3 RC_3 B_3
  generalize W2.drew = D4 at RA_4 RB_4 RC_4 B_4 ⊢
  refine wpAnyH_take (i := 0) (oi := ⟨some 9, _, _, _, _, _⟩) (v := ?vr4_1) rfl (by kernel_rfl) (by kernel_rfl) (by kernel_rfl) (fun _ _ _ h => h) (Or.inl ⟨by rfl, ?yr4_1⟩) ⟨RA_4.out, RB_4.out⟩ ?rr4_1
  case yr4_1 =>
    rintro w' hSw
    have k0 := (show Row w' _ _ _ from hSw.1).cell 0
    have k1 := (show Row w' _ _ _ from hSw.1).cell 1
    have k2 := (show Row w' _ _ _ from hSw.1).cell 2
    have k3 := (show Row w' _ _ _ from hSw.1).cell 3
    simp only [List.getElem?_cons_zero, List.getElem?_cons_succ] at k0 k1 k2 k3
    go_simp
    try with_reducible rfl
  try simp only [Act.put, List.setIfInBounds_toArray, List.set_cons_zero, List.set_cons_succ]
  refine wpAnyH_take (i := 1) (oi := ⟨some 10, _, _, _, _, _⟩) (v := ?vr4_2) rfl (by kernel_rfl) (by kernel_rfl) (by kernel_rfl) (fun _ _ _ h => h) (Or.inl ⟨by rfl, ?yr4_2⟩) ⟨RA_4.out, RB_4.out⟩ ?rr4_2
  case yr4_2 =>
    rintro w' hSw
    have k0 := (show Row w' _ _ _ from hSw.2).cell 0
    have k1 := (show Row w' _ _ _ from hSw.2).cell 1
    have k2 := (show Row w' _ _ _ from hSw.2).cell 2
    have k3 := (show Row w' _ _ _ from hSw.2).cell 3
    simp only [List.getElem?_cons_zero, List.getElem?_cons_succ] at k0 k1 k2 k3
    go_simp
    try with_reducible rfl
  try simp only [Act.put, List.setIfInBounds_toArray, List.set_cons_zero, List.set_cons_succ]
  refine wpAnyH_take (i := 3) (oi := ⟨some 12, _, _, _, _, _⟩) (v := ?vr4_3) rfl (by kernel_rfl) (by kernel_rfl) (by kernel_rfl) (fun _ _ _ h => h) (Or.inl ⟨by rfl, ?yr4_3⟩) ⟨RA_4.out, RB_4.out⟩ ?rr4_3
  case yr4_3 =>
    rintro w' hSw
    have k0 := (show Row w' _ _ _ from hSw.2).cell 0
    have k1 := (show Row w' _ _ _ from hSw.2).cell 1
    have k2 := (show Row w' _ _ _ from hSw.2).cell 2
    have k3 := (show Row w' _ _ _ from hSw.2).cell 3
    simp only [List.getElem?_cons_zero, List.getElem?_cons_succ] at k0 k1 k2 k3
    go_simp
    try with_reducible rfl
  try simp only [Act.put, List.setIfInBounds_toArray, List.set_cons_zero, List.set_cons_succ]
  refine wpAnyH_take (i := 4) (oi := ⟨some 13, _, _, _, _, _⟩) (v := ?vr4_4) rfl (by kernel_rfl) (by kernel_rfl) (by kernel_rfl) (fun _ _ _ h => h) (Or.inl ⟨by rfl, ?yr4_4⟩) ⟨RA_4.out, RB_4.out⟩ ?rr4_4
  case yr4_4 =>
    rintro w' hSw
    have k0 := (show Row w' _ _ _ from hSw.1).cell 0
    have k1 := (show Row w' _ _ _ from hSw.1).cell 1
    have k2 := (show Row w' _ _ _ from hSw.1).cell 2
    have k3 := (show Row w' _ _ _ from hSw.1).cell 3
    simp only [List.getElem?_cons_zero, List.getElem?_cons_succ] at k0 k1 k2 k3
    go_simp
    try with_reducible rfl
  try simp only [Act.put, List.setIfInBounds_toArray, List.set_cons_zero, List.set_cons_succ]
  refine wpAnyH_ready (rs := [2]) (by kernel_rfl) (by simp) ?_
  refine (AllReadyH.cons rfl (fun K hK => ?_) AllReadyH.nil)
  go_simp
  refine (HM.out _).mono ?_
  rintro e Xr4_5 ⟨rfl, hb⟩
  have RA_r4_5_5 := Lib.hid (RA_4.out.below hb RA_4.out.lt)
  have RB_r4_5_5 := Lib.hid (RB_4.out.below hb RB_4.out.lt)
  have RC_r4_5_5 := Lib.hid (RC_4.out.below hb RC_4.out.lt)
  have B_r4_5_5 := Lib.hid (B_4.out.trans (hb.mono B_4.out.size))
  clear hb RA_4 RB_4 RC_4 B_4
  refine hK _ _ ⟨RA_r4_5_5.out, RB_r4_5_5.out⟩ (fun _ => ?_)
  clear hK K
  try simp only [Act.put, List.setIfInBounds_toArray, List.set_cons_zero, List.set_cons_succ]
  refine wpAnyH_ready (rs := [5]) (by kernel_rfl) (by simp) ?_
  refine (AllReadyH.cons rfl (fun K hK => ?_) AllReadyH.nil)
  go_simp
  refine (HM2.out _).mono ?_
  rintro e Xr4_6 ⟨rfl, hb⟩
  have RA_r4_6_6 := Lib.hid (RA_r4_5_5.out.below hb RA_r4_5_5.out.lt)
  have RB_r4_6_6 := Lib.hid (RB_r4_5_5.out.below hb RB_r4_5_5.out.lt)
  have RC_r4_6_6 := Lib.hid (RC_r4_5_5.out.below hb RC_r4_5_5.out.lt)
  have B_r4_6_6 := Lib.hid (B_r4_5_5.out.trans (hb.mono B_r4_5_5.out.size))
  clear hb RA_r4_5_5 RB_r4_5_5 RC_r4_5_5 B_r4_5_5
  refine hK _ _ ⟨RA_r4_6_6.out, RB_r4_6_6.out⟩ (fun _ => ?_)
  clear hK K
  try simp only [Act.put, List.setIfInBounds_toArray, List.set_cons_zero, List.set_cons_succ]
  refine wpAnyH_take (i := 6) (oi := ⟨some 15, _, _, _, _, _⟩) (v := ?vr4_7) rfl (by kernel_rfl) (by kernel_rfl) (by kernel_rfl) (fun _ _ _ h => h) (Or.inl ⟨by rfl, ?yr4_7⟩) ⟨RA_r4_6_6.out, RB_r4_6_6.out⟩ ?rr4_7
  case yr4_7 =>
    rintro w' hSw
    go_simp
    try with_reducible rfl
  try simp only [Act.put, List.setIfInBounds_toArray, List.set_cons_zero, List.set_cons_succ]
  refine wpAnyH_done (by kernel_rfl) ?_ _
  have cr4_6_8_0 := RA_r4_6_6.out.cell 0
  have cr4_6_8_1 := RA_r4_6_6.out.cell 1
  have cr4_6_8_2 := RA_r4_6_6.out.cell 2
  have cr4_6_8_3 := RA_r4_6_6.out.cell 3
  simp only [List.getElem?_cons_zero, List.getElem?_cons_succ] at cr4_6_8_0 cr4_6_8_1 cr4_6_8_2 cr4_6_8_3
  have cr4_6_9_0 := RB_r4_6_6.out.cell 0
  have cr4_6_9_1 := RB_r4_6_6.out.cell 1
  have cr4_6_9_2 := RB_r4_6_6.out.cell 2
  have cr4_6_9_3 := RB_r4_6_6.out.cell 3
  simp only [List.getElem?_cons_zero, List.getElem?_cons_succ] at cr4_6_9_0 cr4_6_9_1 cr4_6_9_2 cr4_6_9_3
  go_wp2_with fail
  refine (HM.out _).mono ?_
  rintro e Wr4_6_7 ⟨rfl, hb⟩
  clear cr4_6_8_0 cr4_6_8_1 cr4_6_8_2 cr4_6_8_3 cr4_6_9_0 cr4_6_9_1 cr4_6_9_2 cr4_6_9_3
  have RA_r4_6_10 := Lib.hid (RA_r4_6_6.out.below hb RA_r4_6_6.out.lt)
  have RB_r4_6_10 := Lib.hid (RB_r4_6_6.out.below hb RB_r4_6_6.out.lt)
  have RC_r4_6_10 := Lib.hid (RC_r4_6_6.out.below hb RC_r4_6_6.out.lt)
  have B_r4_6_10 := Lib.hid (B_r4_6_6.out.trans (hb.mono B_r4_6_6.out.size))
  clear hb RA_r4_6_6 RB_r4_6_6 RC_r4_6_6 B_r4_6_6
  have cr4_6_12_0 := RA_r4_6_10.out.cell 0
  have cr4_6_12_1 := RA_r4_6_10.out.cell 1
  have cr4_6_12_2 := RA_r4_6_10.out.cell 2
  have cr4_6_12_3 := RA_r4_6_10.out.cell 3
  simp only [List.getElem?_cons_zero, List.getElem?_cons_succ] at cr4_6_12_0 cr4_6_12_1 cr4_6_12_2 cr4_6_12_3
  have cr4_6_13_0 := RC_r4_6_10.out.cell 0
  have cr4_6_13_1 := RC_r4_6_10.out.cell 1
  have cr4_6_13_2 := RC_r4_6_10.out.cell 2
  have cr4_6_13_3 := RC_r4_6_10.out.cell 3
  simp only [List.getElem?_cons_zero, List.getElem?_cons_succ] at cr4_6_13_0 cr4_6_13_1 cr4_6_13_2 cr4_6_13_3
  go_wp2_with fail
  refine (HCC.out _).mono ?_
  rintro e Wr4_6_11 ⟨rfl, hb⟩
  clear cr4_6_12_0 cr4_6_12_1 cr4_6_12_2 cr4_6_12_3 cr4_6_13_0 cr4_6_13_1 cr4_6_13_2 cr4_6_13_3
  have RA_r4_6_14 := Lib.hid (RA_r4_6_10.out.below hb RA_r4_6_10.out.lt)
  have RB_r4_6_14 := Lib.hid (RB_r4_6_10.out.below hb RB_r4_6_10.out.lt)
  have RC_r4_6_14 := Lib.hid (RC_r4_6_10.out.below hb RC_r4_6_10.out.lt)
  have B_r4_6_14 := Lib.hid (B_r4_6_10.out.trans (hb.mono B_r4_6_10.out.size))
  clear hb RA_r4_6_10 RB_r4_6_10 RC_r4_6_10 B_r4_6_10
  have cr4_6_16_0 := RB_r4_6_14.out.cell 0
  have cr4_6_16_1 := RB_r4_6_14.out.cell 1
  have cr4_6_16_2 := RB_r4_6_14.out.cell 2
  have cr4_6_16_3 := RB_r4_6_14.out.cell 3
  simp only [List.getElem?_cons_zero, List.getElem?_cons_succ] at cr4_6_16_0 cr4_6_16_1 cr4_6_16_2 cr4_6_16_3
  have cr4_6_17_0 := RC_r4_6_14.out.cell 0
  have cr4_6_17_1 := RC_r4_6_14.out.cell 1
  have cr4_6_17_2 := RC_r4_6_14.out.cell 2
  have cr4_6_17_3 := RC_r4_6_14.out.cell 3
  simp only [List.getElem?_cons_zero, List.getElem?_cons_succ] at cr4_6_17_0 cr4_6_17_1 cr4_6_17_2 cr4_6_17_3
  go_wp2_with fail
  refine (HMC.out _).mono ?_
  rintro e Wr4_6_15 ⟨rfl, hb⟩
  clear cr4_6_16_0 cr4_6_16_1 cr4_6_16_2 cr4_6_16_3 cr4_6_17_0 cr4_6_17_1 cr4_6_17_2 cr4_6_17_3
  have RA_r4_6_18 := Lib.hid (RA_r4_6_14.out.below hb RA_r4_6_14.out.lt)
  have RB_r4_6_18 := Lib.hid (RB_r4_6_14.out.below hb RB_r4_6_14.out.lt)
  have RC_r4_6_18 := Lib.hid (RC_r4_6_14.out.below hb RC_r4_6_14.out.lt)
  have B_r4_6_18 := Lib.hid (B_r4_6_14.out.trans (hb.mono B_r4_6_14.out.size))
  clear hb RA_r4_6_14 RB_r4_6_14 RC_r4_6_14 B_r4_6_14
  have cr4_6_20_0 := RA_r4_6_18.out.cell 0
  have cr4_6_20_1 := RA_r4_6_18.out.cell 1
  have cr4_6_20_2 := RA_r4_6_18.out.cell 2
  have cr4_6_20_3 := RA_r4_6_18.out.cell 3
  simp only [List.getElem?_cons_zero, List.getElem?_cons_succ] at cr4_6_20_0 cr4_6_20_1 cr4_6_20_2 cr4_6_20_3
  have cr4_6_21_0 := RB_r4_6_18.out.cell 0
  have cr4_6_21_1 := RB_r4_6_18.out.cell 1
  have cr4_6_21_2 := RB_r4_6_18.out.cell 2
  have cr4_6_21_3 := RB_r4_6_18.out.cell 3
  simp only [List.getElem?_cons_zero, List.getElem?_cons_succ] at cr4_6_21_0 cr4_6_21_1 cr4_6_21_2 cr4_6_21_3
  go_wp2_with fail
  refine (HP.out _).mono ?_
  rintro e Wr4_6_19 ⟨rfl, hb⟩
  clear cr4_6_20_0 cr4_6_20_1 cr4_6_20_2 cr4_6_20_3 cr4_6_21_0 cr4_6_21_1 cr4_6_21_2 cr4_6_21_3
  have RA_r4_6_22 := Lib.hid (RA_r4_6_18.out.below hb RA_r4_6_18.out.lt)
  have RB_r4_6_22 := Lib.hid (RB_r4_6_18.out.below hb RB_r4_6_18.out.lt)
  have RC_r4_6_22 := Lib.hid (RC_r4_6_18.out.below hb RC_r4_6_18.out.lt)
  have B_r4_6_22 := Lib.hid (B_r4_6_18.out.trans (hb.mono B_r4_6_18.out.size))
  clear hb RA_r4_6_18 RB_r4_6_18 RC_r4_6_18 B_r4_6_18
  have cr4_6_24_0 := RA_r4_6_22.out.cell 0
  have cr4_6_24_1 := RA_r4_6_22.out.cell 1
  have cr4_6_24_2 := RA_r4_6_22.out.cell 2
  have cr4_6_24_3 := RA_r4_6_22.out.cell 3
  simp only [List.getElem?_cons_zero, List.getElem?_cons_succ] at cr4_6_24_0 cr4_6_24_1 cr4_6_24_2 cr4_6_24_3
  have cr4_6_25_0 := RB_r4_6_22.out.cell 0
  have cr4_6_25_1 := RB_r4_6_22.out.cell 1
  have cr4_6_25_2 := RB_r4_6_22.out.cell 2
  have cr4_6_25_3 := RB_r4_6_22.out.cell 3
  simp only [List.getElem?_cons_zero, List.getElem?_cons_succ] at cr4_6_25_0 cr4_6_25_1 cr4_6_25_2 cr4_6_25_3
  go_wp2_with fail
  refine (HM.out _).mono ?_
  rintro e Wr4_6_23 ⟨rfl, hb⟩
  clear cr4_6_24_0 cr4_6_24_1 cr4_6_24_2 cr4_6_24_3 cr4_6_25_0 cr4_6_25_1 cr4_6_25_2 cr4_6_25_3
  have RA_r4_6_26 := Lib.hid (RA_r4_6_22.out.below hb RA_r4_6_22.out.lt)
  have RB_r4_6_26 := Lib.hid (RB_r4_6_22.out.below hb RB_r4_6_22.out.lt)
  have RC_r4_6_26 := Lib.hid (RC_r4_6_22.out.below hb RC_r4_6_22.out.lt)
  have B_r4_6_26 := Lib.hid (B_r4_6_22.out.trans (hb.mono B_r4_6_22.out.size))
  clear hb RA_r4_6_22 RB_r4_6_22 RC_r4_6_22 B_r4_6_22
  have cr4_6_28_0 := RA_r4_6_26.out.cell 0
  have cr4_6_28_1 := RA_r4_6_26.out.cell 1
  have cr4_6_28_2 := RA_r4_6_26.out.cell 2
  have cr4_6_28_3 := RA_r4_6_26.out.cell 3
  simp only [List.getElem?_cons_zero, List.getElem?_cons_succ] at cr4_6_28_0 cr4_6_28_1 cr4_6_28_2 cr4_6_28_3
  have cr4_6_29_0 := RB_r4_6_26.out.cell 0
  have cr4_6_29_1 := RB_r4_6_26.out.cell 1
  have cr4_6_29_2 := RB_r4_6_26.out.cell 2
  have cr4_6_29_3 := RB_r4_6_26.out.cell 3
  simp only [List.getElem?_cons_zero, List.getElem?_cons_succ] at cr4_6_29_0 cr4_6_29_1 cr4_6_29_2 cr4_6_29_3
  go_wp2_with fail
  refine (HP2.out _).mono ?_
  rintro e Wr4_6_27 ⟨rfl, hb⟩
  clear cr4_6_28_0 cr4_6_28_1 cr4_6_28_2 cr4_6_28_3 cr4_6_29_0 cr4_6_29_1 cr4_6_29_2 cr4_6_29_3
  have RA_r4_6_30 := Lib.hid (RA_r4_6_26.out.below hb RA_r4_6_26.out.lt)
  have RB_r4_6_30 := Lib.hid (RB_r4_6_26.out.below hb RB_r4_6_26.out.lt)
  have RC_r4_6_30 := Lib.hid (RC_r4_6_26.out.below hb RC_r4_6_26.out.lt)
  have B_r4_6_30 := Lib.hid (B_r4_6_26.out.trans (hb.mono B_r4_6_26.out.size))
  clear hb RA_r4_6_26 RB_r4_6_26 RC_r4_6_26 B_r4_6_26
  have cr4_6_31_0 := RA_r4_6_30.out.cell 0
  have cr4_6_31_1 := RA_r4_6_30.out.cell 1
  have cr4_6_31_2 := RA_r4_6_30.out.cell 2
  have cr4_6_31_3 := RA_r4_6_30.out.cell 3
  simp only [List.getElem?_cons_zero, List.getElem?_cons_succ] at cr4_6_31_0 cr4_6_31_1 cr4_6_31_2 cr4_6_31_3
  have cr4_6_32_0 := RB_r4_6_30.out.cell 0
  have cr4_6_32_1 := RB_r4_6_30.out.cell 1
  have cr4_6_32_2 := RB_r4_6_30.out.cell 2
  have cr4_6_32_3 := RB_r4_6_30.out.cell 3
  simp only [List.getElem?_cons_zero, List.getElem?_cons_succ] at cr4_6_32_0 cr4_6_32_1 cr4_6_32_2 cr4_6_32_3
  go_wp2
  go_ret
  exact ⟨rfl, B_r4_6_30.out⟩

set_option maxHeartbeats 4000000 in
theorem walk_1113 (x0 x1 y0 y1 u0 u1 v0 v1 z0 z1 t0 t1 : Int) (w : World) (hm : meetB x0 x1 y0 y1 u0 u1 v0 v1 = true) (hc : coverB z0 z1 t0 t1 x0 x1 y0 y1 = true) (hp : coverB x0 x1 y0 y1 u0 u1 v0 v1 = true) (h3 : ¬ y0 = v0) :
    Calls Try.prog 6 #[KV x0 x1 y0 y1, KV u0 u1 v0 v1, KV z0 z1 t0 t1] w fun e w' => e = .returned (.bool true) ∧ Below w.heap.size w w' := by
  have HW := Lib.hid wakes_any
  have HM := Lib.hid (Meets_any x0 x1 y0 y1 u0 u1 v0 v1)
  have HM2 := Lib.hid (Meets_any u0 u1 v0 v1 x0 x1 y0 y1)
  have HCC := Lib.hid (Covers_any z0 z1 t0 t1 x0 x1 y0 y1)
  have HP := Lib.hid (Covers_any x0 x1 y0 y1 u0 u1 v0 v1)
  rw [meet_sym, hm] at HM2
  have HMC := Lib.hid (Meets_any z0 z1 t0 t1 u0 u1 v0 v1)
  rw [meet_cover hm hc] at HMC
  rw [hm] at HM
  rw [hc] at HCC
  have HP2 := Lib.hid (Covers_any u0 u1 v0 v1 x0 x1 y0 y1)
  have hn : coverB u0 u1 v0 v1 x0 x1 y0 y1 = false := Bool.eq_false_iff.2 (fun h => by have := cover_both hp h; omega)
  rw [hn] at HP2
  clear hn
  rw [hp] at HP
  clear hm hc hp
  go_enter Try.func6, Try.ntmps6
  go_upto_region 1 with fail
  have RA_1 := Lib.hid (((row_last w (w.heap.size) 23 [.int .i64 x0, .int .i64 x1, .int .i64 y0, .int .i64 y1] (by simp)).alloc (.cells #[.int .i64 u0, .int .i64 u1, .int .i64 v0, .int .i64 v1] 23)).alloc (.cells #[.int .i64 z0, .int .i64 z1, .int .i64 t0, .int .i64 t1] 23))
  have RB_1 := Lib.hid ((row_last (w.alloc (.cells #[.int .i64 x0, .int .i64 x1, .int .i64 y0, .int .i64 y1] 23)) (w.heap.size + 1) 23 [.int .i64 u0, .int .i64 u1, .int .i64 v0, .int .i64 v1] (by simp)).alloc (.cells #[.int .i64 z0, .int .i64 z1, .int .i64 t0, .int .i64 t1] 23))
  have RC_1 := Lib.hid (row_last ((w.alloc (.cells #[.int .i64 x0, .int .i64 x1, .int .i64 y0, .int .i64 y1] 23)).alloc (.cells #[.int .i64 u0, .int .i64 u1, .int .i64 v0, .int .i64 v1] 23)) (w.heap.size + 1 + 1) 23 [.int .i64 z0, .int .i64 z1, .int .i64 t0, .int .i64 t1] (by simp))
  have B_1 := Lib.hid ((((Below.refl w.heap.size w).alloc (Nat.le_refl _) (.cells #[.int .i64 x0, .int .i64 x1, .int .i64 y0, .int .i64 y1] 23)).alloc (by have := Nat.le_refl w.heap.size; simp <;> omega) (.cells #[.int .i64 u0, .int .i64 u1, .int .i64 v0, .int .i64 v1] 23)).alloc (by have := Nat.le_refl w.heap.size; simp <;> omega) (.cells #[.int .i64 z0, .int .i64 z1, .int .i64 t0, .int .i64 t1] 23))
  generalize (((w.alloc (.cells #[.int .i64 x0, .int .i64 x1, .int .i64 y0, .int .i64 y1] 23)).alloc (.cells #[.int .i64 u0, .int .i64 u1, .int .i64 v0, .int .i64 v1] 23)).alloc (.cells #[.int .i64 z0, .int .i64 z1, .int .i64 t0, .int .i64 t1] 23)) = V1 at RA_1 RB_1 RC_1 B_1 ⊢
  go_wp2_with fail
  refine (HW.out _).mono ?_
  rintro e W2 ⟨rfl, hb⟩
  have RA_3 := Lib.hid (RA_1.out.below hb RA_1.out.lt)
  have RB_3 := Lib.hid (RB_1.out.below hb RB_1.out.lt)
  have RC_3 := Lib.hid (RC_1.out.below hb RC_1.out.lt)
  have B_3 := Lib.hid (B_1.out.trans (hb.mono B_1.out.size))
  clear hb RA_1 RB_1 RC_1 B_1
  go_wp2_with fail
  refine wp_region_held_drew (S := fun w' => Row w' (w.heap.size) 23 [.int .i64 x0, .int .i64 x1, .int .i64 y0, .int .i64 y1] ∧ Row w' (w.heap.size + 1) 23 [.int .i64 u0, .int .i64 u1, .int .i64 v0, .int .i64 v1]) (by kernel_rfl) ⟨RA_3.out.drew, RB_3.out.drew⟩ (fun hHeld => ?_)
  clear hHeld
  have RA_4 := Lib.hid RA_3.out.drew
  have RB_4 := Lib.hid RB_3.out.drew
  have RC_4 := Lib.hid RC_3.out.drew
  have B_4 := Lib.hid B_3.out.drew
  clear RA_3 RB_3 RC_3 B_3
  generalize W2.drew = D4 at RA_4 RB_4 RC_4 B_4 ⊢
  refine wpAnyH_take (i := 0) (oi := ⟨some 9, _, _, _, _, _⟩) (v := ?vr4_1) rfl (by kernel_rfl) (by kernel_rfl) (by kernel_rfl) (fun _ _ _ h => h) (Or.inl ⟨by rfl, ?yr4_1⟩) ⟨RA_4.out, RB_4.out⟩ ?rr4_1
  case yr4_1 =>
    rintro w' hSw
    have k0 := (show Row w' _ _ _ from hSw.1).cell 0
    have k1 := (show Row w' _ _ _ from hSw.1).cell 1
    have k2 := (show Row w' _ _ _ from hSw.1).cell 2
    have k3 := (show Row w' _ _ _ from hSw.1).cell 3
    simp only [List.getElem?_cons_zero, List.getElem?_cons_succ] at k0 k1 k2 k3
    go_simp
    try with_reducible rfl
  try simp only [Act.put, List.setIfInBounds_toArray, List.set_cons_zero, List.set_cons_succ]
  refine wpAnyH_take (i := 1) (oi := ⟨some 10, _, _, _, _, _⟩) (v := ?vr4_2) rfl (by kernel_rfl) (by kernel_rfl) (by kernel_rfl) (fun _ _ _ h => h) (Or.inl ⟨by rfl, ?yr4_2⟩) ⟨RA_4.out, RB_4.out⟩ ?rr4_2
  case yr4_2 =>
    rintro w' hSw
    have k0 := (show Row w' _ _ _ from hSw.2).cell 0
    have k1 := (show Row w' _ _ _ from hSw.2).cell 1
    have k2 := (show Row w' _ _ _ from hSw.2).cell 2
    have k3 := (show Row w' _ _ _ from hSw.2).cell 3
    simp only [List.getElem?_cons_zero, List.getElem?_cons_succ] at k0 k1 k2 k3
    go_simp
    try with_reducible rfl
  try simp only [Act.put, List.setIfInBounds_toArray, List.set_cons_zero, List.set_cons_succ]
  refine wpAnyH_take (i := 3) (oi := ⟨some 12, _, _, _, _, _⟩) (v := ?vr4_3) rfl (by kernel_rfl) (by kernel_rfl) (by kernel_rfl) (fun _ _ _ h => h) (Or.inl ⟨by rfl, ?yr4_3⟩) ⟨RA_4.out, RB_4.out⟩ ?rr4_3
  case yr4_3 =>
    rintro w' hSw
    have k0 := (show Row w' _ _ _ from hSw.2).cell 0
    have k1 := (show Row w' _ _ _ from hSw.2).cell 1
    have k2 := (show Row w' _ _ _ from hSw.2).cell 2
    have k3 := (show Row w' _ _ _ from hSw.2).cell 3
    simp only [List.getElem?_cons_zero, List.getElem?_cons_succ] at k0 k1 k2 k3
    go_simp
    try with_reducible rfl
  try simp only [Act.put, List.setIfInBounds_toArray, List.set_cons_zero, List.set_cons_succ]
  refine wpAnyH_take (i := 4) (oi := ⟨some 13, _, _, _, _, _⟩) (v := ?vr4_4) rfl (by kernel_rfl) (by kernel_rfl) (by kernel_rfl) (fun _ _ _ h => h) (Or.inl ⟨by rfl, ?yr4_4⟩) ⟨RA_4.out, RB_4.out⟩ ?rr4_4
  case yr4_4 =>
    rintro w' hSw
    have k0 := (show Row w' _ _ _ from hSw.1).cell 0
    have k1 := (show Row w' _ _ _ from hSw.1).cell 1
    have k2 := (show Row w' _ _ _ from hSw.1).cell 2
    have k3 := (show Row w' _ _ _ from hSw.1).cell 3
    simp only [List.getElem?_cons_zero, List.getElem?_cons_succ] at k0 k1 k2 k3
    go_simp
    try with_reducible rfl
  try simp only [Act.put, List.setIfInBounds_toArray, List.set_cons_zero, List.set_cons_succ]
  refine wpAnyH_ready (rs := [2]) (by kernel_rfl) (by simp) ?_
  refine (AllReadyH.cons rfl (fun K hK => ?_) AllReadyH.nil)
  go_simp
  refine (HM.out _).mono ?_
  rintro e Xr4_5 ⟨rfl, hb⟩
  have RA_r4_5_5 := Lib.hid (RA_4.out.below hb RA_4.out.lt)
  have RB_r4_5_5 := Lib.hid (RB_4.out.below hb RB_4.out.lt)
  have RC_r4_5_5 := Lib.hid (RC_4.out.below hb RC_4.out.lt)
  have B_r4_5_5 := Lib.hid (B_4.out.trans (hb.mono B_4.out.size))
  clear hb RA_4 RB_4 RC_4 B_4
  refine hK _ _ ⟨RA_r4_5_5.out, RB_r4_5_5.out⟩ (fun _ => ?_)
  clear hK K
  try simp only [Act.put, List.setIfInBounds_toArray, List.set_cons_zero, List.set_cons_succ]
  refine wpAnyH_ready (rs := [5]) (by kernel_rfl) (by simp) ?_
  refine (AllReadyH.cons rfl (fun K hK => ?_) AllReadyH.nil)
  go_simp
  refine (HM2.out _).mono ?_
  rintro e Xr4_6 ⟨rfl, hb⟩
  have RA_r4_6_6 := Lib.hid (RA_r4_5_5.out.below hb RA_r4_5_5.out.lt)
  have RB_r4_6_6 := Lib.hid (RB_r4_5_5.out.below hb RB_r4_5_5.out.lt)
  have RC_r4_6_6 := Lib.hid (RC_r4_5_5.out.below hb RC_r4_5_5.out.lt)
  have B_r4_6_6 := Lib.hid (B_r4_5_5.out.trans (hb.mono B_r4_5_5.out.size))
  clear hb RA_r4_5_5 RB_r4_5_5 RC_r4_5_5 B_r4_5_5
  refine hK _ _ ⟨RA_r4_6_6.out, RB_r4_6_6.out⟩ (fun _ => ?_)
  clear hK K
  try simp only [Act.put, List.setIfInBounds_toArray, List.set_cons_zero, List.set_cons_succ]
  refine wpAnyH_take (i := 6) (oi := ⟨some 15, _, _, _, _, _⟩) (v := ?vr4_7) rfl (by kernel_rfl) (by kernel_rfl) (by kernel_rfl) (fun _ _ _ h => h) (Or.inl ⟨by rfl, ?yr4_7⟩) ⟨RA_r4_6_6.out, RB_r4_6_6.out⟩ ?rr4_7
  case yr4_7 =>
    rintro w' hSw
    go_simp
    try with_reducible rfl
  try simp only [Act.put, List.setIfInBounds_toArray, List.set_cons_zero, List.set_cons_succ]
  refine wpAnyH_done (by kernel_rfl) ?_ _
  have cr4_6_8_0 := RA_r4_6_6.out.cell 0
  have cr4_6_8_1 := RA_r4_6_6.out.cell 1
  have cr4_6_8_2 := RA_r4_6_6.out.cell 2
  have cr4_6_8_3 := RA_r4_6_6.out.cell 3
  simp only [List.getElem?_cons_zero, List.getElem?_cons_succ] at cr4_6_8_0 cr4_6_8_1 cr4_6_8_2 cr4_6_8_3
  have cr4_6_9_0 := RB_r4_6_6.out.cell 0
  have cr4_6_9_1 := RB_r4_6_6.out.cell 1
  have cr4_6_9_2 := RB_r4_6_6.out.cell 2
  have cr4_6_9_3 := RB_r4_6_6.out.cell 3
  simp only [List.getElem?_cons_zero, List.getElem?_cons_succ] at cr4_6_9_0 cr4_6_9_1 cr4_6_9_2 cr4_6_9_3
  go_wp2_with fail
  refine (HM.out _).mono ?_
  rintro e Wr4_6_7 ⟨rfl, hb⟩
  clear cr4_6_8_0 cr4_6_8_1 cr4_6_8_2 cr4_6_8_3 cr4_6_9_0 cr4_6_9_1 cr4_6_9_2 cr4_6_9_3
  have RA_r4_6_10 := Lib.hid (RA_r4_6_6.out.below hb RA_r4_6_6.out.lt)
  have RB_r4_6_10 := Lib.hid (RB_r4_6_6.out.below hb RB_r4_6_6.out.lt)
  have RC_r4_6_10 := Lib.hid (RC_r4_6_6.out.below hb RC_r4_6_6.out.lt)
  have B_r4_6_10 := Lib.hid (B_r4_6_6.out.trans (hb.mono B_r4_6_6.out.size))
  clear hb RA_r4_6_6 RB_r4_6_6 RC_r4_6_6 B_r4_6_6
  have cr4_6_12_0 := RA_r4_6_10.out.cell 0
  have cr4_6_12_1 := RA_r4_6_10.out.cell 1
  have cr4_6_12_2 := RA_r4_6_10.out.cell 2
  have cr4_6_12_3 := RA_r4_6_10.out.cell 3
  simp only [List.getElem?_cons_zero, List.getElem?_cons_succ] at cr4_6_12_0 cr4_6_12_1 cr4_6_12_2 cr4_6_12_3
  have cr4_6_13_0 := RC_r4_6_10.out.cell 0
  have cr4_6_13_1 := RC_r4_6_10.out.cell 1
  have cr4_6_13_2 := RC_r4_6_10.out.cell 2
  have cr4_6_13_3 := RC_r4_6_10.out.cell 3
  simp only [List.getElem?_cons_zero, List.getElem?_cons_succ] at cr4_6_13_0 cr4_6_13_1 cr4_6_13_2 cr4_6_13_3
  go_wp2_with fail
  refine (HCC.out _).mono ?_
  rintro e Wr4_6_11 ⟨rfl, hb⟩
  clear cr4_6_12_0 cr4_6_12_1 cr4_6_12_2 cr4_6_12_3 cr4_6_13_0 cr4_6_13_1 cr4_6_13_2 cr4_6_13_3
  have RA_r4_6_14 := Lib.hid (RA_r4_6_10.out.below hb RA_r4_6_10.out.lt)
  have RB_r4_6_14 := Lib.hid (RB_r4_6_10.out.below hb RB_r4_6_10.out.lt)
  have RC_r4_6_14 := Lib.hid (RC_r4_6_10.out.below hb RC_r4_6_10.out.lt)
  have B_r4_6_14 := Lib.hid (B_r4_6_10.out.trans (hb.mono B_r4_6_10.out.size))
  clear hb RA_r4_6_10 RB_r4_6_10 RC_r4_6_10 B_r4_6_10
  have cr4_6_16_0 := RB_r4_6_14.out.cell 0
  have cr4_6_16_1 := RB_r4_6_14.out.cell 1
  have cr4_6_16_2 := RB_r4_6_14.out.cell 2
  have cr4_6_16_3 := RB_r4_6_14.out.cell 3
  simp only [List.getElem?_cons_zero, List.getElem?_cons_succ] at cr4_6_16_0 cr4_6_16_1 cr4_6_16_2 cr4_6_16_3
  have cr4_6_17_0 := RC_r4_6_14.out.cell 0
  have cr4_6_17_1 := RC_r4_6_14.out.cell 1
  have cr4_6_17_2 := RC_r4_6_14.out.cell 2
  have cr4_6_17_3 := RC_r4_6_14.out.cell 3
  simp only [List.getElem?_cons_zero, List.getElem?_cons_succ] at cr4_6_17_0 cr4_6_17_1 cr4_6_17_2 cr4_6_17_3
  go_wp2_with fail
  refine (HMC.out _).mono ?_
  rintro e Wr4_6_15 ⟨rfl, hb⟩
  clear cr4_6_16_0 cr4_6_16_1 cr4_6_16_2 cr4_6_16_3 cr4_6_17_0 cr4_6_17_1 cr4_6_17_2 cr4_6_17_3
  have RA_r4_6_18 := Lib.hid (RA_r4_6_14.out.below hb RA_r4_6_14.out.lt)
  have RB_r4_6_18 := Lib.hid (RB_r4_6_14.out.below hb RB_r4_6_14.out.lt)
  have RC_r4_6_18 := Lib.hid (RC_r4_6_14.out.below hb RC_r4_6_14.out.lt)
  have B_r4_6_18 := Lib.hid (B_r4_6_14.out.trans (hb.mono B_r4_6_14.out.size))
  clear hb RA_r4_6_14 RB_r4_6_14 RC_r4_6_14 B_r4_6_14
  have cr4_6_20_0 := RA_r4_6_18.out.cell 0
  have cr4_6_20_1 := RA_r4_6_18.out.cell 1
  have cr4_6_20_2 := RA_r4_6_18.out.cell 2
  have cr4_6_20_3 := RA_r4_6_18.out.cell 3
  simp only [List.getElem?_cons_zero, List.getElem?_cons_succ] at cr4_6_20_0 cr4_6_20_1 cr4_6_20_2 cr4_6_20_3
  have cr4_6_21_0 := RB_r4_6_18.out.cell 0
  have cr4_6_21_1 := RB_r4_6_18.out.cell 1
  have cr4_6_21_2 := RB_r4_6_18.out.cell 2
  have cr4_6_21_3 := RB_r4_6_18.out.cell 3
  simp only [List.getElem?_cons_zero, List.getElem?_cons_succ] at cr4_6_21_0 cr4_6_21_1 cr4_6_21_2 cr4_6_21_3
  go_wp2_with fail
  refine (HP.out _).mono ?_
  rintro e Wr4_6_19 ⟨rfl, hb⟩
  clear cr4_6_20_0 cr4_6_20_1 cr4_6_20_2 cr4_6_20_3 cr4_6_21_0 cr4_6_21_1 cr4_6_21_2 cr4_6_21_3
  have RA_r4_6_22 := Lib.hid (RA_r4_6_18.out.below hb RA_r4_6_18.out.lt)
  have RB_r4_6_22 := Lib.hid (RB_r4_6_18.out.below hb RB_r4_6_18.out.lt)
  have RC_r4_6_22 := Lib.hid (RC_r4_6_18.out.below hb RC_r4_6_18.out.lt)
  have B_r4_6_22 := Lib.hid (B_r4_6_18.out.trans (hb.mono B_r4_6_18.out.size))
  clear hb RA_r4_6_18 RB_r4_6_18 RC_r4_6_18 B_r4_6_18
  have cr4_6_24_0 := RA_r4_6_22.out.cell 0
  have cr4_6_24_1 := RA_r4_6_22.out.cell 1
  have cr4_6_24_2 := RA_r4_6_22.out.cell 2
  have cr4_6_24_3 := RA_r4_6_22.out.cell 3
  simp only [List.getElem?_cons_zero, List.getElem?_cons_succ] at cr4_6_24_0 cr4_6_24_1 cr4_6_24_2 cr4_6_24_3
  have cr4_6_25_0 := RB_r4_6_22.out.cell 0
  have cr4_6_25_1 := RB_r4_6_22.out.cell 1
  have cr4_6_25_2 := RB_r4_6_22.out.cell 2
  have cr4_6_25_3 := RB_r4_6_22.out.cell 3
  simp only [List.getElem?_cons_zero, List.getElem?_cons_succ] at cr4_6_25_0 cr4_6_25_1 cr4_6_25_2 cr4_6_25_3
  go_wp2_with fail
  refine (HM.out _).mono ?_
  rintro e Wr4_6_23 ⟨rfl, hb⟩
  clear cr4_6_24_0 cr4_6_24_1 cr4_6_24_2 cr4_6_24_3 cr4_6_25_0 cr4_6_25_1 cr4_6_25_2 cr4_6_25_3
  have RA_r4_6_26 := Lib.hid (RA_r4_6_22.out.below hb RA_r4_6_22.out.lt)
  have RB_r4_6_26 := Lib.hid (RB_r4_6_22.out.below hb RB_r4_6_22.out.lt)
  have RC_r4_6_26 := Lib.hid (RC_r4_6_22.out.below hb RC_r4_6_22.out.lt)
  have B_r4_6_26 := Lib.hid (B_r4_6_22.out.trans (hb.mono B_r4_6_22.out.size))
  clear hb RA_r4_6_22 RB_r4_6_22 RC_r4_6_22 B_r4_6_22
  have cr4_6_28_0 := RA_r4_6_26.out.cell 0
  have cr4_6_28_1 := RA_r4_6_26.out.cell 1
  have cr4_6_28_2 := RA_r4_6_26.out.cell 2
  have cr4_6_28_3 := RA_r4_6_26.out.cell 3
  simp only [List.getElem?_cons_zero, List.getElem?_cons_succ] at cr4_6_28_0 cr4_6_28_1 cr4_6_28_2 cr4_6_28_3
  have cr4_6_29_0 := RB_r4_6_26.out.cell 0
  have cr4_6_29_1 := RB_r4_6_26.out.cell 1
  have cr4_6_29_2 := RB_r4_6_26.out.cell 2
  have cr4_6_29_3 := RB_r4_6_26.out.cell 3
  simp only [List.getElem?_cons_zero, List.getElem?_cons_succ] at cr4_6_29_0 cr4_6_29_1 cr4_6_29_2 cr4_6_29_3
  go_wp2_with fail
  refine (HP2.out _).mono ?_
  rintro e Wr4_6_27 ⟨rfl, hb⟩
  clear cr4_6_28_0 cr4_6_28_1 cr4_6_28_2 cr4_6_28_3 cr4_6_29_0 cr4_6_29_1 cr4_6_29_2 cr4_6_29_3
  have RA_r4_6_30 := Lib.hid (RA_r4_6_26.out.below hb RA_r4_6_26.out.lt)
  have RB_r4_6_30 := Lib.hid (RB_r4_6_26.out.below hb RB_r4_6_26.out.lt)
  have RC_r4_6_30 := Lib.hid (RC_r4_6_26.out.below hb RC_r4_6_26.out.lt)
  have B_r4_6_30 := Lib.hid (B_r4_6_26.out.trans (hb.mono B_r4_6_26.out.size))
  clear hb RA_r4_6_26 RB_r4_6_26 RC_r4_6_26 B_r4_6_26
  have cr4_6_31_0 := RA_r4_6_30.out.cell 0
  have cr4_6_31_1 := RA_r4_6_30.out.cell 1
  have cr4_6_31_2 := RA_r4_6_30.out.cell 2
  have cr4_6_31_3 := RA_r4_6_30.out.cell 3
  simp only [List.getElem?_cons_zero, List.getElem?_cons_succ] at cr4_6_31_0 cr4_6_31_1 cr4_6_31_2 cr4_6_31_3
  have cr4_6_32_0 := RB_r4_6_30.out.cell 0
  have cr4_6_32_1 := RB_r4_6_30.out.cell 1
  have cr4_6_32_2 := RB_r4_6_30.out.cell 2
  have cr4_6_32_3 := RB_r4_6_30.out.cell 3
  simp only [List.getElem?_cons_zero, List.getElem?_cons_succ] at cr4_6_32_0 cr4_6_32_1 cr4_6_32_2 cr4_6_32_3
  go_wp2
  go_ret
  exact ⟨rfl, B_r4_6_30.out⟩

set_option maxHeartbeats 4000000 in
theorem walk_1115 (x0 x1 y0 y1 u0 u1 v0 v1 z0 z1 t0 t1 : Int) (w : World) (hm : meetB x0 x1 y0 y1 u0 u1 v0 v1 = true) (hc : coverB z0 z1 t0 t1 x0 x1 y0 y1 = true) (hp : coverB x0 x1 y0 y1 u0 u1 v0 v1 = true) (h4 : ¬ y1 = v1) :
    Calls Try.prog 6 #[KV x0 x1 y0 y1, KV u0 u1 v0 v1, KV z0 z1 t0 t1] w fun e w' => e = .returned (.bool true) ∧ Below w.heap.size w w' := by
  have HW := Lib.hid wakes_any
  have HM := Lib.hid (Meets_any x0 x1 y0 y1 u0 u1 v0 v1)
  have HM2 := Lib.hid (Meets_any u0 u1 v0 v1 x0 x1 y0 y1)
  have HCC := Lib.hid (Covers_any z0 z1 t0 t1 x0 x1 y0 y1)
  have HP := Lib.hid (Covers_any x0 x1 y0 y1 u0 u1 v0 v1)
  rw [meet_sym, hm] at HM2
  have HMC := Lib.hid (Meets_any z0 z1 t0 t1 u0 u1 v0 v1)
  rw [meet_cover hm hc] at HMC
  rw [hm] at HM
  rw [hc] at HCC
  have HP2 := Lib.hid (Covers_any u0 u1 v0 v1 x0 x1 y0 y1)
  have hn : coverB u0 u1 v0 v1 x0 x1 y0 y1 = false := Bool.eq_false_iff.2 (fun h => by have := cover_both hp h; omega)
  rw [hn] at HP2
  clear hn
  rw [hp] at HP
  clear hm hc hp
  go_enter Try.func6, Try.ntmps6
  go_upto_region 1 with fail
  have RA_1 := Lib.hid (((row_last w (w.heap.size) 23 [.int .i64 x0, .int .i64 x1, .int .i64 y0, .int .i64 y1] (by simp)).alloc (.cells #[.int .i64 u0, .int .i64 u1, .int .i64 v0, .int .i64 v1] 23)).alloc (.cells #[.int .i64 z0, .int .i64 z1, .int .i64 t0, .int .i64 t1] 23))
  have RB_1 := Lib.hid ((row_last (w.alloc (.cells #[.int .i64 x0, .int .i64 x1, .int .i64 y0, .int .i64 y1] 23)) (w.heap.size + 1) 23 [.int .i64 u0, .int .i64 u1, .int .i64 v0, .int .i64 v1] (by simp)).alloc (.cells #[.int .i64 z0, .int .i64 z1, .int .i64 t0, .int .i64 t1] 23))
  have RC_1 := Lib.hid (row_last ((w.alloc (.cells #[.int .i64 x0, .int .i64 x1, .int .i64 y0, .int .i64 y1] 23)).alloc (.cells #[.int .i64 u0, .int .i64 u1, .int .i64 v0, .int .i64 v1] 23)) (w.heap.size + 1 + 1) 23 [.int .i64 z0, .int .i64 z1, .int .i64 t0, .int .i64 t1] (by simp))
  have B_1 := Lib.hid ((((Below.refl w.heap.size w).alloc (Nat.le_refl _) (.cells #[.int .i64 x0, .int .i64 x1, .int .i64 y0, .int .i64 y1] 23)).alloc (by have := Nat.le_refl w.heap.size; simp <;> omega) (.cells #[.int .i64 u0, .int .i64 u1, .int .i64 v0, .int .i64 v1] 23)).alloc (by have := Nat.le_refl w.heap.size; simp <;> omega) (.cells #[.int .i64 z0, .int .i64 z1, .int .i64 t0, .int .i64 t1] 23))
  generalize (((w.alloc (.cells #[.int .i64 x0, .int .i64 x1, .int .i64 y0, .int .i64 y1] 23)).alloc (.cells #[.int .i64 u0, .int .i64 u1, .int .i64 v0, .int .i64 v1] 23)).alloc (.cells #[.int .i64 z0, .int .i64 z1, .int .i64 t0, .int .i64 t1] 23)) = V1 at RA_1 RB_1 RC_1 B_1 ⊢
  go_wp2_with fail
  refine (HW.out _).mono ?_
  rintro e W2 ⟨rfl, hb⟩
  have RA_3 := Lib.hid (RA_1.out.below hb RA_1.out.lt)
  have RB_3 := Lib.hid (RB_1.out.below hb RB_1.out.lt)
  have RC_3 := Lib.hid (RC_1.out.below hb RC_1.out.lt)
  have B_3 := Lib.hid (B_1.out.trans (hb.mono B_1.out.size))
  clear hb RA_1 RB_1 RC_1 B_1
  go_wp2_with fail
  refine wp_region_held_drew (S := fun w' => Row w' (w.heap.size) 23 [.int .i64 x0, .int .i64 x1, .int .i64 y0, .int .i64 y1] ∧ Row w' (w.heap.size + 1) 23 [.int .i64 u0, .int .i64 u1, .int .i64 v0, .int .i64 v1]) (by kernel_rfl) ⟨RA_3.out.drew, RB_3.out.drew⟩ (fun hHeld => ?_)
  clear hHeld
  have RA_4 := Lib.hid RA_3.out.drew
  have RB_4 := Lib.hid RB_3.out.drew
  have RC_4 := Lib.hid RC_3.out.drew
  have B_4 := Lib.hid B_3.out.drew
  clear RA_3 RB_3 RC_3 B_3
  generalize W2.drew = D4 at RA_4 RB_4 RC_4 B_4 ⊢
  refine wpAnyH_take (i := 0) (oi := ⟨some 9, _, _, _, _, _⟩) (v := ?vr4_1) rfl (by kernel_rfl) (by kernel_rfl) (by kernel_rfl) (fun _ _ _ h => h) (Or.inl ⟨by rfl, ?yr4_1⟩) ⟨RA_4.out, RB_4.out⟩ ?rr4_1
  case yr4_1 =>
    rintro w' hSw
    have k0 := (show Row w' _ _ _ from hSw.1).cell 0
    have k1 := (show Row w' _ _ _ from hSw.1).cell 1
    have k2 := (show Row w' _ _ _ from hSw.1).cell 2
    have k3 := (show Row w' _ _ _ from hSw.1).cell 3
    simp only [List.getElem?_cons_zero, List.getElem?_cons_succ] at k0 k1 k2 k3
    go_simp
    try with_reducible rfl
  try simp only [Act.put, List.setIfInBounds_toArray, List.set_cons_zero, List.set_cons_succ]
  refine wpAnyH_take (i := 1) (oi := ⟨some 10, _, _, _, _, _⟩) (v := ?vr4_2) rfl (by kernel_rfl) (by kernel_rfl) (by kernel_rfl) (fun _ _ _ h => h) (Or.inl ⟨by rfl, ?yr4_2⟩) ⟨RA_4.out, RB_4.out⟩ ?rr4_2
  case yr4_2 =>
    rintro w' hSw
    have k0 := (show Row w' _ _ _ from hSw.2).cell 0
    have k1 := (show Row w' _ _ _ from hSw.2).cell 1
    have k2 := (show Row w' _ _ _ from hSw.2).cell 2
    have k3 := (show Row w' _ _ _ from hSw.2).cell 3
    simp only [List.getElem?_cons_zero, List.getElem?_cons_succ] at k0 k1 k2 k3
    go_simp
    try with_reducible rfl
  try simp only [Act.put, List.setIfInBounds_toArray, List.set_cons_zero, List.set_cons_succ]
  refine wpAnyH_take (i := 3) (oi := ⟨some 12, _, _, _, _, _⟩) (v := ?vr4_3) rfl (by kernel_rfl) (by kernel_rfl) (by kernel_rfl) (fun _ _ _ h => h) (Or.inl ⟨by rfl, ?yr4_3⟩) ⟨RA_4.out, RB_4.out⟩ ?rr4_3
  case yr4_3 =>
    rintro w' hSw
    have k0 := (show Row w' _ _ _ from hSw.2).cell 0
    have k1 := (show Row w' _ _ _ from hSw.2).cell 1
    have k2 := (show Row w' _ _ _ from hSw.2).cell 2
    have k3 := (show Row w' _ _ _ from hSw.2).cell 3
    simp only [List.getElem?_cons_zero, List.getElem?_cons_succ] at k0 k1 k2 k3
    go_simp
    try with_reducible rfl
  try simp only [Act.put, List.setIfInBounds_toArray, List.set_cons_zero, List.set_cons_succ]
  refine wpAnyH_take (i := 4) (oi := ⟨some 13, _, _, _, _, _⟩) (v := ?vr4_4) rfl (by kernel_rfl) (by kernel_rfl) (by kernel_rfl) (fun _ _ _ h => h) (Or.inl ⟨by rfl, ?yr4_4⟩) ⟨RA_4.out, RB_4.out⟩ ?rr4_4
  case yr4_4 =>
    rintro w' hSw
    have k0 := (show Row w' _ _ _ from hSw.1).cell 0
    have k1 := (show Row w' _ _ _ from hSw.1).cell 1
    have k2 := (show Row w' _ _ _ from hSw.1).cell 2
    have k3 := (show Row w' _ _ _ from hSw.1).cell 3
    simp only [List.getElem?_cons_zero, List.getElem?_cons_succ] at k0 k1 k2 k3
    go_simp
    try with_reducible rfl
  try simp only [Act.put, List.setIfInBounds_toArray, List.set_cons_zero, List.set_cons_succ]
  refine wpAnyH_ready (rs := [2]) (by kernel_rfl) (by simp) ?_
  refine (AllReadyH.cons rfl (fun K hK => ?_) AllReadyH.nil)
  go_simp
  refine (HM.out _).mono ?_
  rintro e Xr4_5 ⟨rfl, hb⟩
  have RA_r4_5_5 := Lib.hid (RA_4.out.below hb RA_4.out.lt)
  have RB_r4_5_5 := Lib.hid (RB_4.out.below hb RB_4.out.lt)
  have RC_r4_5_5 := Lib.hid (RC_4.out.below hb RC_4.out.lt)
  have B_r4_5_5 := Lib.hid (B_4.out.trans (hb.mono B_4.out.size))
  clear hb RA_4 RB_4 RC_4 B_4
  refine hK _ _ ⟨RA_r4_5_5.out, RB_r4_5_5.out⟩ (fun _ => ?_)
  clear hK K
  try simp only [Act.put, List.setIfInBounds_toArray, List.set_cons_zero, List.set_cons_succ]
  refine wpAnyH_ready (rs := [5]) (by kernel_rfl) (by simp) ?_
  refine (AllReadyH.cons rfl (fun K hK => ?_) AllReadyH.nil)
  go_simp
  refine (HM2.out _).mono ?_
  rintro e Xr4_6 ⟨rfl, hb⟩
  have RA_r4_6_6 := Lib.hid (RA_r4_5_5.out.below hb RA_r4_5_5.out.lt)
  have RB_r4_6_6 := Lib.hid (RB_r4_5_5.out.below hb RB_r4_5_5.out.lt)
  have RC_r4_6_6 := Lib.hid (RC_r4_5_5.out.below hb RC_r4_5_5.out.lt)
  have B_r4_6_6 := Lib.hid (B_r4_5_5.out.trans (hb.mono B_r4_5_5.out.size))
  clear hb RA_r4_5_5 RB_r4_5_5 RC_r4_5_5 B_r4_5_5
  refine hK _ _ ⟨RA_r4_6_6.out, RB_r4_6_6.out⟩ (fun _ => ?_)
  clear hK K
  try simp only [Act.put, List.setIfInBounds_toArray, List.set_cons_zero, List.set_cons_succ]
  refine wpAnyH_take (i := 6) (oi := ⟨some 15, _, _, _, _, _⟩) (v := ?vr4_7) rfl (by kernel_rfl) (by kernel_rfl) (by kernel_rfl) (fun _ _ _ h => h) (Or.inl ⟨by rfl, ?yr4_7⟩) ⟨RA_r4_6_6.out, RB_r4_6_6.out⟩ ?rr4_7
  case yr4_7 =>
    rintro w' hSw
    go_simp
    try with_reducible rfl
  try simp only [Act.put, List.setIfInBounds_toArray, List.set_cons_zero, List.set_cons_succ]
  refine wpAnyH_done (by kernel_rfl) ?_ _
  have cr4_6_8_0 := RA_r4_6_6.out.cell 0
  have cr4_6_8_1 := RA_r4_6_6.out.cell 1
  have cr4_6_8_2 := RA_r4_6_6.out.cell 2
  have cr4_6_8_3 := RA_r4_6_6.out.cell 3
  simp only [List.getElem?_cons_zero, List.getElem?_cons_succ] at cr4_6_8_0 cr4_6_8_1 cr4_6_8_2 cr4_6_8_3
  have cr4_6_9_0 := RB_r4_6_6.out.cell 0
  have cr4_6_9_1 := RB_r4_6_6.out.cell 1
  have cr4_6_9_2 := RB_r4_6_6.out.cell 2
  have cr4_6_9_3 := RB_r4_6_6.out.cell 3
  simp only [List.getElem?_cons_zero, List.getElem?_cons_succ] at cr4_6_9_0 cr4_6_9_1 cr4_6_9_2 cr4_6_9_3
  go_wp2_with fail
  refine (HM.out _).mono ?_
  rintro e Wr4_6_7 ⟨rfl, hb⟩
  clear cr4_6_8_0 cr4_6_8_1 cr4_6_8_2 cr4_6_8_3 cr4_6_9_0 cr4_6_9_1 cr4_6_9_2 cr4_6_9_3
  have RA_r4_6_10 := Lib.hid (RA_r4_6_6.out.below hb RA_r4_6_6.out.lt)
  have RB_r4_6_10 := Lib.hid (RB_r4_6_6.out.below hb RB_r4_6_6.out.lt)
  have RC_r4_6_10 := Lib.hid (RC_r4_6_6.out.below hb RC_r4_6_6.out.lt)
  have B_r4_6_10 := Lib.hid (B_r4_6_6.out.trans (hb.mono B_r4_6_6.out.size))
  clear hb RA_r4_6_6 RB_r4_6_6 RC_r4_6_6 B_r4_6_6
  have cr4_6_12_0 := RA_r4_6_10.out.cell 0
  have cr4_6_12_1 := RA_r4_6_10.out.cell 1
  have cr4_6_12_2 := RA_r4_6_10.out.cell 2
  have cr4_6_12_3 := RA_r4_6_10.out.cell 3
  simp only [List.getElem?_cons_zero, List.getElem?_cons_succ] at cr4_6_12_0 cr4_6_12_1 cr4_6_12_2 cr4_6_12_3
  have cr4_6_13_0 := RC_r4_6_10.out.cell 0
  have cr4_6_13_1 := RC_r4_6_10.out.cell 1
  have cr4_6_13_2 := RC_r4_6_10.out.cell 2
  have cr4_6_13_3 := RC_r4_6_10.out.cell 3
  simp only [List.getElem?_cons_zero, List.getElem?_cons_succ] at cr4_6_13_0 cr4_6_13_1 cr4_6_13_2 cr4_6_13_3
  go_wp2_with fail
  refine (HCC.out _).mono ?_
  rintro e Wr4_6_11 ⟨rfl, hb⟩
  clear cr4_6_12_0 cr4_6_12_1 cr4_6_12_2 cr4_6_12_3 cr4_6_13_0 cr4_6_13_1 cr4_6_13_2 cr4_6_13_3
  have RA_r4_6_14 := Lib.hid (RA_r4_6_10.out.below hb RA_r4_6_10.out.lt)
  have RB_r4_6_14 := Lib.hid (RB_r4_6_10.out.below hb RB_r4_6_10.out.lt)
  have RC_r4_6_14 := Lib.hid (RC_r4_6_10.out.below hb RC_r4_6_10.out.lt)
  have B_r4_6_14 := Lib.hid (B_r4_6_10.out.trans (hb.mono B_r4_6_10.out.size))
  clear hb RA_r4_6_10 RB_r4_6_10 RC_r4_6_10 B_r4_6_10
  have cr4_6_16_0 := RB_r4_6_14.out.cell 0
  have cr4_6_16_1 := RB_r4_6_14.out.cell 1
  have cr4_6_16_2 := RB_r4_6_14.out.cell 2
  have cr4_6_16_3 := RB_r4_6_14.out.cell 3
  simp only [List.getElem?_cons_zero, List.getElem?_cons_succ] at cr4_6_16_0 cr4_6_16_1 cr4_6_16_2 cr4_6_16_3
  have cr4_6_17_0 := RC_r4_6_14.out.cell 0
  have cr4_6_17_1 := RC_r4_6_14.out.cell 1
  have cr4_6_17_2 := RC_r4_6_14.out.cell 2
  have cr4_6_17_3 := RC_r4_6_14.out.cell 3
  simp only [List.getElem?_cons_zero, List.getElem?_cons_succ] at cr4_6_17_0 cr4_6_17_1 cr4_6_17_2 cr4_6_17_3
  go_wp2_with fail
  refine (HMC.out _).mono ?_
  rintro e Wr4_6_15 ⟨rfl, hb⟩
  clear cr4_6_16_0 cr4_6_16_1 cr4_6_16_2 cr4_6_16_3 cr4_6_17_0 cr4_6_17_1 cr4_6_17_2 cr4_6_17_3
  have RA_r4_6_18 := Lib.hid (RA_r4_6_14.out.below hb RA_r4_6_14.out.lt)
  have RB_r4_6_18 := Lib.hid (RB_r4_6_14.out.below hb RB_r4_6_14.out.lt)
  have RC_r4_6_18 := Lib.hid (RC_r4_6_14.out.below hb RC_r4_6_14.out.lt)
  have B_r4_6_18 := Lib.hid (B_r4_6_14.out.trans (hb.mono B_r4_6_14.out.size))
  clear hb RA_r4_6_14 RB_r4_6_14 RC_r4_6_14 B_r4_6_14
  have cr4_6_20_0 := RA_r4_6_18.out.cell 0
  have cr4_6_20_1 := RA_r4_6_18.out.cell 1
  have cr4_6_20_2 := RA_r4_6_18.out.cell 2
  have cr4_6_20_3 := RA_r4_6_18.out.cell 3
  simp only [List.getElem?_cons_zero, List.getElem?_cons_succ] at cr4_6_20_0 cr4_6_20_1 cr4_6_20_2 cr4_6_20_3
  have cr4_6_21_0 := RB_r4_6_18.out.cell 0
  have cr4_6_21_1 := RB_r4_6_18.out.cell 1
  have cr4_6_21_2 := RB_r4_6_18.out.cell 2
  have cr4_6_21_3 := RB_r4_6_18.out.cell 3
  simp only [List.getElem?_cons_zero, List.getElem?_cons_succ] at cr4_6_21_0 cr4_6_21_1 cr4_6_21_2 cr4_6_21_3
  go_wp2_with fail
  refine (HP.out _).mono ?_
  rintro e Wr4_6_19 ⟨rfl, hb⟩
  clear cr4_6_20_0 cr4_6_20_1 cr4_6_20_2 cr4_6_20_3 cr4_6_21_0 cr4_6_21_1 cr4_6_21_2 cr4_6_21_3
  have RA_r4_6_22 := Lib.hid (RA_r4_6_18.out.below hb RA_r4_6_18.out.lt)
  have RB_r4_6_22 := Lib.hid (RB_r4_6_18.out.below hb RB_r4_6_18.out.lt)
  have RC_r4_6_22 := Lib.hid (RC_r4_6_18.out.below hb RC_r4_6_18.out.lt)
  have B_r4_6_22 := Lib.hid (B_r4_6_18.out.trans (hb.mono B_r4_6_18.out.size))
  clear hb RA_r4_6_18 RB_r4_6_18 RC_r4_6_18 B_r4_6_18
  have cr4_6_24_0 := RA_r4_6_22.out.cell 0
  have cr4_6_24_1 := RA_r4_6_22.out.cell 1
  have cr4_6_24_2 := RA_r4_6_22.out.cell 2
  have cr4_6_24_3 := RA_r4_6_22.out.cell 3
  simp only [List.getElem?_cons_zero, List.getElem?_cons_succ] at cr4_6_24_0 cr4_6_24_1 cr4_6_24_2 cr4_6_24_3
  have cr4_6_25_0 := RB_r4_6_22.out.cell 0
  have cr4_6_25_1 := RB_r4_6_22.out.cell 1
  have cr4_6_25_2 := RB_r4_6_22.out.cell 2
  have cr4_6_25_3 := RB_r4_6_22.out.cell 3
  simp only [List.getElem?_cons_zero, List.getElem?_cons_succ] at cr4_6_25_0 cr4_6_25_1 cr4_6_25_2 cr4_6_25_3
  go_wp2_with fail
  refine (HM.out _).mono ?_
  rintro e Wr4_6_23 ⟨rfl, hb⟩
  clear cr4_6_24_0 cr4_6_24_1 cr4_6_24_2 cr4_6_24_3 cr4_6_25_0 cr4_6_25_1 cr4_6_25_2 cr4_6_25_3
  have RA_r4_6_26 := Lib.hid (RA_r4_6_22.out.below hb RA_r4_6_22.out.lt)
  have RB_r4_6_26 := Lib.hid (RB_r4_6_22.out.below hb RB_r4_6_22.out.lt)
  have RC_r4_6_26 := Lib.hid (RC_r4_6_22.out.below hb RC_r4_6_22.out.lt)
  have B_r4_6_26 := Lib.hid (B_r4_6_22.out.trans (hb.mono B_r4_6_22.out.size))
  clear hb RA_r4_6_22 RB_r4_6_22 RC_r4_6_22 B_r4_6_22
  have cr4_6_28_0 := RA_r4_6_26.out.cell 0
  have cr4_6_28_1 := RA_r4_6_26.out.cell 1
  have cr4_6_28_2 := RA_r4_6_26.out.cell 2
  have cr4_6_28_3 := RA_r4_6_26.out.cell 3
  simp only [List.getElem?_cons_zero, List.getElem?_cons_succ] at cr4_6_28_0 cr4_6_28_1 cr4_6_28_2 cr4_6_28_3
  have cr4_6_29_0 := RB_r4_6_26.out.cell 0
  have cr4_6_29_1 := RB_r4_6_26.out.cell 1
  have cr4_6_29_2 := RB_r4_6_26.out.cell 2
  have cr4_6_29_3 := RB_r4_6_26.out.cell 3
  simp only [List.getElem?_cons_zero, List.getElem?_cons_succ] at cr4_6_29_0 cr4_6_29_1 cr4_6_29_2 cr4_6_29_3
  go_wp2_with fail
  refine (HP2.out _).mono ?_
  rintro e Wr4_6_27 ⟨rfl, hb⟩
  clear cr4_6_28_0 cr4_6_28_1 cr4_6_28_2 cr4_6_28_3 cr4_6_29_0 cr4_6_29_1 cr4_6_29_2 cr4_6_29_3
  have RA_r4_6_30 := Lib.hid (RA_r4_6_26.out.below hb RA_r4_6_26.out.lt)
  have RB_r4_6_30 := Lib.hid (RB_r4_6_26.out.below hb RB_r4_6_26.out.lt)
  have RC_r4_6_30 := Lib.hid (RC_r4_6_26.out.below hb RC_r4_6_26.out.lt)
  have B_r4_6_30 := Lib.hid (B_r4_6_26.out.trans (hb.mono B_r4_6_26.out.size))
  clear hb RA_r4_6_26 RB_r4_6_26 RC_r4_6_26 B_r4_6_26
  have cr4_6_31_0 := RA_r4_6_30.out.cell 0
  have cr4_6_31_1 := RA_r4_6_30.out.cell 1
  have cr4_6_31_2 := RA_r4_6_30.out.cell 2
  have cr4_6_31_3 := RA_r4_6_30.out.cell 3
  simp only [List.getElem?_cons_zero, List.getElem?_cons_succ] at cr4_6_31_0 cr4_6_31_1 cr4_6_31_2 cr4_6_31_3
  have cr4_6_32_0 := RB_r4_6_30.out.cell 0
  have cr4_6_32_1 := RB_r4_6_30.out.cell 1
  have cr4_6_32_2 := RB_r4_6_30.out.cell 2
  have cr4_6_32_3 := RB_r4_6_30.out.cell 3
  simp only [List.getElem?_cons_zero, List.getElem?_cons_succ] at cr4_6_32_0 cr4_6_32_1 cr4_6_32_2 cr4_6_32_3
  go_wp2
  go_ret
  exact ⟨rfl, B_r4_6_30.out⟩

set_option maxHeartbeats 4000000 in
theorem walk_1014 (x0 x1 y0 y1 z0 z1 t0 t1 : Int) (w : World) (hm : meetB x0 x1 y0 y1 x0 x1 y0 y1 = true) (hc : coverB z0 z1 t0 t1 x0 x1 y0 y1 = false) (hp : coverB x0 x1 y0 y1 x0 x1 y0 y1 = true)  :
    Calls Try.prog 6 #[KV x0 x1 y0 y1, KV x0 x1 y0 y1, KV z0 z1 t0 t1] w fun e w' => e = .returned (.bool true) ∧ Below w.heap.size w w' := by
  have HW := Lib.hid wakes_any
  have HM := Lib.hid (Meets_any x0 x1 y0 y1 x0 x1 y0 y1)
  have HM2 := Lib.hid (Meets_any x0 x1 y0 y1 x0 x1 y0 y1)
  have HCC := Lib.hid (Covers_any z0 z1 t0 t1 x0 x1 y0 y1)
  have HP := Lib.hid (Covers_any x0 x1 y0 y1 x0 x1 y0 y1)
  rw [meet_sym, hm] at HM2
  rw [hm] at HM
  rw [hc] at HCC
  rw [hp] at HP
  clear hm hc hp
  go_enter Try.func6, Try.ntmps6
  go_upto_region 1 with fail
  have RA_1 := Lib.hid (((row_last w (w.heap.size) 23 [.int .i64 x0, .int .i64 x1, .int .i64 y0, .int .i64 y1] (by simp)).alloc (.cells #[.int .i64 x0, .int .i64 x1, .int .i64 y0, .int .i64 y1] 23)).alloc (.cells #[.int .i64 z0, .int .i64 z1, .int .i64 t0, .int .i64 t1] 23))
  have RB_1 := Lib.hid ((row_last (w.alloc (.cells #[.int .i64 x0, .int .i64 x1, .int .i64 y0, .int .i64 y1] 23)) (w.heap.size + 1) 23 [.int .i64 x0, .int .i64 x1, .int .i64 y0, .int .i64 y1] (by simp)).alloc (.cells #[.int .i64 z0, .int .i64 z1, .int .i64 t0, .int .i64 t1] 23))
  have RC_1 := Lib.hid (row_last ((w.alloc (.cells #[.int .i64 x0, .int .i64 x1, .int .i64 y0, .int .i64 y1] 23)).alloc (.cells #[.int .i64 x0, .int .i64 x1, .int .i64 y0, .int .i64 y1] 23)) (w.heap.size + 1 + 1) 23 [.int .i64 z0, .int .i64 z1, .int .i64 t0, .int .i64 t1] (by simp))
  have B_1 := Lib.hid ((((Below.refl w.heap.size w).alloc (Nat.le_refl _) (.cells #[.int .i64 x0, .int .i64 x1, .int .i64 y0, .int .i64 y1] 23)).alloc (by have := Nat.le_refl w.heap.size; simp <;> omega) (.cells #[.int .i64 x0, .int .i64 x1, .int .i64 y0, .int .i64 y1] 23)).alloc (by have := Nat.le_refl w.heap.size; simp <;> omega) (.cells #[.int .i64 z0, .int .i64 z1, .int .i64 t0, .int .i64 t1] 23))
  generalize (((w.alloc (.cells #[.int .i64 x0, .int .i64 x1, .int .i64 y0, .int .i64 y1] 23)).alloc (.cells #[.int .i64 x0, .int .i64 x1, .int .i64 y0, .int .i64 y1] 23)).alloc (.cells #[.int .i64 z0, .int .i64 z1, .int .i64 t0, .int .i64 t1] 23)) = V1 at RA_1 RB_1 RC_1 B_1 ⊢
  go_wp2_with fail
  refine (HW.out _).mono ?_
  rintro e W2 ⟨rfl, hb⟩
  have RA_3 := Lib.hid (RA_1.out.below hb RA_1.out.lt)
  have RB_3 := Lib.hid (RB_1.out.below hb RB_1.out.lt)
  have RC_3 := Lib.hid (RC_1.out.below hb RC_1.out.lt)
  have B_3 := Lib.hid (B_1.out.trans (hb.mono B_1.out.size))
  clear hb RA_1 RB_1 RC_1 B_1
  go_wp2_with fail
  refine wp_region_held_drew (S := fun w' => Row w' (w.heap.size) 23 [.int .i64 x0, .int .i64 x1, .int .i64 y0, .int .i64 y1] ∧ Row w' (w.heap.size + 1) 23 [.int .i64 x0, .int .i64 x1, .int .i64 y0, .int .i64 y1]) (by kernel_rfl) ⟨RA_3.out.drew, RB_3.out.drew⟩ (fun hHeld => ?_)
  clear hHeld
  have RA_4 := Lib.hid RA_3.out.drew
  have RB_4 := Lib.hid RB_3.out.drew
  have RC_4 := Lib.hid RC_3.out.drew
  have B_4 := Lib.hid B_3.out.drew
  clear RA_3 RB_3 RC_3 B_3
  generalize W2.drew = D4 at RA_4 RB_4 RC_4 B_4 ⊢
  refine wpAnyH_take (i := 0) (oi := ⟨some 9, _, _, _, _, _⟩) (v := ?vr4_1) rfl (by kernel_rfl) (by kernel_rfl) (by kernel_rfl) (fun _ _ _ h => h) (Or.inl ⟨by rfl, ?yr4_1⟩) ⟨RA_4.out, RB_4.out⟩ ?rr4_1
  case yr4_1 =>
    rintro w' hSw
    have k0 := (show Row w' _ _ _ from hSw.1).cell 0
    have k1 := (show Row w' _ _ _ from hSw.1).cell 1
    have k2 := (show Row w' _ _ _ from hSw.1).cell 2
    have k3 := (show Row w' _ _ _ from hSw.1).cell 3
    simp only [List.getElem?_cons_zero, List.getElem?_cons_succ] at k0 k1 k2 k3
    go_simp
    try with_reducible rfl
  try simp only [Act.put, List.setIfInBounds_toArray, List.set_cons_zero, List.set_cons_succ]
  refine wpAnyH_take (i := 1) (oi := ⟨some 10, _, _, _, _, _⟩) (v := ?vr4_2) rfl (by kernel_rfl) (by kernel_rfl) (by kernel_rfl) (fun _ _ _ h => h) (Or.inl ⟨by rfl, ?yr4_2⟩) ⟨RA_4.out, RB_4.out⟩ ?rr4_2
  case yr4_2 =>
    rintro w' hSw
    have k0 := (show Row w' _ _ _ from hSw.2).cell 0
    have k1 := (show Row w' _ _ _ from hSw.2).cell 1
    have k2 := (show Row w' _ _ _ from hSw.2).cell 2
    have k3 := (show Row w' _ _ _ from hSw.2).cell 3
    simp only [List.getElem?_cons_zero, List.getElem?_cons_succ] at k0 k1 k2 k3
    go_simp
    try with_reducible rfl
  try simp only [Act.put, List.setIfInBounds_toArray, List.set_cons_zero, List.set_cons_succ]
  refine wpAnyH_take (i := 3) (oi := ⟨some 12, _, _, _, _, _⟩) (v := ?vr4_3) rfl (by kernel_rfl) (by kernel_rfl) (by kernel_rfl) (fun _ _ _ h => h) (Or.inl ⟨by rfl, ?yr4_3⟩) ⟨RA_4.out, RB_4.out⟩ ?rr4_3
  case yr4_3 =>
    rintro w' hSw
    have k0 := (show Row w' _ _ _ from hSw.2).cell 0
    have k1 := (show Row w' _ _ _ from hSw.2).cell 1
    have k2 := (show Row w' _ _ _ from hSw.2).cell 2
    have k3 := (show Row w' _ _ _ from hSw.2).cell 3
    simp only [List.getElem?_cons_zero, List.getElem?_cons_succ] at k0 k1 k2 k3
    go_simp
    try with_reducible rfl
  try simp only [Act.put, List.setIfInBounds_toArray, List.set_cons_zero, List.set_cons_succ]
  refine wpAnyH_take (i := 4) (oi := ⟨some 13, _, _, _, _, _⟩) (v := ?vr4_4) rfl (by kernel_rfl) (by kernel_rfl) (by kernel_rfl) (fun _ _ _ h => h) (Or.inl ⟨by rfl, ?yr4_4⟩) ⟨RA_4.out, RB_4.out⟩ ?rr4_4
  case yr4_4 =>
    rintro w' hSw
    have k0 := (show Row w' _ _ _ from hSw.1).cell 0
    have k1 := (show Row w' _ _ _ from hSw.1).cell 1
    have k2 := (show Row w' _ _ _ from hSw.1).cell 2
    have k3 := (show Row w' _ _ _ from hSw.1).cell 3
    simp only [List.getElem?_cons_zero, List.getElem?_cons_succ] at k0 k1 k2 k3
    go_simp
    try with_reducible rfl
  try simp only [Act.put, List.setIfInBounds_toArray, List.set_cons_zero, List.set_cons_succ]
  refine wpAnyH_ready (rs := [2]) (by kernel_rfl) (by simp) ?_
  refine (AllReadyH.cons rfl (fun K hK => ?_) AllReadyH.nil)
  go_simp
  refine (HM.out _).mono ?_
  rintro e Xr4_5 ⟨rfl, hb⟩
  have RA_r4_5_5 := Lib.hid (RA_4.out.below hb RA_4.out.lt)
  have RB_r4_5_5 := Lib.hid (RB_4.out.below hb RB_4.out.lt)
  have RC_r4_5_5 := Lib.hid (RC_4.out.below hb RC_4.out.lt)
  have B_r4_5_5 := Lib.hid (B_4.out.trans (hb.mono B_4.out.size))
  clear hb RA_4 RB_4 RC_4 B_4
  refine hK _ _ ⟨RA_r4_5_5.out, RB_r4_5_5.out⟩ (fun _ => ?_)
  clear hK K
  try simp only [Act.put, List.setIfInBounds_toArray, List.set_cons_zero, List.set_cons_succ]
  refine wpAnyH_ready (rs := [5]) (by kernel_rfl) (by simp) ?_
  refine (AllReadyH.cons rfl (fun K hK => ?_) AllReadyH.nil)
  go_simp
  refine (HM2.out _).mono ?_
  rintro e Xr4_6 ⟨rfl, hb⟩
  have RA_r4_6_6 := Lib.hid (RA_r4_5_5.out.below hb RA_r4_5_5.out.lt)
  have RB_r4_6_6 := Lib.hid (RB_r4_5_5.out.below hb RB_r4_5_5.out.lt)
  have RC_r4_6_6 := Lib.hid (RC_r4_5_5.out.below hb RC_r4_5_5.out.lt)
  have B_r4_6_6 := Lib.hid (B_r4_5_5.out.trans (hb.mono B_r4_5_5.out.size))
  clear hb RA_r4_5_5 RB_r4_5_5 RC_r4_5_5 B_r4_5_5
  refine hK _ _ ⟨RA_r4_6_6.out, RB_r4_6_6.out⟩ (fun _ => ?_)
  clear hK K
  try simp only [Act.put, List.setIfInBounds_toArray, List.set_cons_zero, List.set_cons_succ]
  refine wpAnyH_take (i := 6) (oi := ⟨some 15, _, _, _, _, _⟩) (v := ?vr4_7) rfl (by kernel_rfl) (by kernel_rfl) (by kernel_rfl) (fun _ _ _ h => h) (Or.inl ⟨by rfl, ?yr4_7⟩) ⟨RA_r4_6_6.out, RB_r4_6_6.out⟩ ?rr4_7
  case yr4_7 =>
    rintro w' hSw
    go_simp
    try with_reducible rfl
  try simp only [Act.put, List.setIfInBounds_toArray, List.set_cons_zero, List.set_cons_succ]
  refine wpAnyH_done (by kernel_rfl) ?_ _
  have cr4_6_8_0 := RA_r4_6_6.out.cell 0
  have cr4_6_8_1 := RA_r4_6_6.out.cell 1
  have cr4_6_8_2 := RA_r4_6_6.out.cell 2
  have cr4_6_8_3 := RA_r4_6_6.out.cell 3
  simp only [List.getElem?_cons_zero, List.getElem?_cons_succ] at cr4_6_8_0 cr4_6_8_1 cr4_6_8_2 cr4_6_8_3
  have cr4_6_9_0 := RB_r4_6_6.out.cell 0
  have cr4_6_9_1 := RB_r4_6_6.out.cell 1
  have cr4_6_9_2 := RB_r4_6_6.out.cell 2
  have cr4_6_9_3 := RB_r4_6_6.out.cell 3
  simp only [List.getElem?_cons_zero, List.getElem?_cons_succ] at cr4_6_9_0 cr4_6_9_1 cr4_6_9_2 cr4_6_9_3
  go_wp2_with fail
  refine (HM.out _).mono ?_
  rintro e Wr4_6_7 ⟨rfl, hb⟩
  clear cr4_6_8_0 cr4_6_8_1 cr4_6_8_2 cr4_6_8_3 cr4_6_9_0 cr4_6_9_1 cr4_6_9_2 cr4_6_9_3
  have RA_r4_6_10 := Lib.hid (RA_r4_6_6.out.below hb RA_r4_6_6.out.lt)
  have RB_r4_6_10 := Lib.hid (RB_r4_6_6.out.below hb RB_r4_6_6.out.lt)
  have RC_r4_6_10 := Lib.hid (RC_r4_6_6.out.below hb RC_r4_6_6.out.lt)
  have B_r4_6_10 := Lib.hid (B_r4_6_6.out.trans (hb.mono B_r4_6_6.out.size))
  clear hb RA_r4_6_6 RB_r4_6_6 RC_r4_6_6 B_r4_6_6
  have cr4_6_12_0 := RA_r4_6_10.out.cell 0
  have cr4_6_12_1 := RA_r4_6_10.out.cell 1
  have cr4_6_12_2 := RA_r4_6_10.out.cell 2
  have cr4_6_12_3 := RA_r4_6_10.out.cell 3
  simp only [List.getElem?_cons_zero, List.getElem?_cons_succ] at cr4_6_12_0 cr4_6_12_1 cr4_6_12_2 cr4_6_12_3
  have cr4_6_13_0 := RC_r4_6_10.out.cell 0
  have cr4_6_13_1 := RC_r4_6_10.out.cell 1
  have cr4_6_13_2 := RC_r4_6_10.out.cell 2
  have cr4_6_13_3 := RC_r4_6_10.out.cell 3
  simp only [List.getElem?_cons_zero, List.getElem?_cons_succ] at cr4_6_13_0 cr4_6_13_1 cr4_6_13_2 cr4_6_13_3
  go_wp2_with fail
  refine (HCC.out _).mono ?_
  rintro e Wr4_6_11 ⟨rfl, hb⟩
  clear cr4_6_12_0 cr4_6_12_1 cr4_6_12_2 cr4_6_12_3 cr4_6_13_0 cr4_6_13_1 cr4_6_13_2 cr4_6_13_3
  have RA_r4_6_14 := Lib.hid (RA_r4_6_10.out.below hb RA_r4_6_10.out.lt)
  have RB_r4_6_14 := Lib.hid (RB_r4_6_10.out.below hb RB_r4_6_10.out.lt)
  have RC_r4_6_14 := Lib.hid (RC_r4_6_10.out.below hb RC_r4_6_10.out.lt)
  have B_r4_6_14 := Lib.hid (B_r4_6_10.out.trans (hb.mono B_r4_6_10.out.size))
  clear hb RA_r4_6_10 RB_r4_6_10 RC_r4_6_10 B_r4_6_10
  have cr4_6_16_0 := RA_r4_6_14.out.cell 0
  have cr4_6_16_1 := RA_r4_6_14.out.cell 1
  have cr4_6_16_2 := RA_r4_6_14.out.cell 2
  have cr4_6_16_3 := RA_r4_6_14.out.cell 3
  simp only [List.getElem?_cons_zero, List.getElem?_cons_succ] at cr4_6_16_0 cr4_6_16_1 cr4_6_16_2 cr4_6_16_3
  have cr4_6_17_0 := RB_r4_6_14.out.cell 0
  have cr4_6_17_1 := RB_r4_6_14.out.cell 1
  have cr4_6_17_2 := RB_r4_6_14.out.cell 2
  have cr4_6_17_3 := RB_r4_6_14.out.cell 3
  simp only [List.getElem?_cons_zero, List.getElem?_cons_succ] at cr4_6_17_0 cr4_6_17_1 cr4_6_17_2 cr4_6_17_3
  go_wp2_with fail
  refine (HP.out _).mono ?_
  rintro e Wr4_6_15 ⟨rfl, hb⟩
  clear cr4_6_16_0 cr4_6_16_1 cr4_6_16_2 cr4_6_16_3 cr4_6_17_0 cr4_6_17_1 cr4_6_17_2 cr4_6_17_3
  have RA_r4_6_18 := Lib.hid (RA_r4_6_14.out.below hb RA_r4_6_14.out.lt)
  have RB_r4_6_18 := Lib.hid (RB_r4_6_14.out.below hb RB_r4_6_14.out.lt)
  have RC_r4_6_18 := Lib.hid (RC_r4_6_14.out.below hb RC_r4_6_14.out.lt)
  have B_r4_6_18 := Lib.hid (B_r4_6_14.out.trans (hb.mono B_r4_6_14.out.size))
  clear hb RA_r4_6_14 RB_r4_6_14 RC_r4_6_14 B_r4_6_14
  have cr4_6_20_0 := RA_r4_6_18.out.cell 0
  have cr4_6_20_1 := RA_r4_6_18.out.cell 1
  have cr4_6_20_2 := RA_r4_6_18.out.cell 2
  have cr4_6_20_3 := RA_r4_6_18.out.cell 3
  simp only [List.getElem?_cons_zero, List.getElem?_cons_succ] at cr4_6_20_0 cr4_6_20_1 cr4_6_20_2 cr4_6_20_3
  have cr4_6_21_0 := RB_r4_6_18.out.cell 0
  have cr4_6_21_1 := RB_r4_6_18.out.cell 1
  have cr4_6_21_2 := RB_r4_6_18.out.cell 2
  have cr4_6_21_3 := RB_r4_6_18.out.cell 3
  simp only [List.getElem?_cons_zero, List.getElem?_cons_succ] at cr4_6_21_0 cr4_6_21_1 cr4_6_21_2 cr4_6_21_3
  go_wp2_with fail
  refine (HM.out _).mono ?_
  rintro e Wr4_6_19 ⟨rfl, hb⟩
  clear cr4_6_20_0 cr4_6_20_1 cr4_6_20_2 cr4_6_20_3 cr4_6_21_0 cr4_6_21_1 cr4_6_21_2 cr4_6_21_3
  have RA_r4_6_22 := Lib.hid (RA_r4_6_18.out.below hb RA_r4_6_18.out.lt)
  have RB_r4_6_22 := Lib.hid (RB_r4_6_18.out.below hb RB_r4_6_18.out.lt)
  have RC_r4_6_22 := Lib.hid (RC_r4_6_18.out.below hb RC_r4_6_18.out.lt)
  have B_r4_6_22 := Lib.hid (B_r4_6_18.out.trans (hb.mono B_r4_6_18.out.size))
  clear hb RA_r4_6_18 RB_r4_6_18 RC_r4_6_18 B_r4_6_18
  have cr4_6_23_0 := RA_r4_6_22.out.cell 0
  have cr4_6_23_1 := RA_r4_6_22.out.cell 1
  have cr4_6_23_2 := RA_r4_6_22.out.cell 2
  have cr4_6_23_3 := RA_r4_6_22.out.cell 3
  simp only [List.getElem?_cons_zero, List.getElem?_cons_succ] at cr4_6_23_0 cr4_6_23_1 cr4_6_23_2 cr4_6_23_3
  have cr4_6_24_0 := RB_r4_6_22.out.cell 0
  have cr4_6_24_1 := RB_r4_6_22.out.cell 1
  have cr4_6_24_2 := RB_r4_6_22.out.cell 2
  have cr4_6_24_3 := RB_r4_6_22.out.cell 3
  simp only [List.getElem?_cons_zero, List.getElem?_cons_succ] at cr4_6_24_0 cr4_6_24_1 cr4_6_24_2 cr4_6_24_3
  go_wp2
  go_ret
  exact ⟨rfl, B_r4_6_22.out⟩

set_option maxHeartbeats 4000000 in
theorem walk_1114 (x0 x1 y0 y1 z0 z1 t0 t1 : Int) (w : World) (hm : meetB x0 x1 y0 y1 x0 x1 y0 y1 = true) (hc : coverB z0 z1 t0 t1 x0 x1 y0 y1 = true) (hp : coverB x0 x1 y0 y1 x0 x1 y0 y1 = true)  :
    Calls Try.prog 6 #[KV x0 x1 y0 y1, KV x0 x1 y0 y1, KV z0 z1 t0 t1] w fun e w' => e = .returned (.bool true) ∧ Below w.heap.size w w' := by
  have HW := Lib.hid wakes_any
  have HM := Lib.hid (Meets_any x0 x1 y0 y1 x0 x1 y0 y1)
  have HM2 := Lib.hid (Meets_any x0 x1 y0 y1 x0 x1 y0 y1)
  have HCC := Lib.hid (Covers_any z0 z1 t0 t1 x0 x1 y0 y1)
  have HP := Lib.hid (Covers_any x0 x1 y0 y1 x0 x1 y0 y1)
  rw [meet_sym, hm] at HM2
  have HMC := Lib.hid (Meets_any z0 z1 t0 t1 x0 x1 y0 y1)
  rw [meet_cover hm hc] at HMC
  rw [hm] at HM
  rw [hc] at HCC
  rw [hp] at HP
  clear hm hc hp
  go_enter Try.func6, Try.ntmps6
  go_upto_region 1 with fail
  have RA_1 := Lib.hid (((row_last w (w.heap.size) 23 [.int .i64 x0, .int .i64 x1, .int .i64 y0, .int .i64 y1] (by simp)).alloc (.cells #[.int .i64 x0, .int .i64 x1, .int .i64 y0, .int .i64 y1] 23)).alloc (.cells #[.int .i64 z0, .int .i64 z1, .int .i64 t0, .int .i64 t1] 23))
  have RB_1 := Lib.hid ((row_last (w.alloc (.cells #[.int .i64 x0, .int .i64 x1, .int .i64 y0, .int .i64 y1] 23)) (w.heap.size + 1) 23 [.int .i64 x0, .int .i64 x1, .int .i64 y0, .int .i64 y1] (by simp)).alloc (.cells #[.int .i64 z0, .int .i64 z1, .int .i64 t0, .int .i64 t1] 23))
  have RC_1 := Lib.hid (row_last ((w.alloc (.cells #[.int .i64 x0, .int .i64 x1, .int .i64 y0, .int .i64 y1] 23)).alloc (.cells #[.int .i64 x0, .int .i64 x1, .int .i64 y0, .int .i64 y1] 23)) (w.heap.size + 1 + 1) 23 [.int .i64 z0, .int .i64 z1, .int .i64 t0, .int .i64 t1] (by simp))
  have B_1 := Lib.hid ((((Below.refl w.heap.size w).alloc (Nat.le_refl _) (.cells #[.int .i64 x0, .int .i64 x1, .int .i64 y0, .int .i64 y1] 23)).alloc (by have := Nat.le_refl w.heap.size; simp <;> omega) (.cells #[.int .i64 x0, .int .i64 x1, .int .i64 y0, .int .i64 y1] 23)).alloc (by have := Nat.le_refl w.heap.size; simp <;> omega) (.cells #[.int .i64 z0, .int .i64 z1, .int .i64 t0, .int .i64 t1] 23))
  generalize (((w.alloc (.cells #[.int .i64 x0, .int .i64 x1, .int .i64 y0, .int .i64 y1] 23)).alloc (.cells #[.int .i64 x0, .int .i64 x1, .int .i64 y0, .int .i64 y1] 23)).alloc (.cells #[.int .i64 z0, .int .i64 z1, .int .i64 t0, .int .i64 t1] 23)) = V1 at RA_1 RB_1 RC_1 B_1 ⊢
  go_wp2_with fail
  refine (HW.out _).mono ?_
  rintro e W2 ⟨rfl, hb⟩
  have RA_3 := Lib.hid (RA_1.out.below hb RA_1.out.lt)
  have RB_3 := Lib.hid (RB_1.out.below hb RB_1.out.lt)
  have RC_3 := Lib.hid (RC_1.out.below hb RC_1.out.lt)
  have B_3 := Lib.hid (B_1.out.trans (hb.mono B_1.out.size))
  clear hb RA_1 RB_1 RC_1 B_1
  go_wp2_with fail
  refine wp_region_held_drew (S := fun w' => Row w' (w.heap.size) 23 [.int .i64 x0, .int .i64 x1, .int .i64 y0, .int .i64 y1] ∧ Row w' (w.heap.size + 1) 23 [.int .i64 x0, .int .i64 x1, .int .i64 y0, .int .i64 y1]) (by kernel_rfl) ⟨RA_3.out.drew, RB_3.out.drew⟩ (fun hHeld => ?_)
  clear hHeld
  have RA_4 := Lib.hid RA_3.out.drew
  have RB_4 := Lib.hid RB_3.out.drew
  have RC_4 := Lib.hid RC_3.out.drew
  have B_4 := Lib.hid B_3.out.drew
  clear RA_3 RB_3 RC_3 B_3
  generalize W2.drew = D4 at RA_4 RB_4 RC_4 B_4 ⊢
  refine wpAnyH_take (i := 0) (oi := ⟨some 9, _, _, _, _, _⟩) (v := ?vr4_1) rfl (by kernel_rfl) (by kernel_rfl) (by kernel_rfl) (fun _ _ _ h => h) (Or.inl ⟨by rfl, ?yr4_1⟩) ⟨RA_4.out, RB_4.out⟩ ?rr4_1
  case yr4_1 =>
    rintro w' hSw
    have k0 := (show Row w' _ _ _ from hSw.1).cell 0
    have k1 := (show Row w' _ _ _ from hSw.1).cell 1
    have k2 := (show Row w' _ _ _ from hSw.1).cell 2
    have k3 := (show Row w' _ _ _ from hSw.1).cell 3
    simp only [List.getElem?_cons_zero, List.getElem?_cons_succ] at k0 k1 k2 k3
    go_simp
    try with_reducible rfl
  try simp only [Act.put, List.setIfInBounds_toArray, List.set_cons_zero, List.set_cons_succ]
  refine wpAnyH_take (i := 1) (oi := ⟨some 10, _, _, _, _, _⟩) (v := ?vr4_2) rfl (by kernel_rfl) (by kernel_rfl) (by kernel_rfl) (fun _ _ _ h => h) (Or.inl ⟨by rfl, ?yr4_2⟩) ⟨RA_4.out, RB_4.out⟩ ?rr4_2
  case yr4_2 =>
    rintro w' hSw
    have k0 := (show Row w' _ _ _ from hSw.2).cell 0
    have k1 := (show Row w' _ _ _ from hSw.2).cell 1
    have k2 := (show Row w' _ _ _ from hSw.2).cell 2
    have k3 := (show Row w' _ _ _ from hSw.2).cell 3
    simp only [List.getElem?_cons_zero, List.getElem?_cons_succ] at k0 k1 k2 k3
    go_simp
    try with_reducible rfl
  try simp only [Act.put, List.setIfInBounds_toArray, List.set_cons_zero, List.set_cons_succ]
  refine wpAnyH_take (i := 3) (oi := ⟨some 12, _, _, _, _, _⟩) (v := ?vr4_3) rfl (by kernel_rfl) (by kernel_rfl) (by kernel_rfl) (fun _ _ _ h => h) (Or.inl ⟨by rfl, ?yr4_3⟩) ⟨RA_4.out, RB_4.out⟩ ?rr4_3
  case yr4_3 =>
    rintro w' hSw
    have k0 := (show Row w' _ _ _ from hSw.2).cell 0
    have k1 := (show Row w' _ _ _ from hSw.2).cell 1
    have k2 := (show Row w' _ _ _ from hSw.2).cell 2
    have k3 := (show Row w' _ _ _ from hSw.2).cell 3
    simp only [List.getElem?_cons_zero, List.getElem?_cons_succ] at k0 k1 k2 k3
    go_simp
    try with_reducible rfl
  try simp only [Act.put, List.setIfInBounds_toArray, List.set_cons_zero, List.set_cons_succ]
  refine wpAnyH_take (i := 4) (oi := ⟨some 13, _, _, _, _, _⟩) (v := ?vr4_4) rfl (by kernel_rfl) (by kernel_rfl) (by kernel_rfl) (fun _ _ _ h => h) (Or.inl ⟨by rfl, ?yr4_4⟩) ⟨RA_4.out, RB_4.out⟩ ?rr4_4
  case yr4_4 =>
    rintro w' hSw
    have k0 := (show Row w' _ _ _ from hSw.1).cell 0
    have k1 := (show Row w' _ _ _ from hSw.1).cell 1
    have k2 := (show Row w' _ _ _ from hSw.1).cell 2
    have k3 := (show Row w' _ _ _ from hSw.1).cell 3
    simp only [List.getElem?_cons_zero, List.getElem?_cons_succ] at k0 k1 k2 k3
    go_simp
    try with_reducible rfl
  try simp only [Act.put, List.setIfInBounds_toArray, List.set_cons_zero, List.set_cons_succ]
  refine wpAnyH_ready (rs := [2]) (by kernel_rfl) (by simp) ?_
  refine (AllReadyH.cons rfl (fun K hK => ?_) AllReadyH.nil)
  go_simp
  refine (HM.out _).mono ?_
  rintro e Xr4_5 ⟨rfl, hb⟩
  have RA_r4_5_5 := Lib.hid (RA_4.out.below hb RA_4.out.lt)
  have RB_r4_5_5 := Lib.hid (RB_4.out.below hb RB_4.out.lt)
  have RC_r4_5_5 := Lib.hid (RC_4.out.below hb RC_4.out.lt)
  have B_r4_5_5 := Lib.hid (B_4.out.trans (hb.mono B_4.out.size))
  clear hb RA_4 RB_4 RC_4 B_4
  refine hK _ _ ⟨RA_r4_5_5.out, RB_r4_5_5.out⟩ (fun _ => ?_)
  clear hK K
  try simp only [Act.put, List.setIfInBounds_toArray, List.set_cons_zero, List.set_cons_succ]
  refine wpAnyH_ready (rs := [5]) (by kernel_rfl) (by simp) ?_
  refine (AllReadyH.cons rfl (fun K hK => ?_) AllReadyH.nil)
  go_simp
  refine (HM2.out _).mono ?_
  rintro e Xr4_6 ⟨rfl, hb⟩
  have RA_r4_6_6 := Lib.hid (RA_r4_5_5.out.below hb RA_r4_5_5.out.lt)
  have RB_r4_6_6 := Lib.hid (RB_r4_5_5.out.below hb RB_r4_5_5.out.lt)
  have RC_r4_6_6 := Lib.hid (RC_r4_5_5.out.below hb RC_r4_5_5.out.lt)
  have B_r4_6_6 := Lib.hid (B_r4_5_5.out.trans (hb.mono B_r4_5_5.out.size))
  clear hb RA_r4_5_5 RB_r4_5_5 RC_r4_5_5 B_r4_5_5
  refine hK _ _ ⟨RA_r4_6_6.out, RB_r4_6_6.out⟩ (fun _ => ?_)
  clear hK K
  try simp only [Act.put, List.setIfInBounds_toArray, List.set_cons_zero, List.set_cons_succ]
  refine wpAnyH_take (i := 6) (oi := ⟨some 15, _, _, _, _, _⟩) (v := ?vr4_7) rfl (by kernel_rfl) (by kernel_rfl) (by kernel_rfl) (fun _ _ _ h => h) (Or.inl ⟨by rfl, ?yr4_7⟩) ⟨RA_r4_6_6.out, RB_r4_6_6.out⟩ ?rr4_7
  case yr4_7 =>
    rintro w' hSw
    go_simp
    try with_reducible rfl
  try simp only [Act.put, List.setIfInBounds_toArray, List.set_cons_zero, List.set_cons_succ]
  refine wpAnyH_done (by kernel_rfl) ?_ _
  have cr4_6_8_0 := RA_r4_6_6.out.cell 0
  have cr4_6_8_1 := RA_r4_6_6.out.cell 1
  have cr4_6_8_2 := RA_r4_6_6.out.cell 2
  have cr4_6_8_3 := RA_r4_6_6.out.cell 3
  simp only [List.getElem?_cons_zero, List.getElem?_cons_succ] at cr4_6_8_0 cr4_6_8_1 cr4_6_8_2 cr4_6_8_3
  have cr4_6_9_0 := RB_r4_6_6.out.cell 0
  have cr4_6_9_1 := RB_r4_6_6.out.cell 1
  have cr4_6_9_2 := RB_r4_6_6.out.cell 2
  have cr4_6_9_3 := RB_r4_6_6.out.cell 3
  simp only [List.getElem?_cons_zero, List.getElem?_cons_succ] at cr4_6_9_0 cr4_6_9_1 cr4_6_9_2 cr4_6_9_3
  go_wp2_with fail
  refine (HM.out _).mono ?_
  rintro e Wr4_6_7 ⟨rfl, hb⟩
  clear cr4_6_8_0 cr4_6_8_1 cr4_6_8_2 cr4_6_8_3 cr4_6_9_0 cr4_6_9_1 cr4_6_9_2 cr4_6_9_3
  have RA_r4_6_10 := Lib.hid (RA_r4_6_6.out.below hb RA_r4_6_6.out.lt)
  have RB_r4_6_10 := Lib.hid (RB_r4_6_6.out.below hb RB_r4_6_6.out.lt)
  have RC_r4_6_10 := Lib.hid (RC_r4_6_6.out.below hb RC_r4_6_6.out.lt)
  have B_r4_6_10 := Lib.hid (B_r4_6_6.out.trans (hb.mono B_r4_6_6.out.size))
  clear hb RA_r4_6_6 RB_r4_6_6 RC_r4_6_6 B_r4_6_6
  have cr4_6_12_0 := RA_r4_6_10.out.cell 0
  have cr4_6_12_1 := RA_r4_6_10.out.cell 1
  have cr4_6_12_2 := RA_r4_6_10.out.cell 2
  have cr4_6_12_3 := RA_r4_6_10.out.cell 3
  simp only [List.getElem?_cons_zero, List.getElem?_cons_succ] at cr4_6_12_0 cr4_6_12_1 cr4_6_12_2 cr4_6_12_3
  have cr4_6_13_0 := RC_r4_6_10.out.cell 0
  have cr4_6_13_1 := RC_r4_6_10.out.cell 1
  have cr4_6_13_2 := RC_r4_6_10.out.cell 2
  have cr4_6_13_3 := RC_r4_6_10.out.cell 3
  simp only [List.getElem?_cons_zero, List.getElem?_cons_succ] at cr4_6_13_0 cr4_6_13_1 cr4_6_13_2 cr4_6_13_3
  go_wp2_with fail
  refine (HCC.out _).mono ?_
  rintro e Wr4_6_11 ⟨rfl, hb⟩
  clear cr4_6_12_0 cr4_6_12_1 cr4_6_12_2 cr4_6_12_3 cr4_6_13_0 cr4_6_13_1 cr4_6_13_2 cr4_6_13_3
  have RA_r4_6_14 := Lib.hid (RA_r4_6_10.out.below hb RA_r4_6_10.out.lt)
  have RB_r4_6_14 := Lib.hid (RB_r4_6_10.out.below hb RB_r4_6_10.out.lt)
  have RC_r4_6_14 := Lib.hid (RC_r4_6_10.out.below hb RC_r4_6_10.out.lt)
  have B_r4_6_14 := Lib.hid (B_r4_6_10.out.trans (hb.mono B_r4_6_10.out.size))
  clear hb RA_r4_6_10 RB_r4_6_10 RC_r4_6_10 B_r4_6_10
  have cr4_6_16_0 := RB_r4_6_14.out.cell 0
  have cr4_6_16_1 := RB_r4_6_14.out.cell 1
  have cr4_6_16_2 := RB_r4_6_14.out.cell 2
  have cr4_6_16_3 := RB_r4_6_14.out.cell 3
  simp only [List.getElem?_cons_zero, List.getElem?_cons_succ] at cr4_6_16_0 cr4_6_16_1 cr4_6_16_2 cr4_6_16_3
  have cr4_6_17_0 := RC_r4_6_14.out.cell 0
  have cr4_6_17_1 := RC_r4_6_14.out.cell 1
  have cr4_6_17_2 := RC_r4_6_14.out.cell 2
  have cr4_6_17_3 := RC_r4_6_14.out.cell 3
  simp only [List.getElem?_cons_zero, List.getElem?_cons_succ] at cr4_6_17_0 cr4_6_17_1 cr4_6_17_2 cr4_6_17_3
  go_wp2_with fail
  refine (HMC.out _).mono ?_
  rintro e Wr4_6_15 ⟨rfl, hb⟩
  clear cr4_6_16_0 cr4_6_16_1 cr4_6_16_2 cr4_6_16_3 cr4_6_17_0 cr4_6_17_1 cr4_6_17_2 cr4_6_17_3
  have RA_r4_6_18 := Lib.hid (RA_r4_6_14.out.below hb RA_r4_6_14.out.lt)
  have RB_r4_6_18 := Lib.hid (RB_r4_6_14.out.below hb RB_r4_6_14.out.lt)
  have RC_r4_6_18 := Lib.hid (RC_r4_6_14.out.below hb RC_r4_6_14.out.lt)
  have B_r4_6_18 := Lib.hid (B_r4_6_14.out.trans (hb.mono B_r4_6_14.out.size))
  clear hb RA_r4_6_14 RB_r4_6_14 RC_r4_6_14 B_r4_6_14
  have cr4_6_20_0 := RA_r4_6_18.out.cell 0
  have cr4_6_20_1 := RA_r4_6_18.out.cell 1
  have cr4_6_20_2 := RA_r4_6_18.out.cell 2
  have cr4_6_20_3 := RA_r4_6_18.out.cell 3
  simp only [List.getElem?_cons_zero, List.getElem?_cons_succ] at cr4_6_20_0 cr4_6_20_1 cr4_6_20_2 cr4_6_20_3
  have cr4_6_21_0 := RB_r4_6_18.out.cell 0
  have cr4_6_21_1 := RB_r4_6_18.out.cell 1
  have cr4_6_21_2 := RB_r4_6_18.out.cell 2
  have cr4_6_21_3 := RB_r4_6_18.out.cell 3
  simp only [List.getElem?_cons_zero, List.getElem?_cons_succ] at cr4_6_21_0 cr4_6_21_1 cr4_6_21_2 cr4_6_21_3
  go_wp2_with fail
  refine (HP.out _).mono ?_
  rintro e Wr4_6_19 ⟨rfl, hb⟩
  clear cr4_6_20_0 cr4_6_20_1 cr4_6_20_2 cr4_6_20_3 cr4_6_21_0 cr4_6_21_1 cr4_6_21_2 cr4_6_21_3
  have RA_r4_6_22 := Lib.hid (RA_r4_6_18.out.below hb RA_r4_6_18.out.lt)
  have RB_r4_6_22 := Lib.hid (RB_r4_6_18.out.below hb RB_r4_6_18.out.lt)
  have RC_r4_6_22 := Lib.hid (RC_r4_6_18.out.below hb RC_r4_6_18.out.lt)
  have B_r4_6_22 := Lib.hid (B_r4_6_18.out.trans (hb.mono B_r4_6_18.out.size))
  clear hb RA_r4_6_18 RB_r4_6_18 RC_r4_6_18 B_r4_6_18
  have cr4_6_24_0 := RA_r4_6_22.out.cell 0
  have cr4_6_24_1 := RA_r4_6_22.out.cell 1
  have cr4_6_24_2 := RA_r4_6_22.out.cell 2
  have cr4_6_24_3 := RA_r4_6_22.out.cell 3
  simp only [List.getElem?_cons_zero, List.getElem?_cons_succ] at cr4_6_24_0 cr4_6_24_1 cr4_6_24_2 cr4_6_24_3
  have cr4_6_25_0 := RB_r4_6_22.out.cell 0
  have cr4_6_25_1 := RB_r4_6_22.out.cell 1
  have cr4_6_25_2 := RB_r4_6_22.out.cell 2
  have cr4_6_25_3 := RB_r4_6_22.out.cell 3
  simp only [List.getElem?_cons_zero, List.getElem?_cons_succ] at cr4_6_25_0 cr4_6_25_1 cr4_6_25_2 cr4_6_25_3
  go_wp2_with fail
  refine (HM.out _).mono ?_
  rintro e Wr4_6_23 ⟨rfl, hb⟩
  clear cr4_6_24_0 cr4_6_24_1 cr4_6_24_2 cr4_6_24_3 cr4_6_25_0 cr4_6_25_1 cr4_6_25_2 cr4_6_25_3
  have RA_r4_6_26 := Lib.hid (RA_r4_6_22.out.below hb RA_r4_6_22.out.lt)
  have RB_r4_6_26 := Lib.hid (RB_r4_6_22.out.below hb RB_r4_6_22.out.lt)
  have RC_r4_6_26 := Lib.hid (RC_r4_6_22.out.below hb RC_r4_6_22.out.lt)
  have B_r4_6_26 := Lib.hid (B_r4_6_22.out.trans (hb.mono B_r4_6_22.out.size))
  clear hb RA_r4_6_22 RB_r4_6_22 RC_r4_6_22 B_r4_6_22
  have cr4_6_27_0 := RA_r4_6_26.out.cell 0
  have cr4_6_27_1 := RA_r4_6_26.out.cell 1
  have cr4_6_27_2 := RA_r4_6_26.out.cell 2
  have cr4_6_27_3 := RA_r4_6_26.out.cell 3
  simp only [List.getElem?_cons_zero, List.getElem?_cons_succ] at cr4_6_27_0 cr4_6_27_1 cr4_6_27_2 cr4_6_27_3
  have cr4_6_28_0 := RB_r4_6_26.out.cell 0
  have cr4_6_28_1 := RB_r4_6_26.out.cell 1
  have cr4_6_28_2 := RB_r4_6_26.out.cell 2
  have cr4_6_28_3 := RB_r4_6_26.out.cell 3
  simp only [List.getElem?_cons_zero, List.getElem?_cons_succ] at cr4_6_28_0 cr4_6_28_1 cr4_6_28_2 cr4_6_28_3
  go_wp2
  go_ret
  exact ⟨rfl, B_r4_6_26.out⟩

theorem walk (x0 x1 y0 y1 u0 u1 v0 v1 z0 z1 t0 t1 : Int) (w : World) : Calls Try.prog 6 #[KV x0 x1 y0 y1, KV u0 u1 v0 v1, KV z0 z1 t0 t1] w fun e w' => e = .returned (.bool true) ∧ Below w.heap.size w w' := by
  cases hm : meetB x0 x1 y0 y1 u0 u1 v0 v1 <;> cases hc : coverB z0 z1 t0 t1 x0 x1 y0 y1 <;> cases hp : coverB x0 x1 y0 y1 u0 u1 v0 v1
  case false.false.true => exact absurd (cover_meet hp) (by rw [hm]; decide)
  case false.true.true => exact absurd (cover_meet hp) (by rw [hm]; decide)
  case false.false.false => exact walk_0000 x0 x1 y0 y1 u0 u1 v0 v1 z0 z1 t0 t1 w hm hc hp
  case false.true.false => exact walk_0100 x0 x1 y0 y1 u0 u1 v0 v1 z0 z1 t0 t1 w hm hc hp
  case true.false.false => exact walk_1000 x0 x1 y0 y1 u0 u1 v0 v1 z0 z1 t0 t1 w hm hc hp
  case true.true.false => exact walk_1100 x0 x1 y0 y1 u0 u1 v0 v1 z0 z1 t0 t1 w hm hc hp
  case true.false.true =>
    by_cases h1 : x0 = u0
    · by_cases h2 : x1 = u1
      · by_cases h3 : y0 = v0
        · by_cases h4 : y1 = v1
          · subst h1 h2 h3 h4
            exact walk_1014 x0 x1 y0 y1 z0 z1 t0 t1 w hm hc hp
          · exact walk_1015 x0 x1 y0 y1 u0 u1 v0 v1 z0 z1 t0 t1 w hm hc hp h4
        · exact walk_1013 x0 x1 y0 y1 u0 u1 v0 v1 z0 z1 t0 t1 w hm hc hp h3
      · exact walk_1012 x0 x1 y0 y1 u0 u1 v0 v1 z0 z1 t0 t1 w hm hc hp h2
    · exact walk_1011 x0 x1 y0 y1 u0 u1 v0 v1 z0 z1 t0 t1 w hm hc hp h1
  case true.true.true =>
    by_cases h1 : x0 = u0
    · by_cases h2 : x1 = u1
      · by_cases h3 : y0 = v0
        · by_cases h4 : y1 = v1
          · subst h1 h2 h3 h4
            exact walk_1114 x0 x1 y0 y1 z0 z1 t0 t1 w hm hc hp
          · exact walk_1115 x0 x1 y0 y1 u0 u1 v0 v1 z0 z1 t0 t1 w hm hc hp h4
        · exact walk_1113 x0 x1 y0 y1 u0 u1 v0 v1 z0 z1 t0 t1 w hm hc hp h3
      · exact walk_1112 x0 x1 y0 y1 u0 u1 v0 v1 z0 z1 t0 t1 w hm hc hp h2
    · exact walk_1111 x0 x1 y0 y1 u0 u1 v0 v1 z0 z1 t0 t1 w hm hc hp h1

theorem resT_KeyMeets : Try.f6.resultTypes = #[4] := by kernel_rfl
set_option maxRecDepth 100000 in
theorem lifted_KeyMeets (os : Os) (started : os.Started) (H : Type) (enc : TypeId × Value → H) :
    ReturnsInHanded {} Try.checked os 6 .any (Rows.keyMeetsSpec.pre6 enc Try.prog Try.f6 Rows.keyMeetsRow.domain false) (Rows.keyMeetsSpec.post enc Try.prog Try.f6 false true false false) := by
  refine Lift.law_lift (C := Try.checked) (s := Rows.keyMeetsSpec) (tb := 4) own laidOut started (by kernel_rfl) Try.func6
    (ChangeSpec.witness6 (enc := enc) (C := Try.checked) false ⟨#[], #[.agg #[.int .i64 0, .int .i64 0, .int .i64 0, .int .i64 0], .agg #[.int .i64 0, .int .i64 0, .int .i64 0, .int .i64 0], .agg #[.int .i64 0, .int .i64 0, .int .i64 0, .int .i64 0]], []⟩ 8 (by kernel_rfl) (by kernel_rfl) (by kernel_rfl) (by kernel_rfl))
    rfl resT_KeyMeets Try.underlying4 (by
      have hr : ∀ t ∈ ([23, 23, 23] : List TypeId), Try.prog.readableRec t = true ∧ t < Try.prog.types.size := by
        intro t ht
        simp only [List.mem_cons, List.not_mem_nil, or_false] at ht
        rcases ht with rfl | rfl | rfl <;> exact ⟨by kernel_rfl, of_decide_eq_true (by kernel_rfl)⟩
      intro t ht
      exact hr t (by
        have ht' : t ∈ Try.f6.params.toList := ht
        rw [Try.params6] at ht'
        exact ht')) ?_
  intro W base args ds p hval0 hA0 hsz0
  have hval : ∀ (j : Nat) t v, Try.f6.params[j]? = some t → args[j]? = some v → Value.okWide Try.prog W .any base t v := hval0
  have hA : DataW.TrodAll enc Try.prog W 0 (fun _ => true) true Try.f6.params.toList args.toList ds p := hA0
  have hsz : (DataW.weightsEach Try.prog Try.f6.params.toList ds).all (· ≤ reachBytes) = true := hsz0
  clear hval0 hA0 hsz0
  rw [Try.params6] at hA hval hsz
  obtain ⟨v0, vs0, d0, ds0, p0, q0, hargs, rfl, rfl, h0, r0⟩ := trodAll_cons hA
  obtain ⟨v1, vs1, d1, ds1, p1, q1, rfl, rfl, rfl, h1, r1⟩ := trodAll_cons r0
  obtain ⟨v2, vs2, d2, ds2, p2, q2, rfl, rfl, rfl, h2, r2⟩ := trodAll_cons r1
  obtain ⟨rfl, rfl, rfl⟩ := trodAll_nil r2
  obtain rfl : args = #[v0, v1, v2] := by cases args; simp_all
  obtain ⟨k0a, k0b, k0c, k0d, ⟨m0a, n0a⟩, ⟨m0b, n0b⟩, ⟨m0c, n0c⟩, ⟨m0d, n0d⟩, rfl⟩ := open_key (hval 0 23 v0 rfl rfl) h0
  obtain ⟨k1a, k1b, k1c, k1d, ⟨m1a, n1a⟩, ⟨m1b, n1b⟩, ⟨m1c, n1c⟩, ⟨m1d, n1d⟩, rfl⟩ := open_key (hval 1 23 v1 rfl rfl) h1
  obtain ⟨k2a, k2b, k2c, k2d, ⟨m2a, n2a⟩, ⟨m2b, n2b⟩, ⟨m2c, n2c⟩, ⟨m2d, n2d⟩, rfl⟩ := open_key (hval 2 23 v2 rfl rfl) h2
  exact ⟨rfl, walk k0a k0b k0c k0d k1a k1b k1c k1d k2a k2b k2c k2d W⟩

theorem proved_KeyMeets : Rows.KeyMeetsSaid :=
  OpenClaim.holds_of_wide 6 Try.f6 rfl rfl rfl rfl rfl rfl rfl ⟨rfl, rfl, rfl, rfl, rfl⟩ rfl rfl rfl rfl rfl (by kernel_rfl) Try.func6 (by kernel_rfl)
    (of_decide_eq_true (by kernel_rfl)) (by unfold Func.isWrapper; first | (rw [if_pos (by decide +kernel)]; kernel_rfl) | (rw [if_neg (by decide +kernel)]; exact ⟨rfl, rfl⟩))
    (fun os started H enc _ => lifted_KeyMeets os started H enc)
end Go.Proofs.Ytbmfijcckdkmdaa.KeyMeets
