/-
  KeyUnion: the union covers both, whatever covers both covers it, it does not hang on the order; growing by what is covered is nothing. No condition.
-/
import Derived.Test.YtbmfijcckdkmdaaKy13
import Derived.Test.YtbmfijcckdkmdaaWiO
import Derived.Deep.RegionHeld
import Derived.Deep.Cut
import Derived.WalkLawsBesides
namespace Go.Proofs.Ytbmfijcckdkmdaa.KeyUnion
set_option maxRecDepth 100000
open Go.ChangeShapes Go.WideShapes Go.ChangeAt Go.RowKit Go.Proofs.Ytbmfijcckdkmdaa.Wd Go.Proofs.Ytbmfijcckdkmdaa.Wi Go.Proofs.Ytbmfijcckdkmdaa.Ky

theorem own : ownKnob Try.prog.godebug = none := by kernel_rfl
theorem laidOut : laidOutB Try.prog = true := by kernel_rfl

theorem box_any (x0 x1 y0 y1 : Int) (w : World) : Calls Try.prog 21 #[KV x0 x1 y0 y1] w fun e w' => e = .returned (.bool (boxB x0 x1 y0 y1)) ∧ Below w.heap.size w w' := by
  have c0 := (row_last w w.heap.size 23 [.int .i64 x0, .int .i64 x1, .int .i64 y0, .int .i64 y1] rfl).cell 0
  by_cases h1 : x0 ≤ x1
  · by_cases h2 : y0 ≤ y1
    · rw [show boxB x0 x1 y0 y1 = true from by simp [boxB]; omega]
      go_enter Try.func21, Try.ntmps21
      go_wp2
      go_ret
      exact ⟨rfl, (Below.refl _ _).alloc (Nat.le_refl _) _⟩
    · rw [show boxB x0 x1 y0 y1 = false from by simp [boxB]; omega]
      go_enter Try.func21, Try.ntmps21
      go_wp2
      go_ret
      exact ⟨rfl, (Below.refl _ _).alloc (Nat.le_refl _) _⟩
  · rw [show boxB x0 x1 y0 y1 = false from by simp [boxB]; omega]
    go_enter Try.func21, Try.ntmps21
    go_wp2
    go_ret
    exact ⟨rfl, (Below.refl _ _).alloc (Nat.le_refl _) _⟩

theorem cover_iff (x0 x1 y0 y1 u0 u1 v0 v1 : Int) : coverB x0 x1 y0 y1 u0 u1 v0 v1 = true ↔ ((x0 ≤ x1 ∧ y0 ≤ y1) ∧ (u0 ≤ u1 ∧ v0 ≤ v1)) ∧ (x0 ≤ u0 ∧ u1 ≤ x1 ∧ y0 ≤ v0 ∧ v1 ≤ y1) := by
  unfold coverB boxB
  simp only [Bool.and_eq_true, decide_eq_true_eq]
theorem box_iff (x0 x1 y0 y1 : Int) : boxB x0 x1 y0 y1 = true ↔ x0 ≤ x1 ∧ y0 ≤ y1 := by
  unfold boxB
  simp only [Bool.and_eq_true, decide_eq_true_eq]
theorem min_le (a b : Int) : minI a b ≤ a ∧ minI a b ≤ b ∧ (minI a b = a ∨ minI a b = b) := by unfold minI; split <;> omega
theorem max_le (a b : Int) : a ≤ maxI a b ∧ b ≤ maxI a b ∧ (maxI a b = a ∨ maxI a b = b) := by unfold maxI; split <;> omega
theorem min_comm (a b : Int) : minI a b = minI b a := by unfold minI; split <;> split <;> omega
theorem max_comm (a b : Int) : maxI a b = maxI b a := by unfold maxI; split <;> split <;> omega
theorem min_self (a : Int) : minI a a = a := by unfold minI; split <;> omega
theorem max_self (a : Int) : maxI a a = a := by unfold maxI; split <;> omega
theorem min_of (a b : Int) (h : a ≤ b) : minI a b = a := by unfold minI; rw [if_neg (by omega)]
theorem max_of (a b : Int) (h : b ≤ a) : maxI a b = a := by unfold maxI; rw [if_neg (by omega)]

set_option maxHeartbeats 4000000 in
theorem walk_na (x0 x1 y0 y1 u0 u1 v0 v1 z0 z1 t0 t1 : Int) (w : World) (ha : boxB x0 x1 y0 y1 = false) : Calls Try.prog 5 #[KV x0 x1 y0 y1, KV u0 u1 v0 v1, KV z0 z1 t0 t1] w fun e w' => e = .returned (.bool true) ∧ Below w.heap.size w w' := by
  have HW := Lib.hid wakes_any
  have HU := Lib.hid (Union_any x0 x1 y0 y1 u0 u1 v0 v1)
  unfold unionV at HU
  rw [ha, Bool.false_and, if_neg (by decide)] at HU
  have HA := Lib.hid (box_any x0 x1 y0 y1)
  have HB := Lib.hid (box_any u0 u1 v0 v1)
  rw [ha] at HA
  go_enter Try.func5, Try.ntmps5
  go_upto_region 1 with fail
  have RA_1 := Lib.hid (((row_last w (w.heap.size) 23 [.int .i64 x0, .int .i64 x1, .int .i64 y0, .int .i64 y1] (by simp)).alloc (.cells #[.int .i64 u0, .int .i64 u1, .int .i64 v0, .int .i64 v1] 23)).alloc (.cells #[.int .i64 z0, .int .i64 z1, .int .i64 t0, .int .i64 t1] 23))
  have RB_1 := Lib.hid ((row_last (w.alloc (.cells #[.int .i64 x0, .int .i64 x1, .int .i64 y0, .int .i64 y1] 23)) (w.heap.size + 1) 23 [.int .i64 u0, .int .i64 u1, .int .i64 v0, .int .i64 v1] (by simp)).alloc (.cells #[.int .i64 z0, .int .i64 z1, .int .i64 t0, .int .i64 t1] 23))
  have RC_1 := Lib.hid (row_last ((w.alloc (.cells #[.int .i64 x0, .int .i64 x1, .int .i64 y0, .int .i64 y1] 23)).alloc (.cells #[.int .i64 u0, .int .i64 u1, .int .i64 v0, .int .i64 v1] 23)) (w.heap.size + 1 + 1) 23 [.int .i64 z0, .int .i64 z1, .int .i64 t0, .int .i64 t1] (by simp))
  have B_1 := Lib.hid ((((Below.refl w.heap.size w).alloc (Nat.le_refl _) (.cells #[.int .i64 x0, .int .i64 x1, .int .i64 y0, .int .i64 y1] 23)).alloc (by have := Nat.le_refl w.heap.size; simp <;> omega) (.cells #[.int .i64 u0, .int .i64 u1, .int .i64 v0, .int .i64 v1] 23)).alloc (by have := Nat.le_refl w.heap.size; simp <;> omega) (.cells #[.int .i64 z0, .int .i64 z1, .int .i64 t0, .int .i64 t1] 23))
  generalize (((w.alloc (.cells #[.int .i64 x0, .int .i64 x1, .int .i64 y0, .int .i64 y1] 23)).alloc (.cells #[.int .i64 u0, .int .i64 u1, .int .i64 v0, .int .i64 v1] 23)).alloc (.cells #[.int .i64 z0, .int .i64 z1, .int .i64 t0, .int .i64 t1] 23)) = V1 at RA_1 RB_1 RC_1 B_1 ⊢
  go_wp2_with fail
  refine (HW.out _).mono ?_
  rintro e W2 ⟨rfl, hb⟩
  have RA_3 := Lib.hid (RA_1.out.below hb RA_1.out.lt)
  have RB_3 := Lib.hid (RB_1.out.below hb RB_1.out.lt)
  have RC_3 := Lib.hid (RC_1.out.below hb RC_1.out.lt)
  have B_3 := Lib.hid (B_1.out.trans (hb.mono B_1.out.size))
  clear hb RA_1 RB_1 RC_1 B_1
  have c5_0 := RA_3.out.cell 0
  have c5_1 := RA_3.out.cell 1
  have c5_2 := RA_3.out.cell 2
  have c5_3 := RA_3.out.cell 3
  simp only [List.getElem?_cons_zero, List.getElem?_cons_succ] at c5_0 c5_1 c5_2 c5_3
  have c6_0 := RB_3.out.cell 0
  have c6_1 := RB_3.out.cell 1
  have c6_2 := RB_3.out.cell 2
  have c6_3 := RB_3.out.cell 3
  simp only [List.getElem?_cons_zero, List.getElem?_cons_succ] at c6_0 c6_1 c6_2 c6_3
  go_wp2_with fail
  refine (HU.out _).mono ?_
  rintro e W4 ⟨rfl, hb⟩
  clear c5_0 c5_1 c5_2 c5_3 c6_0 c6_1 c6_2 c6_3
  have RA_7 := Lib.hid (RA_3.out.below hb RA_3.out.lt)
  have RB_7 := Lib.hid (RB_3.out.below hb RB_3.out.lt)
  have RC_7 := Lib.hid (RC_3.out.below hb RC_3.out.lt)
  have B_7 := Lib.hid (B_3.out.trans (hb.mono B_3.out.size))
  clear hb RA_3 RB_3 RC_3 B_3
  go_upto_region 4 with fail
  have hlt8_0 : w.heap.size < W4.heap.size := RA_7.out.lt
  have hlt8_1 : w.heap.size + 1 < W4.heap.size := RB_7.out.lt
  have hlt8_2 : w.heap.size + 1 + 1 < W4.heap.size := RC_7.out.lt
  have RA_8 := Lib.hid (RA_7.out.alloc (.cells #[.int .i64 0, .int .i64 0, .int .i64 0, .int .i64 0] 23))
  have RB_8 := Lib.hid (RB_7.out.alloc (.cells #[.int .i64 0, .int .i64 0, .int .i64 0, .int .i64 0] 23))
  have RC_8 := Lib.hid (RC_7.out.alloc (.cells #[.int .i64 0, .int .i64 0, .int .i64 0, .int .i64 0] 23))
  have RU_8 := Lib.hid (row_last W4 (W4.heap.size) 23 [.int .i64 0, .int .i64 0, .int .i64 0, .int .i64 0] (by simp))
  have B_8 := Lib.hid (B_7.out.alloc B_7.out.size (.cells #[.int .i64 0, .int .i64 0, .int .i64 0, .int .i64 0] 23))
  clear RA_7 RB_7 RC_7 B_7
  generalize (W4.alloc (.cells #[.int .i64 0, .int .i64 0, .int .i64 0, .int .i64 0] 23)) = V8 at RA_8 RB_8 RC_8 RU_8 B_8 ⊢
  have c10_0 := RA_8.out.cell 0
  have c10_1 := RA_8.out.cell 1
  have c10_2 := RA_8.out.cell 2
  have c10_3 := RA_8.out.cell 3
  simp only [List.getElem?_cons_zero, List.getElem?_cons_succ] at c10_0 c10_1 c10_2 c10_3
  go_wp2_with fail
  refine (HA.out _).mono ?_
  rintro e W9 ⟨rfl, hb⟩
  clear c10_0 c10_1 c10_2 c10_3
  have RA_11 := Lib.hid (RA_8.out.below hb RA_8.out.lt)
  have RB_11 := Lib.hid (RB_8.out.below hb RB_8.out.lt)
  have RC_11 := Lib.hid (RC_8.out.below hb RC_8.out.lt)
  have RU_11 := Lib.hid (RU_8.out.below hb RU_8.out.lt)
  have B_11 := Lib.hid (B_8.out.trans (hb.mono B_8.out.size))
  clear hb RA_8 RB_8 RC_8 RU_8 B_8
  have c12_0 := RU_11.out.cell 0
  have c12_1 := RU_11.out.cell 1
  have c12_2 := RU_11.out.cell 2
  have c12_3 := RU_11.out.cell 3
  simp only [List.getElem?_cons_zero, List.getElem?_cons_succ] at c12_0 c12_1 c12_2 c12_3
  go_wp2
  go_ret
  exact ⟨rfl, B_11.out⟩

set_option maxHeartbeats 4000000 in
theorem walk_nb (x0 x1 y0 y1 u0 u1 v0 v1 z0 z1 t0 t1 : Int) (w : World) (ha : boxB x0 x1 y0 y1 = true) (hb : boxB u0 u1 v0 v1 = false) : Calls Try.prog 5 #[KV x0 x1 y0 y1, KV u0 u1 v0 v1, KV z0 z1 t0 t1] w fun e w' => e = .returned (.bool true) ∧ Below w.heap.size w w' := by
  have HW := Lib.hid wakes_any
  have HU := Lib.hid (Union_any x0 x1 y0 y1 u0 u1 v0 v1)
  unfold unionV at HU
  rw [ha, hb, Bool.and_false, if_neg (by decide)] at HU
  have HA := Lib.hid (box_any x0 x1 y0 y1)
  have HB := Lib.hid (box_any u0 u1 v0 v1)
  rw [ha] at HA
  rw [hb] at HB
  go_enter Try.func5, Try.ntmps5
  go_upto_region 1 with fail
  have RA_1 := Lib.hid (((row_last w (w.heap.size) 23 [.int .i64 x0, .int .i64 x1, .int .i64 y0, .int .i64 y1] (by simp)).alloc (.cells #[.int .i64 u0, .int .i64 u1, .int .i64 v0, .int .i64 v1] 23)).alloc (.cells #[.int .i64 z0, .int .i64 z1, .int .i64 t0, .int .i64 t1] 23))
  have RB_1 := Lib.hid ((row_last (w.alloc (.cells #[.int .i64 x0, .int .i64 x1, .int .i64 y0, .int .i64 y1] 23)) (w.heap.size + 1) 23 [.int .i64 u0, .int .i64 u1, .int .i64 v0, .int .i64 v1] (by simp)).alloc (.cells #[.int .i64 z0, .int .i64 z1, .int .i64 t0, .int .i64 t1] 23))
  have RC_1 := Lib.hid (row_last ((w.alloc (.cells #[.int .i64 x0, .int .i64 x1, .int .i64 y0, .int .i64 y1] 23)).alloc (.cells #[.int .i64 u0, .int .i64 u1, .int .i64 v0, .int .i64 v1] 23)) (w.heap.size + 1 + 1) 23 [.int .i64 z0, .int .i64 z1, .int .i64 t0, .int .i64 t1] (by simp))
  have B_1 := Lib.hid ((((Below.refl w.heap.size w).alloc (Nat.le_refl _) (.cells #[.int .i64 x0, .int .i64 x1, .int .i64 y0, .int .i64 y1] 23)).alloc (by have := Nat.le_refl w.heap.size; simp <;> omega) (.cells #[.int .i64 u0, .int .i64 u1, .int .i64 v0, .int .i64 v1] 23)).alloc (by have := Nat.le_refl w.heap.size; simp <;> omega) (.cells #[.int .i64 z0, .int .i64 z1, .int .i64 t0, .int .i64 t1] 23))
  generalize (((w.alloc (.cells #[.int .i64 x0, .int .i64 x1, .int .i64 y0, .int .i64 y1] 23)).alloc (.cells #[.int .i64 u0, .int .i64 u1, .int .i64 v0, .int .i64 v1] 23)).alloc (.cells #[.int .i64 z0, .int .i64 z1, .int .i64 t0, .int .i64 t1] 23)) = V1 at RA_1 RB_1 RC_1 B_1 ⊢
  go_wp2_with fail
  refine (HW.out _).mono ?_
  rintro e W2 ⟨rfl, hb⟩
  have RA_3 := Lib.hid (RA_1.out.below hb RA_1.out.lt)
  have RB_3 := Lib.hid (RB_1.out.below hb RB_1.out.lt)
  have RC_3 := Lib.hid (RC_1.out.below hb RC_1.out.lt)
  have B_3 := Lib.hid (B_1.out.trans (hb.mono B_1.out.size))
  clear hb RA_1 RB_1 RC_1 B_1
  have c5_0 := RA_3.out.cell 0
  have c5_1 := RA_3.out.cell 1
  have c5_2 := RA_3.out.cell 2
  have c5_3 := RA_3.out.cell 3
  simp only [List.getElem?_cons_zero, List.getElem?_cons_succ] at c5_0 c5_1 c5_2 c5_3
  have c6_0 := RB_3.out.cell 0
  have c6_1 := RB_3.out.cell 1
  have c6_2 := RB_3.out.cell 2
  have c6_3 := RB_3.out.cell 3
  simp only [List.getElem?_cons_zero, List.getElem?_cons_succ] at c6_0 c6_1 c6_2 c6_3
  go_wp2_with fail
  refine (HU.out _).mono ?_
  rintro e W4 ⟨rfl, hb⟩
  clear c5_0 c5_1 c5_2 c5_3 c6_0 c6_1 c6_2 c6_3
  have RA_7 := Lib.hid (RA_3.out.below hb RA_3.out.lt)
  have RB_7 := Lib.hid (RB_3.out.below hb RB_3.out.lt)
  have RC_7 := Lib.hid (RC_3.out.below hb RC_3.out.lt)
  have B_7 := Lib.hid (B_3.out.trans (hb.mono B_3.out.size))
  clear hb RA_3 RB_3 RC_3 B_3
  go_upto_region 4 with fail
  have hlt8_0 : w.heap.size < W4.heap.size := RA_7.out.lt
  have hlt8_1 : w.heap.size + 1 < W4.heap.size := RB_7.out.lt
  have hlt8_2 : w.heap.size + 1 + 1 < W4.heap.size := RC_7.out.lt
  have RA_8 := Lib.hid (RA_7.out.alloc (.cells #[.int .i64 0, .int .i64 0, .int .i64 0, .int .i64 0] 23))
  have RB_8 := Lib.hid (RB_7.out.alloc (.cells #[.int .i64 0, .int .i64 0, .int .i64 0, .int .i64 0] 23))
  have RC_8 := Lib.hid (RC_7.out.alloc (.cells #[.int .i64 0, .int .i64 0, .int .i64 0, .int .i64 0] 23))
  have RU_8 := Lib.hid (row_last W4 (W4.heap.size) 23 [.int .i64 0, .int .i64 0, .int .i64 0, .int .i64 0] (by simp))
  have B_8 := Lib.hid (B_7.out.alloc B_7.out.size (.cells #[.int .i64 0, .int .i64 0, .int .i64 0, .int .i64 0] 23))
  clear RA_7 RB_7 RC_7 B_7
  generalize (W4.alloc (.cells #[.int .i64 0, .int .i64 0, .int .i64 0, .int .i64 0] 23)) = V8 at RA_8 RB_8 RC_8 RU_8 B_8 ⊢
  have c10_0 := RA_8.out.cell 0
  have c10_1 := RA_8.out.cell 1
  have c10_2 := RA_8.out.cell 2
  have c10_3 := RA_8.out.cell 3
  simp only [List.getElem?_cons_zero, List.getElem?_cons_succ] at c10_0 c10_1 c10_2 c10_3
  go_wp2_with fail
  refine (HA.out _).mono ?_
  rintro e W9 ⟨rfl, hb⟩
  clear c10_0 c10_1 c10_2 c10_3
  have RA_11 := Lib.hid (RA_8.out.below hb RA_8.out.lt)
  have RB_11 := Lib.hid (RB_8.out.below hb RB_8.out.lt)
  have RC_11 := Lib.hid (RC_8.out.below hb RC_8.out.lt)
  have RU_11 := Lib.hid (RU_8.out.below hb RU_8.out.lt)
  have B_11 := Lib.hid (B_8.out.trans (hb.mono B_8.out.size))
  clear hb RA_8 RB_8 RC_8 RU_8 B_8
  have c13_0 := RB_11.out.cell 0
  have c13_1 := RB_11.out.cell 1
  have c13_2 := RB_11.out.cell 2
  have c13_3 := RB_11.out.cell 3
  simp only [List.getElem?_cons_zero, List.getElem?_cons_succ] at c13_0 c13_1 c13_2 c13_3
  go_wp2_with fail
  refine (HB.out _).mono ?_
  rintro e W12 ⟨rfl, hb⟩
  clear c13_0 c13_1 c13_2 c13_3
  have RA_14 := Lib.hid (RA_11.out.below hb RA_11.out.lt)
  have RB_14 := Lib.hid (RB_11.out.below hb RB_11.out.lt)
  have RC_14 := Lib.hid (RC_11.out.below hb RC_11.out.lt)
  have RU_14 := Lib.hid (RU_11.out.below hb RU_11.out.lt)
  have B_14 := Lib.hid (B_11.out.trans (hb.mono B_11.out.size))
  clear hb RA_11 RB_11 RC_11 RU_11 B_11
  have c15_0 := RU_14.out.cell 0
  have c15_1 := RU_14.out.cell 1
  have c15_2 := RU_14.out.cell 2
  have c15_3 := RU_14.out.cell 3
  simp only [List.getElem?_cons_zero, List.getElem?_cons_succ] at c15_0 c15_1 c15_2 c15_3
  go_wp2
  go_ret
  exact ⟨rfl, B_14.out⟩

set_option maxHeartbeats 4000000 in
theorem walk_f (x0 x1 y0 y1 u0 u1 v0 v1 z0 z1 t0 t1 : Int) (w : World) (kx : KOk x0 x1 y0 y1) (ku : KOk u0 u1 v0 v1) (ha : boxB x0 x1 y0 y1 = true) (hb : boxB u0 u1 v0 v1 = true) (hc1 : coverB z0 z1 t0 t1 x0 x1 y0 y1 = false) (_hc2 : coverB z0 z1 t0 t1 u0 u1 v0 v1 = false) : Calls Try.prog 5 #[KV x0 x1 y0 y1, KV u0 u1 v0 v1, KV z0 z1 t0 t1] w fun e w' => e = .returned (.bool true) ∧ Below w.heap.size w w' := by
  have HW := Lib.hid wakes_any
  have HA := Lib.hid (box_any x0 x1 y0 y1)
  have HB := Lib.hid (box_any u0 u1 v0 v1)
  have HU := Lib.hid (Union_any x0 x1 y0 y1 u0 u1 v0 v1)
  have HU2 := Lib.hid (Union_any u0 u1 v0 v1 x0 x1 y0 y1)
  have HU3 := Lib.hid (Union_any x0 x1 y0 y1 x0 x1 y0 y1)
  unfold unionV at HU HU2 HU3
  rw [ha, hb, Bool.and_self, if_pos rfl] at HU HU2
  rw [ha, Bool.and_self, if_pos rfl, min_self, min_self, max_self, max_self] at HU3
  rw [min_comm u0, max_comm u1, min_comm v0, max_comm v1] at HU2
  rw [ha] at HA
  rw [hb] at HB
  have km := union_ok kx ku
  have m1 := min_le x0 u0
  have m2 := max_le x1 u1
  have m3 := min_le y0 v0
  have m4 := max_le y1 v1
  obtain ⟨q0, hq0⟩ : ∃ q, minI x0 u0 = q := ⟨_, rfl⟩
  obtain ⟨q1, hq1⟩ : ∃ q, maxI x1 u1 = q := ⟨_, rfl⟩
  obtain ⟨q2, hq2⟩ : ∃ q, minI y0 v0 = q := ⟨_, rfl⟩
  obtain ⟨q3, hq3⟩ : ∃ q, maxI y1 v1 = q := ⟨_, rfl⟩
  rw [hq0, hq1, hq2, hq3] at HU HU2 km
  rw [hq0] at m1
  rw [hq1] at m2
  rw [hq2] at m3
  rw [hq3] at m4
  clear hq0 hq1 hq2 hq3
  have hka := (box_iff _ _ _ _).1 ha
  have hkb := (box_iff _ _ _ _).1 hb
  have HC1 := Lib.hid (Covers_any q0 q1 q2 q3 x0 x1 y0 y1)
  rw [(cover_iff q0 q1 q2 q3 x0 x1 y0 y1).2 (by omega)] at HC1
  have HC2 := Lib.hid (Covers_any q0 q1 q2 q3 u0 u1 v0 v1)
  rw [(cover_iff q0 q1 q2 q3 u0 u1 v0 v1).2 (by omega)] at HC2
  have hbu : boxB q0 q1 q2 q3 = true := (box_iff _ _ _ _).2 (by omega)
  have HG := Lib.hid (Grows_yes (gh := 0) (gl := 0) (mh := 0) (ml := 0) km kx (by rw [hbu, ha]; rfl) (by rw [min_of q0 x0 (by omega), max_of q1 x1 (by omega), min_of q2 y0 (by omega), max_of q3 y1 (by omega), Nat.sub_self]; exact ⟨by omega, by omega, rfl⟩) (by rw [min_of q0 x0 (by omega), max_of q1 x1 (by omega), min_of q2 y0 (by omega), max_of q3 y1 (by omega), Nat.sub_self]; exact ⟨by omega, by omega, rfl⟩))
  have HD1 := Lib.hid (Covers_any z0 z1 t0 t1 x0 x1 y0 y1)
  have HD2 := Lib.hid (Covers_any z0 z1 t0 t1 u0 u1 v0 v1)
  rw [hc1] at HD1
  rw [_hc2] at HD2
  clear hc1 _hc2 ha hb hka hkb hbu km kx ku m1 m2 m3 m4
  go_enter Try.func5, Try.ntmps5
  go_upto_region 1 with fail
  have RA_1 := Lib.hid (((row_last w (w.heap.size) 23 [.int .i64 x0, .int .i64 x1, .int .i64 y0, .int .i64 y1] (by simp)).alloc (.cells #[.int .i64 u0, .int .i64 u1, .int .i64 v0, .int .i64 v1] 23)).alloc (.cells #[.int .i64 z0, .int .i64 z1, .int .i64 t0, .int .i64 t1] 23))
  have RB_1 := Lib.hid ((row_last (w.alloc (.cells #[.int .i64 x0, .int .i64 x1, .int .i64 y0, .int .i64 y1] 23)) (w.heap.size + 1) 23 [.int .i64 u0, .int .i64 u1, .int .i64 v0, .int .i64 v1] (by simp)).alloc (.cells #[.int .i64 z0, .int .i64 z1, .int .i64 t0, .int .i64 t1] 23))
  have RC_1 := Lib.hid (row_last ((w.alloc (.cells #[.int .i64 x0, .int .i64 x1, .int .i64 y0, .int .i64 y1] 23)).alloc (.cells #[.int .i64 u0, .int .i64 u1, .int .i64 v0, .int .i64 v1] 23)) (w.heap.size + 1 + 1) 23 [.int .i64 z0, .int .i64 z1, .int .i64 t0, .int .i64 t1] (by simp))
  have B_1 := Lib.hid ((((Below.refl w.heap.size w).alloc (Nat.le_refl _) (.cells #[.int .i64 x0, .int .i64 x1, .int .i64 y0, .int .i64 y1] 23)).alloc (by have := Nat.le_refl w.heap.size; simp <;> omega) (.cells #[.int .i64 u0, .int .i64 u1, .int .i64 v0, .int .i64 v1] 23)).alloc (by have := Nat.le_refl w.heap.size; simp <;> omega) (.cells #[.int .i64 z0, .int .i64 z1, .int .i64 t0, .int .i64 t1] 23))
  generalize (((w.alloc (.cells #[.int .i64 x0, .int .i64 x1, .int .i64 y0, .int .i64 y1] 23)).alloc (.cells #[.int .i64 u0, .int .i64 u1, .int .i64 v0, .int .i64 v1] 23)).alloc (.cells #[.int .i64 z0, .int .i64 z1, .int .i64 t0, .int .i64 t1] 23)) = V1 at RA_1 RB_1 RC_1 B_1 ⊢
  go_wp2_with fail
  refine (HW.out _).mono ?_
  rintro e W2 ⟨rfl, hb⟩
  have RA_3 := Lib.hid (RA_1.out.below hb RA_1.out.lt)
  have RB_3 := Lib.hid (RB_1.out.below hb RB_1.out.lt)
  have RC_3 := Lib.hid (RC_1.out.below hb RC_1.out.lt)
  have B_3 := Lib.hid (B_1.out.trans (hb.mono B_1.out.size))
  clear hb RA_1 RB_1 RC_1 B_1
  have c5_0 := RA_3.out.cell 0
  have c5_1 := RA_3.out.cell 1
  have c5_2 := RA_3.out.cell 2
  have c5_3 := RA_3.out.cell 3
  simp only [List.getElem?_cons_zero, List.getElem?_cons_succ] at c5_0 c5_1 c5_2 c5_3
  have c6_0 := RB_3.out.cell 0
  have c6_1 := RB_3.out.cell 1
  have c6_2 := RB_3.out.cell 2
  have c6_3 := RB_3.out.cell 3
  simp only [List.getElem?_cons_zero, List.getElem?_cons_succ] at c6_0 c6_1 c6_2 c6_3
  go_wp2_with fail
  refine (HU.out _).mono ?_
  rintro e W4 ⟨rfl, hb⟩
  clear c5_0 c5_1 c5_2 c5_3 c6_0 c6_1 c6_2 c6_3
  have RA_7 := Lib.hid (RA_3.out.below hb RA_3.out.lt)
  have RB_7 := Lib.hid (RB_3.out.below hb RB_3.out.lt)
  have RC_7 := Lib.hid (RC_3.out.below hb RC_3.out.lt)
  have B_7 := Lib.hid (B_3.out.trans (hb.mono B_3.out.size))
  clear hb RA_3 RB_3 RC_3 B_3
  go_upto_region 4 with fail
  have hlt8_0 : w.heap.size < W4.heap.size := RA_7.out.lt
  have hlt8_1 : w.heap.size + 1 < W4.heap.size := RB_7.out.lt
  have hlt8_2 : w.heap.size + 1 + 1 < W4.heap.size := RC_7.out.lt
  have RA_8 := Lib.hid (RA_7.out.alloc (.cells #[.int .i64 q0, .int .i64 q1, .int .i64 q2, .int .i64 q3] 23))
  have RB_8 := Lib.hid (RB_7.out.alloc (.cells #[.int .i64 q0, .int .i64 q1, .int .i64 q2, .int .i64 q3] 23))
  have RC_8 := Lib.hid (RC_7.out.alloc (.cells #[.int .i64 q0, .int .i64 q1, .int .i64 q2, .int .i64 q3] 23))
  have RU_8 := Lib.hid (row_last W4 (W4.heap.size) 23 [.int .i64 q0, .int .i64 q1, .int .i64 q2, .int .i64 q3] (by simp))
  have B_8 := Lib.hid (B_7.out.alloc B_7.out.size (.cells #[.int .i64 q0, .int .i64 q1, .int .i64 q2, .int .i64 q3] 23))
  clear RA_7 RB_7 RC_7 B_7
  generalize (W4.alloc (.cells #[.int .i64 q0, .int .i64 q1, .int .i64 q2, .int .i64 q3] 23)) = V8 at RA_8 RB_8 RC_8 RU_8 B_8 ⊢
  have c10_0 := RA_8.out.cell 0
  have c10_1 := RA_8.out.cell 1
  have c10_2 := RA_8.out.cell 2
  have c10_3 := RA_8.out.cell 3
  simp only [List.getElem?_cons_zero, List.getElem?_cons_succ] at c10_0 c10_1 c10_2 c10_3
  go_wp2_with fail
  refine (HA.out _).mono ?_
  rintro e W9 ⟨rfl, hb⟩
  clear c10_0 c10_1 c10_2 c10_3
  have RA_11 := Lib.hid (RA_8.out.below hb RA_8.out.lt)
  have RB_11 := Lib.hid (RB_8.out.below hb RB_8.out.lt)
  have RC_11 := Lib.hid (RC_8.out.below hb RC_8.out.lt)
  have RU_11 := Lib.hid (RU_8.out.below hb RU_8.out.lt)
  have B_11 := Lib.hid (B_8.out.trans (hb.mono B_8.out.size))
  clear hb RA_8 RB_8 RC_8 RU_8 B_8
  have c13_0 := RB_11.out.cell 0
  have c13_1 := RB_11.out.cell 1
  have c13_2 := RB_11.out.cell 2
  have c13_3 := RB_11.out.cell 3
  simp only [List.getElem?_cons_zero, List.getElem?_cons_succ] at c13_0 c13_1 c13_2 c13_3
  go_wp2_with fail
  refine (HB.out _).mono ?_
  rintro e W12 ⟨rfl, hb⟩
  clear c13_0 c13_1 c13_2 c13_3
  have RA_14 := Lib.hid (RA_11.out.below hb RA_11.out.lt)
  have RB_14 := Lib.hid (RB_11.out.below hb RB_11.out.lt)
  have RC_14 := Lib.hid (RC_11.out.below hb RC_11.out.lt)
  have RU_14 := Lib.hid (RU_11.out.below hb RU_11.out.lt)
  have B_14 := Lib.hid (B_11.out.trans (hb.mono B_11.out.size))
  clear hb RA_11 RB_11 RC_11 RU_11 B_11
  go_wp2_with fail
  refine wp_region_held_drew (S := fun w' => Row w' (W4.heap.size) 23 [.int .i64 q0, .int .i64 q1, .int .i64 q2, .int .i64 q3] ∧ Row w' (w.heap.size) 23 [.int .i64 x0, .int .i64 x1, .int .i64 y0, .int .i64 y1] ∧ Row w' (w.heap.size + 1) 23 [.int .i64 u0, .int .i64 u1, .int .i64 v0, .int .i64 v1]) (by kernel_rfl) ⟨RU_14.out.drew, RA_14.out.drew, RB_14.out.drew⟩ (fun hHeld => ?_)
  clear hHeld
  have RA_15 := Lib.hid RA_14.out.drew
  have RB_15 := Lib.hid RB_14.out.drew
  have RC_15 := Lib.hid RC_14.out.drew
  have RU_15 := Lib.hid RU_14.out.drew
  have B_15 := Lib.hid B_14.out.drew
  clear RA_14 RB_14 RC_14 RU_14 B_14
  generalize W12.drew = D15 at RA_15 RB_15 RC_15 RU_15 B_15 ⊢
  refine wpAnyH_take (i := 0) (oi := ⟨some 26, _, _, _, _, _⟩) (v := ?vr15_1) rfl (by kernel_rfl) (by kernel_rfl) (by kernel_rfl) (fun _ _ _ h => h) (Or.inl ⟨by rfl, ?yr15_1⟩) ⟨RU_15.out, RA_15.out, RB_15.out⟩ ?rr15_1
  case yr15_1 =>
    rintro w' hSw
    have k0 := (show Row w' _ _ _ from hSw.1).cell 0
    have k1 := (show Row w' _ _ _ from hSw.1).cell 1
    have k2 := (show Row w' _ _ _ from hSw.1).cell 2
    have k3 := (show Row w' _ _ _ from hSw.1).cell 3
    simp only [List.getElem?_cons_zero, List.getElem?_cons_succ] at k0 k1 k2 k3
    go_simp
    try with_reducible rfl
  try simp only [Act.put, List.setIfInBounds_toArray, List.set_cons_zero, List.set_cons_succ]
  refine wpAnyH_take (i := 1) (oi := ⟨some 27, _, _, _, _, _⟩) (v := ?vr15_2) rfl (by kernel_rfl) (by kernel_rfl) (by kernel_rfl) (fun _ _ _ h => h) (Or.inl ⟨by rfl, ?yr15_2⟩) ⟨RU_15.out, RA_15.out, RB_15.out⟩ ?rr15_2
  case yr15_2 =>
    rintro w' hSw
    have k0 := (show Row w' _ _ _ from hSw.2.1).cell 0
    have k1 := (show Row w' _ _ _ from hSw.2.1).cell 1
    have k2 := (show Row w' _ _ _ from hSw.2.1).cell 2
    have k3 := (show Row w' _ _ _ from hSw.2.1).cell 3
    simp only [List.getElem?_cons_zero, List.getElem?_cons_succ] at k0 k1 k2 k3
    go_simp
    try with_reducible rfl
  try simp only [Act.put, List.setIfInBounds_toArray, List.set_cons_zero, List.set_cons_succ]
  refine wpAnyH_ready (rs := [2]) (by kernel_rfl) (by simp) ?_
  refine (AllReadyH.cons rfl (fun K hK => ?_) AllReadyH.nil)
  go_simp
  refine (HC1.out _).mono ?_
  rintro e Xr15_3 ⟨rfl, hb⟩
  have RA_r15_3_16 := Lib.hid (RA_15.out.below hb RA_15.out.lt)
  have RB_r15_3_16 := Lib.hid (RB_15.out.below hb RB_15.out.lt)
  have RC_r15_3_16 := Lib.hid (RC_15.out.below hb RC_15.out.lt)
  have RU_r15_3_16 := Lib.hid (RU_15.out.below hb RU_15.out.lt)
  have B_r15_3_16 := Lib.hid (B_15.out.trans (hb.mono B_15.out.size))
  clear hb RA_15 RB_15 RC_15 RU_15 B_15
  refine hK _ _ ⟨RU_r15_3_16.out, RA_r15_3_16.out, RB_r15_3_16.out⟩ (fun _ => ?_)
  clear hK K
  try simp only [Act.put, List.setIfInBounds_toArray, List.set_cons_zero, List.set_cons_succ]
  refine wpAnyH_take (i := 3) (oi := ⟨some 29, _, _, _, _, _⟩) (v := ?vr15_4) rfl (by kernel_rfl) (by kernel_rfl) (by kernel_rfl) (fun _ _ _ h => h) (Or.inl ⟨by rfl, ?yr15_4⟩) ⟨RU_r15_3_16.out, RA_r15_3_16.out, RB_r15_3_16.out⟩ ?rr15_4
  case yr15_4 =>
    rintro w' hSw
    go_simp
    try with_reducible rfl
  try simp only [Act.put, List.setIfInBounds_toArray, List.set_cons_zero, List.set_cons_succ]
  refine wpAnyH_take (i := 4) (oi := ⟨some 30, _, _, _, _, _⟩) (v := ?vr15_5) rfl (by kernel_rfl) (by kernel_rfl) (by kernel_rfl) (fun _ _ _ h => h) (Or.inl ⟨by rfl, ?yr15_5⟩) ⟨RU_r15_3_16.out, RA_r15_3_16.out, RB_r15_3_16.out⟩ ?rr15_5
  case yr15_5 =>
    rintro w' hSw
    go_simp
    try with_reducible rfl
  try simp only [Act.put, List.setIfInBounds_toArray, List.set_cons_zero, List.set_cons_succ]
  refine wpAnyH_take (i := 5) (oi := ⟨some 31, _, _, _, _, _⟩) (v := ?vr15_6) rfl (by kernel_rfl) (by kernel_rfl) (by kernel_rfl) (fun _ _ _ h => h) (Or.inl ⟨by rfl, ?yr15_6⟩) ⟨RU_r15_3_16.out, RA_r15_3_16.out, RB_r15_3_16.out⟩ ?rr15_6
  case yr15_6 =>
    rintro w' hSw
    have k0 := (show Row w' _ _ _ from hSw.1).cell 0
    have k1 := (show Row w' _ _ _ from hSw.1).cell 1
    have k2 := (show Row w' _ _ _ from hSw.1).cell 2
    have k3 := (show Row w' _ _ _ from hSw.1).cell 3
    simp only [List.getElem?_cons_zero, List.getElem?_cons_succ] at k0 k1 k2 k3
    go_simp
    try with_reducible rfl
  try simp only [Act.put, List.setIfInBounds_toArray, List.set_cons_zero, List.set_cons_succ]
  refine wpAnyH_take (i := 6) (oi := ⟨some 32, _, _, _, _, _⟩) (v := ?vr15_7) rfl (by kernel_rfl) (by kernel_rfl) (by kernel_rfl) (fun _ _ _ h => h) (Or.inl ⟨by rfl, ?yr15_7⟩) ⟨RU_r15_3_16.out, RA_r15_3_16.out, RB_r15_3_16.out⟩ ?rr15_7
  case yr15_7 =>
    rintro w' hSw
    have k0 := (show Row w' _ _ _ from hSw.2.2).cell 0
    have k1 := (show Row w' _ _ _ from hSw.2.2).cell 1
    have k2 := (show Row w' _ _ _ from hSw.2.2).cell 2
    have k3 := (show Row w' _ _ _ from hSw.2.2).cell 3
    simp only [List.getElem?_cons_zero, List.getElem?_cons_succ] at k0 k1 k2 k3
    go_simp
    try with_reducible rfl
  try simp only [Act.put, List.setIfInBounds_toArray, List.set_cons_zero, List.set_cons_succ]
  refine wpAnyH_ready (rs := [7]) (by kernel_rfl) (by simp) ?_
  refine (AllReadyH.cons rfl (fun K hK => ?_) AllReadyH.nil)
  go_simp
  refine (HC2.out _).mono ?_
  rintro e Xr15_8 ⟨rfl, hb⟩
  have RA_r15_8_17 := Lib.hid (RA_r15_3_16.out.below hb RA_r15_3_16.out.lt)
  have RB_r15_8_17 := Lib.hid (RB_r15_3_16.out.below hb RB_r15_3_16.out.lt)
  have RC_r15_8_17 := Lib.hid (RC_r15_3_16.out.below hb RC_r15_3_16.out.lt)
  have RU_r15_8_17 := Lib.hid (RU_r15_3_16.out.below hb RU_r15_3_16.out.lt)
  have B_r15_8_17 := Lib.hid (B_r15_3_16.out.trans (hb.mono B_r15_3_16.out.size))
  clear hb RA_r15_3_16 RB_r15_3_16 RC_r15_3_16 RU_r15_3_16 B_r15_3_16
  refine hK _ _ ⟨RU_r15_8_17.out, RA_r15_8_17.out, RB_r15_8_17.out⟩ (fun _ => ?_)
  clear hK K
  try simp only [Act.put, List.setIfInBounds_toArray, List.set_cons_zero, List.set_cons_succ]
  refine wpAnyH_take (i := 8) (oi := ⟨some 34, _, _, _, _, _⟩) (v := ?vr15_9) rfl (by kernel_rfl) (by kernel_rfl) (by kernel_rfl) (fun _ _ _ h => h) (Or.inl ⟨by rfl, ?yr15_9⟩) ⟨RU_r15_8_17.out, RA_r15_8_17.out, RB_r15_8_17.out⟩ ?rr15_9
  case yr15_9 =>
    rintro w' hSw
    go_simp
    try with_reducible rfl
  try simp only [Act.put, List.setIfInBounds_toArray, List.set_cons_zero, List.set_cons_succ]
  refine wpAnyH_take (i := 9) (oi := ⟨some 35, _, _, _, _, _⟩) (v := ?vr15_10) rfl (by kernel_rfl) (by kernel_rfl) (by kernel_rfl) (fun _ _ _ h => h) (Or.inl ⟨by rfl, ?yr15_10⟩) ⟨RU_r15_8_17.out, RA_r15_8_17.out, RB_r15_8_17.out⟩ ?rr15_10
  case yr15_10 =>
    rintro w' hSw
    go_simp
    try with_reducible rfl
  try simp only [Act.put, List.setIfInBounds_toArray, List.set_cons_zero, List.set_cons_succ]
  refine wpAnyH_take (i := 10) (oi := ⟨some 36, _, _, _, _, _⟩) (v := ?vr15_11) rfl (by kernel_rfl) (by kernel_rfl) (by kernel_rfl) (fun _ _ _ h => h) (Or.inl ⟨by rfl, ?yr15_11⟩) ⟨RU_r15_8_17.out, RA_r15_8_17.out, RB_r15_8_17.out⟩ ?rr15_11
  case yr15_11 =>
    rintro w' hSw
    go_simp
    try with_reducible rfl
  try simp only [Act.put, List.setIfInBounds_toArray, List.set_cons_zero, List.set_cons_succ]
  refine wpAnyH_take (i := 11) (oi := ⟨some 37, _, _, _, _, _⟩) (v := ?vr15_12) rfl (by kernel_rfl) (by kernel_rfl) (by kernel_rfl) (fun _ _ _ h => h) (Or.inl ⟨by rfl, ?yr15_12⟩) ⟨RU_r15_8_17.out, RA_r15_8_17.out, RB_r15_8_17.out⟩ ?rr15_12
  case yr15_12 =>
    rintro w' hSw
    have k0 := (show Row w' _ _ _ from hSw.1).cell 0
    have k1 := (show Row w' _ _ _ from hSw.1).cell 1
    have k2 := (show Row w' _ _ _ from hSw.1).cell 2
    have k3 := (show Row w' _ _ _ from hSw.1).cell 3
    simp only [List.getElem?_cons_zero, List.getElem?_cons_succ] at k0 k1 k2 k3
    go_simp
    try with_reducible rfl
  try simp only [Act.put, List.setIfInBounds_toArray, List.set_cons_zero, List.set_cons_succ]
  refine wpAnyH_take (i := 12) (oi := ⟨some 38, _, _, _, _, _⟩) (v := ?vr15_13) rfl (by kernel_rfl) (by kernel_rfl) (by kernel_rfl) (fun _ _ _ h => h) (Or.inl ⟨by rfl, ?yr15_13⟩) ⟨RU_r15_8_17.out, RA_r15_8_17.out, RB_r15_8_17.out⟩ ?rr15_13
  case yr15_13 =>
    rintro w' hSw
    have k0 := (show Row w' _ _ _ from hSw.2.2).cell 0
    have k1 := (show Row w' _ _ _ from hSw.2.2).cell 1
    have k2 := (show Row w' _ _ _ from hSw.2.2).cell 2
    have k3 := (show Row w' _ _ _ from hSw.2.2).cell 3
    simp only [List.getElem?_cons_zero, List.getElem?_cons_succ] at k0 k1 k2 k3
    go_simp
    try with_reducible rfl
  try simp only [Act.put, List.setIfInBounds_toArray, List.set_cons_zero, List.set_cons_succ]
  refine wpAnyH_take (i := 13) (oi := ⟨some 39, _, _, _, _, _⟩) (v := ?vr15_14) rfl (by kernel_rfl) (by kernel_rfl) (by kernel_rfl) (fun _ _ _ h => h) (Or.inl ⟨by rfl, ?yr15_14⟩) ⟨RU_r15_8_17.out, RA_r15_8_17.out, RB_r15_8_17.out⟩ ?rr15_14
  case yr15_14 =>
    rintro w' hSw
    have k0 := (show Row w' _ _ _ from hSw.2.1).cell 0
    have k1 := (show Row w' _ _ _ from hSw.2.1).cell 1
    have k2 := (show Row w' _ _ _ from hSw.2.1).cell 2
    have k3 := (show Row w' _ _ _ from hSw.2.1).cell 3
    simp only [List.getElem?_cons_zero, List.getElem?_cons_succ] at k0 k1 k2 k3
    go_simp
    try with_reducible rfl
  try simp only [Act.put, List.setIfInBounds_toArray, List.set_cons_zero, List.set_cons_succ]
  refine wpAnyH_ready (rs := [14]) (by kernel_rfl) (by simp) ?_
  refine (AllReadyH.cons rfl (fun K hK => ?_) AllReadyH.nil)
  go_simp
  refine (HU2.out _).mono ?_
  rintro e Xr15_15 ⟨rfl, hb⟩
  have RA_r15_15_18 := Lib.hid (RA_r15_8_17.out.below hb RA_r15_8_17.out.lt)
  have RB_r15_15_18 := Lib.hid (RB_r15_8_17.out.below hb RB_r15_8_17.out.lt)
  have RC_r15_15_18 := Lib.hid (RC_r15_8_17.out.below hb RC_r15_8_17.out.lt)
  have RU_r15_15_18 := Lib.hid (RU_r15_8_17.out.below hb RU_r15_8_17.out.lt)
  have B_r15_15_18 := Lib.hid (B_r15_8_17.out.trans (hb.mono B_r15_8_17.out.size))
  clear hb RA_r15_8_17 RB_r15_8_17 RC_r15_8_17 RU_r15_8_17 B_r15_8_17
  refine hK _ _ ⟨RU_r15_15_18.out, RA_r15_15_18.out, RB_r15_15_18.out⟩ (fun _ => ?_)
  clear hK K
  try simp only [Act.put, List.setIfInBounds_toArray, List.set_cons_zero, List.set_cons_succ]
  refine wpAnyH_take (i := 15) (oi := ⟨some 41, _, _, _, _, _⟩) (v := ?vr15_16) rfl (by kernel_rfl) (by kernel_rfl) (by kernel_rfl) (fun _ _ _ h => h) (Or.inl ⟨by rfl, ?yr15_16⟩) ⟨RU_r15_15_18.out, RA_r15_15_18.out, RB_r15_15_18.out⟩ ?rr15_16
  case yr15_16 =>
    rintro w' hSw
    go_simp
    try with_reducible rfl
  try simp only [Act.put, List.setIfInBounds_toArray, List.set_cons_zero, List.set_cons_succ]
  refine wpAnyH_take (i := 16) (oi := ⟨some 42, _, _, _, _, _⟩) (v := ?vr15_17) rfl (by kernel_rfl) (by kernel_rfl) (by kernel_rfl) (fun _ _ _ h => h) (Or.inl ⟨by rfl, ?yr15_17⟩) ⟨RU_r15_15_18.out, RA_r15_15_18.out, RB_r15_15_18.out⟩ ?rr15_17
  case yr15_17 =>
    rintro w' hSw
    go_simp
    try with_reducible rfl
  try simp only [Act.put, List.setIfInBounds_toArray, List.set_cons_zero, List.set_cons_succ]
  refine wpAnyH_take (i := 17) (oi := ⟨some 43, _, _, _, _, _⟩) (v := ?vr15_18) rfl (by kernel_rfl) (by kernel_rfl) (by kernel_rfl) (fun _ _ _ h => h) (Or.inl ⟨by rfl, ?yr15_18⟩) ⟨RU_r15_15_18.out, RA_r15_15_18.out, RB_r15_15_18.out⟩ ?rr15_18
  case yr15_18 =>
    rintro w' hSw
    go_simp
    try with_reducible rfl
  try simp only [Act.put, List.setIfInBounds_toArray, List.set_cons_zero, List.set_cons_succ]
  refine wpAnyH_take (i := 18) (oi := ⟨some 44, _, _, _, _, _⟩) (v := ?vr15_19) rfl (by kernel_rfl) (by kernel_rfl) (by kernel_rfl) (fun _ _ _ h => h) (Or.inl ⟨by rfl, ?yr15_19⟩) ⟨RU_r15_15_18.out, RA_r15_15_18.out, RB_r15_15_18.out⟩ ?rr15_19
  case yr15_19 =>
    rintro w' hSw
    have k0 := (show Row w' _ _ _ from hSw.2.1).cell 0
    have k1 := (show Row w' _ _ _ from hSw.2.1).cell 1
    have k2 := (show Row w' _ _ _ from hSw.2.1).cell 2
    have k3 := (show Row w' _ _ _ from hSw.2.1).cell 3
    simp only [List.getElem?_cons_zero, List.getElem?_cons_succ] at k0 k1 k2 k3
    go_simp
    try with_reducible rfl
  try simp only [Act.put, List.setIfInBounds_toArray, List.set_cons_zero, List.set_cons_succ]
  refine wpAnyH_take (i := 19) (oi := ⟨some 45, _, _, _, _, _⟩) (v := ?vr15_20) rfl (by kernel_rfl) (by kernel_rfl) (by kernel_rfl) (fun _ _ _ h => h) (Or.inl ⟨by rfl, ?yr15_20⟩) ⟨RU_r15_15_18.out, RA_r15_15_18.out, RB_r15_15_18.out⟩ ?rr15_20
  case yr15_20 =>
    rintro w' hSw
    have k0 := (show Row w' _ _ _ from hSw.2.1).cell 0
    have k1 := (show Row w' _ _ _ from hSw.2.1).cell 1
    have k2 := (show Row w' _ _ _ from hSw.2.1).cell 2
    have k3 := (show Row w' _ _ _ from hSw.2.1).cell 3
    simp only [List.getElem?_cons_zero, List.getElem?_cons_succ] at k0 k1 k2 k3
    go_simp
    try with_reducible rfl
  try simp only [Act.put, List.setIfInBounds_toArray, List.set_cons_zero, List.set_cons_succ]
  refine wpAnyH_take (i := 21) (oi := ⟨some 47, _, _, _, _, _⟩) (v := ?vr15_21) rfl (by kernel_rfl) (by kernel_rfl) (by kernel_rfl) (fun _ _ _ h => h) (Or.inl ⟨by rfl, ?yr15_21⟩) ⟨RU_r15_15_18.out, RA_r15_15_18.out, RB_r15_15_18.out⟩ ?rr15_21
  case yr15_21 =>
    rintro w' hSw
    have k0 := (show Row w' _ _ _ from hSw.2.1).cell 0
    have k1 := (show Row w' _ _ _ from hSw.2.1).cell 1
    have k2 := (show Row w' _ _ _ from hSw.2.1).cell 2
    have k3 := (show Row w' _ _ _ from hSw.2.1).cell 3
    simp only [List.getElem?_cons_zero, List.getElem?_cons_succ] at k0 k1 k2 k3
    go_simp
    try with_reducible rfl
  try simp only [Act.put, List.setIfInBounds_toArray, List.set_cons_zero, List.set_cons_succ]
  refine wpAnyH_ready (rs := [20]) (by kernel_rfl) (by simp) ?_
  refine (AllReadyH.cons rfl (fun K hK => ?_) AllReadyH.nil)
  go_simp
  refine (HU3.out _).mono ?_
  rintro e Xr15_22 ⟨rfl, hb⟩
  have RA_r15_22_19 := Lib.hid (RA_r15_15_18.out.below hb RA_r15_15_18.out.lt)
  have RB_r15_22_19 := Lib.hid (RB_r15_15_18.out.below hb RB_r15_15_18.out.lt)
  have RC_r15_22_19 := Lib.hid (RC_r15_15_18.out.below hb RC_r15_15_18.out.lt)
  have RU_r15_22_19 := Lib.hid (RU_r15_15_18.out.below hb RU_r15_15_18.out.lt)
  have B_r15_22_19 := Lib.hid (B_r15_15_18.out.trans (hb.mono B_r15_15_18.out.size))
  clear hb RA_r15_15_18 RB_r15_15_18 RC_r15_15_18 RU_r15_15_18 B_r15_15_18
  refine hK _ _ ⟨RU_r15_22_19.out, RA_r15_22_19.out, RB_r15_22_19.out⟩ (fun _ => ?_)
  clear hK K
  try simp only [Act.put, List.setIfInBounds_toArray, List.set_cons_zero, List.set_cons_succ]
  refine wpAnyH_take (i := 22) (oi := ⟨some 48, _, _, _, _, _⟩) (v := ?vr15_23) rfl (by kernel_rfl) (by kernel_rfl) (by kernel_rfl) (fun _ _ _ h => h) (Or.inl ⟨by rfl, ?yr15_23⟩) ⟨RU_r15_22_19.out, RA_r15_22_19.out, RB_r15_22_19.out⟩ ?rr15_23
  case yr15_23 =>
    rintro w' hSw
    go_simp
    try with_reducible rfl
  try simp only [Act.put, List.setIfInBounds_toArray, List.set_cons_zero, List.set_cons_succ]
  refine wpAnyH_take (i := 23) (oi := ⟨some 49, _, _, _, _, _⟩) (v := ?vr15_24) rfl (by kernel_rfl) (by kernel_rfl) (by kernel_rfl) (fun _ _ _ h => h) (Or.inl ⟨by rfl, ?yr15_24⟩) ⟨RU_r15_22_19.out, RA_r15_22_19.out, RB_r15_22_19.out⟩ ?rr15_24
  case yr15_24 =>
    rintro w' hSw
    go_simp
    try with_reducible rfl
  try simp only [Act.put, List.setIfInBounds_toArray, List.set_cons_zero, List.set_cons_succ]
  refine wpAnyH_done (by kernel_rfl) ?_ _
  have cr15_22_21_0 := RC_r15_22_19.out.cell 0
  have cr15_22_21_1 := RC_r15_22_19.out.cell 1
  have cr15_22_21_2 := RC_r15_22_19.out.cell 2
  have cr15_22_21_3 := RC_r15_22_19.out.cell 3
  simp only [List.getElem?_cons_zero, List.getElem?_cons_succ] at cr15_22_21_0 cr15_22_21_1 cr15_22_21_2 cr15_22_21_3
  have cr15_22_22_0 := RA_r15_22_19.out.cell 0
  have cr15_22_22_1 := RA_r15_22_19.out.cell 1
  have cr15_22_22_2 := RA_r15_22_19.out.cell 2
  have cr15_22_22_3 := RA_r15_22_19.out.cell 3
  simp only [List.getElem?_cons_zero, List.getElem?_cons_succ] at cr15_22_22_0 cr15_22_22_1 cr15_22_22_2 cr15_22_22_3
  go_wp2_with fail
  refine (HD1.out _).mono ?_
  rintro e Wr15_22_20 ⟨rfl, hb⟩
  clear cr15_22_21_0 cr15_22_21_1 cr15_22_21_2 cr15_22_21_3 cr15_22_22_0 cr15_22_22_1 cr15_22_22_2 cr15_22_22_3
  have RA_r15_22_23 := Lib.hid (RA_r15_22_19.out.below hb RA_r15_22_19.out.lt)
  have RB_r15_22_23 := Lib.hid (RB_r15_22_19.out.below hb RB_r15_22_19.out.lt)
  have RC_r15_22_23 := Lib.hid (RC_r15_22_19.out.below hb RC_r15_22_19.out.lt)
  have RU_r15_22_23 := Lib.hid (RU_r15_22_19.out.below hb RU_r15_22_19.out.lt)
  have B_r15_22_23 := Lib.hid (B_r15_22_19.out.trans (hb.mono B_r15_22_19.out.size))
  clear hb RA_r15_22_19 RB_r15_22_19 RC_r15_22_19 RU_r15_22_19 B_r15_22_19
  have cr15_22_25_0 := RU_r15_22_23.out.cell 0
  have cr15_22_25_1 := RU_r15_22_23.out.cell 1
  have cr15_22_25_2 := RU_r15_22_23.out.cell 2
  have cr15_22_25_3 := RU_r15_22_23.out.cell 3
  simp only [List.getElem?_cons_zero, List.getElem?_cons_succ] at cr15_22_25_0 cr15_22_25_1 cr15_22_25_2 cr15_22_25_3
  have cr15_22_26_0 := RA_r15_22_23.out.cell 0
  have cr15_22_26_1 := RA_r15_22_23.out.cell 1
  have cr15_22_26_2 := RA_r15_22_23.out.cell 2
  have cr15_22_26_3 := RA_r15_22_23.out.cell 3
  simp only [List.getElem?_cons_zero, List.getElem?_cons_succ] at cr15_22_26_0 cr15_22_26_1 cr15_22_26_2 cr15_22_26_3
  go_wp2_with fail
  refine (HG.out _).mono ?_
  rintro e Wr15_22_24 ⟨rfl, hb⟩
  clear cr15_22_25_0 cr15_22_25_1 cr15_22_25_2 cr15_22_25_3 cr15_22_26_0 cr15_22_26_1 cr15_22_26_2 cr15_22_26_3
  have RA_r15_22_27 := Lib.hid (RA_r15_22_23.out.below hb RA_r15_22_23.out.lt)
  have RB_r15_22_27 := Lib.hid (RB_r15_22_23.out.below hb RB_r15_22_23.out.lt)
  have RC_r15_22_27 := Lib.hid (RC_r15_22_23.out.below hb RC_r15_22_23.out.lt)
  have RU_r15_22_27 := Lib.hid (RU_r15_22_23.out.below hb RU_r15_22_23.out.lt)
  have B_r15_22_27 := Lib.hid (B_r15_22_23.out.trans (hb.mono B_r15_22_23.out.size))
  clear hb RA_r15_22_23 RB_r15_22_23 RC_r15_22_23 RU_r15_22_23 B_r15_22_23
  go_wp2
  go_ret
  exact ⟨rfl, (B_r15_22_27.out.alloc B_r15_22_27.out.size _).alloc (by have := B_r15_22_27.out.size; simp; omega) _⟩

set_option maxHeartbeats 4000000 in
theorem walk_f2 (x0 x1 y0 y1 u0 u1 v0 v1 z0 z1 t0 t1 : Int) (w : World) (kx : KOk x0 x1 y0 y1) (ku : KOk u0 u1 v0 v1) (ha : boxB x0 x1 y0 y1 = true) (hb : boxB u0 u1 v0 v1 = true) (hc1 : coverB z0 z1 t0 t1 x0 x1 y0 y1 = false) (_hc2 : coverB z0 z1 t0 t1 u0 u1 v0 v1 = true) : Calls Try.prog 5 #[KV x0 x1 y0 y1, KV u0 u1 v0 v1, KV z0 z1 t0 t1] w fun e w' => e = .returned (.bool true) ∧ Below w.heap.size w w' := by
  have HW := Lib.hid wakes_any
  have HA := Lib.hid (box_any x0 x1 y0 y1)
  have HB := Lib.hid (box_any u0 u1 v0 v1)
  have HU := Lib.hid (Union_any x0 x1 y0 y1 u0 u1 v0 v1)
  have HU2 := Lib.hid (Union_any u0 u1 v0 v1 x0 x1 y0 y1)
  have HU3 := Lib.hid (Union_any x0 x1 y0 y1 x0 x1 y0 y1)
  unfold unionV at HU HU2 HU3
  rw [ha, hb, Bool.and_self, if_pos rfl] at HU HU2
  rw [ha, Bool.and_self, if_pos rfl, min_self, min_self, max_self, max_self] at HU3
  rw [min_comm u0, max_comm u1, min_comm v0, max_comm v1] at HU2
  rw [ha] at HA
  rw [hb] at HB
  have km := union_ok kx ku
  have m1 := min_le x0 u0
  have m2 := max_le x1 u1
  have m3 := min_le y0 v0
  have m4 := max_le y1 v1
  obtain ⟨q0, hq0⟩ : ∃ q, minI x0 u0 = q := ⟨_, rfl⟩
  obtain ⟨q1, hq1⟩ : ∃ q, maxI x1 u1 = q := ⟨_, rfl⟩
  obtain ⟨q2, hq2⟩ : ∃ q, minI y0 v0 = q := ⟨_, rfl⟩
  obtain ⟨q3, hq3⟩ : ∃ q, maxI y1 v1 = q := ⟨_, rfl⟩
  rw [hq0, hq1, hq2, hq3] at HU HU2 km
  rw [hq0] at m1
  rw [hq1] at m2
  rw [hq2] at m3
  rw [hq3] at m4
  clear hq0 hq1 hq2 hq3
  have hka := (box_iff _ _ _ _).1 ha
  have hkb := (box_iff _ _ _ _).1 hb
  have HC1 := Lib.hid (Covers_any q0 q1 q2 q3 x0 x1 y0 y1)
  rw [(cover_iff q0 q1 q2 q3 x0 x1 y0 y1).2 (by omega)] at HC1
  have HC2 := Lib.hid (Covers_any q0 q1 q2 q3 u0 u1 v0 v1)
  rw [(cover_iff q0 q1 q2 q3 u0 u1 v0 v1).2 (by omega)] at HC2
  have hbu : boxB q0 q1 q2 q3 = true := (box_iff _ _ _ _).2 (by omega)
  have HG := Lib.hid (Grows_yes (gh := 0) (gl := 0) (mh := 0) (ml := 0) km kx (by rw [hbu, ha]; rfl) (by rw [min_of q0 x0 (by omega), max_of q1 x1 (by omega), min_of q2 y0 (by omega), max_of q3 y1 (by omega), Nat.sub_self]; exact ⟨by omega, by omega, rfl⟩) (by rw [min_of q0 x0 (by omega), max_of q1 x1 (by omega), min_of q2 y0 (by omega), max_of q3 y1 (by omega), Nat.sub_self]; exact ⟨by omega, by omega, rfl⟩))
  have HD1 := Lib.hid (Covers_any z0 z1 t0 t1 x0 x1 y0 y1)
  have HD2 := Lib.hid (Covers_any z0 z1 t0 t1 u0 u1 v0 v1)
  rw [hc1] at HD1
  rw [_hc2] at HD2
  clear hc1 _hc2 ha hb hka hkb hbu km kx ku m1 m2 m3 m4
  go_enter Try.func5, Try.ntmps5
  go_upto_region 1 with fail
  have RA_1 := Lib.hid (((row_last w (w.heap.size) 23 [.int .i64 x0, .int .i64 x1, .int .i64 y0, .int .i64 y1] (by simp)).alloc (.cells #[.int .i64 u0, .int .i64 u1, .int .i64 v0, .int .i64 v1] 23)).alloc (.cells #[.int .i64 z0, .int .i64 z1, .int .i64 t0, .int .i64 t1] 23))
  have RB_1 := Lib.hid ((row_last (w.alloc (.cells #[.int .i64 x0, .int .i64 x1, .int .i64 y0, .int .i64 y1] 23)) (w.heap.size + 1) 23 [.int .i64 u0, .int .i64 u1, .int .i64 v0, .int .i64 v1] (by simp)).alloc (.cells #[.int .i64 z0, .int .i64 z1, .int .i64 t0, .int .i64 t1] 23))
  have RC_1 := Lib.hid (row_last ((w.alloc (.cells #[.int .i64 x0, .int .i64 x1, .int .i64 y0, .int .i64 y1] 23)).alloc (.cells #[.int .i64 u0, .int .i64 u1, .int .i64 v0, .int .i64 v1] 23)) (w.heap.size + 1 + 1) 23 [.int .i64 z0, .int .i64 z1, .int .i64 t0, .int .i64 t1] (by simp))
  have B_1 := Lib.hid ((((Below.refl w.heap.size w).alloc (Nat.le_refl _) (.cells #[.int .i64 x0, .int .i64 x1, .int .i64 y0, .int .i64 y1] 23)).alloc (by have := Nat.le_refl w.heap.size; simp <;> omega) (.cells #[.int .i64 u0, .int .i64 u1, .int .i64 v0, .int .i64 v1] 23)).alloc (by have := Nat.le_refl w.heap.size; simp <;> omega) (.cells #[.int .i64 z0, .int .i64 z1, .int .i64 t0, .int .i64 t1] 23))
  generalize (((w.alloc (.cells #[.int .i64 x0, .int .i64 x1, .int .i64 y0, .int .i64 y1] 23)).alloc (.cells #[.int .i64 u0, .int .i64 u1, .int .i64 v0, .int .i64 v1] 23)).alloc (.cells #[.int .i64 z0, .int .i64 z1, .int .i64 t0, .int .i64 t1] 23)) = V1 at RA_1 RB_1 RC_1 B_1 ⊢
  go_wp2_with fail
  refine (HW.out _).mono ?_
  rintro e W2 ⟨rfl, hb⟩
  have RA_3 := Lib.hid (RA_1.out.below hb RA_1.out.lt)
  have RB_3 := Lib.hid (RB_1.out.below hb RB_1.out.lt)
  have RC_3 := Lib.hid (RC_1.out.below hb RC_1.out.lt)
  have B_3 := Lib.hid (B_1.out.trans (hb.mono B_1.out.size))
  clear hb RA_1 RB_1 RC_1 B_1
  have c5_0 := RA_3.out.cell 0
  have c5_1 := RA_3.out.cell 1
  have c5_2 := RA_3.out.cell 2
  have c5_3 := RA_3.out.cell 3
  simp only [List.getElem?_cons_zero, List.getElem?_cons_succ] at c5_0 c5_1 c5_2 c5_3
  have c6_0 := RB_3.out.cell 0
  have c6_1 := RB_3.out.cell 1
  have c6_2 := RB_3.out.cell 2
  have c6_3 := RB_3.out.cell 3
  simp only [List.getElem?_cons_zero, List.getElem?_cons_succ] at c6_0 c6_1 c6_2 c6_3
  go_wp2_with fail
  refine (HU.out _).mono ?_
  rintro e W4 ⟨rfl, hb⟩
  clear c5_0 c5_1 c5_2 c5_3 c6_0 c6_1 c6_2 c6_3
  have RA_7 := Lib.hid (RA_3.out.below hb RA_3.out.lt)
  have RB_7 := Lib.hid (RB_3.out.below hb RB_3.out.lt)
  have RC_7 := Lib.hid (RC_3.out.below hb RC_3.out.lt)
  have B_7 := Lib.hid (B_3.out.trans (hb.mono B_3.out.size))
  clear hb RA_3 RB_3 RC_3 B_3
  go_upto_region 4 with fail
  have hlt8_0 : w.heap.size < W4.heap.size := RA_7.out.lt
  have hlt8_1 : w.heap.size + 1 < W4.heap.size := RB_7.out.lt
  have hlt8_2 : w.heap.size + 1 + 1 < W4.heap.size := RC_7.out.lt
  have RA_8 := Lib.hid (RA_7.out.alloc (.cells #[.int .i64 q0, .int .i64 q1, .int .i64 q2, .int .i64 q3] 23))
  have RB_8 := Lib.hid (RB_7.out.alloc (.cells #[.int .i64 q0, .int .i64 q1, .int .i64 q2, .int .i64 q3] 23))
  have RC_8 := Lib.hid (RC_7.out.alloc (.cells #[.int .i64 q0, .int .i64 q1, .int .i64 q2, .int .i64 q3] 23))
  have RU_8 := Lib.hid (row_last W4 (W4.heap.size) 23 [.int .i64 q0, .int .i64 q1, .int .i64 q2, .int .i64 q3] (by simp))
  have B_8 := Lib.hid (B_7.out.alloc B_7.out.size (.cells #[.int .i64 q0, .int .i64 q1, .int .i64 q2, .int .i64 q3] 23))
  clear RA_7 RB_7 RC_7 B_7
  generalize (W4.alloc (.cells #[.int .i64 q0, .int .i64 q1, .int .i64 q2, .int .i64 q3] 23)) = V8 at RA_8 RB_8 RC_8 RU_8 B_8 ⊢
  have c10_0 := RA_8.out.cell 0
  have c10_1 := RA_8.out.cell 1
  have c10_2 := RA_8.out.cell 2
  have c10_3 := RA_8.out.cell 3
  simp only [List.getElem?_cons_zero, List.getElem?_cons_succ] at c10_0 c10_1 c10_2 c10_3
  go_wp2_with fail
  refine (HA.out _).mono ?_
  rintro e W9 ⟨rfl, hb⟩
  clear c10_0 c10_1 c10_2 c10_3
  have RA_11 := Lib.hid (RA_8.out.below hb RA_8.out.lt)
  have RB_11 := Lib.hid (RB_8.out.below hb RB_8.out.lt)
  have RC_11 := Lib.hid (RC_8.out.below hb RC_8.out.lt)
  have RU_11 := Lib.hid (RU_8.out.below hb RU_8.out.lt)
  have B_11 := Lib.hid (B_8.out.trans (hb.mono B_8.out.size))
  clear hb RA_8 RB_8 RC_8 RU_8 B_8
  have c13_0 := RB_11.out.cell 0
  have c13_1 := RB_11.out.cell 1
  have c13_2 := RB_11.out.cell 2
  have c13_3 := RB_11.out.cell 3
  simp only [List.getElem?_cons_zero, List.getElem?_cons_succ] at c13_0 c13_1 c13_2 c13_3
  go_wp2_with fail
  refine (HB.out _).mono ?_
  rintro e W12 ⟨rfl, hb⟩
  clear c13_0 c13_1 c13_2 c13_3
  have RA_14 := Lib.hid (RA_11.out.below hb RA_11.out.lt)
  have RB_14 := Lib.hid (RB_11.out.below hb RB_11.out.lt)
  have RC_14 := Lib.hid (RC_11.out.below hb RC_11.out.lt)
  have RU_14 := Lib.hid (RU_11.out.below hb RU_11.out.lt)
  have B_14 := Lib.hid (B_11.out.trans (hb.mono B_11.out.size))
  clear hb RA_11 RB_11 RC_11 RU_11 B_11
  go_wp2_with fail
  refine wp_region_held_drew (S := fun w' => Row w' (W4.heap.size) 23 [.int .i64 q0, .int .i64 q1, .int .i64 q2, .int .i64 q3] ∧ Row w' (w.heap.size) 23 [.int .i64 x0, .int .i64 x1, .int .i64 y0, .int .i64 y1] ∧ Row w' (w.heap.size + 1) 23 [.int .i64 u0, .int .i64 u1, .int .i64 v0, .int .i64 v1]) (by kernel_rfl) ⟨RU_14.out.drew, RA_14.out.drew, RB_14.out.drew⟩ (fun hHeld => ?_)
  clear hHeld
  have RA_15 := Lib.hid RA_14.out.drew
  have RB_15 := Lib.hid RB_14.out.drew
  have RC_15 := Lib.hid RC_14.out.drew
  have RU_15 := Lib.hid RU_14.out.drew
  have B_15 := Lib.hid B_14.out.drew
  clear RA_14 RB_14 RC_14 RU_14 B_14
  generalize W12.drew = D15 at RA_15 RB_15 RC_15 RU_15 B_15 ⊢
  refine wpAnyH_take (i := 0) (oi := ⟨some 26, _, _, _, _, _⟩) (v := ?vr15_1) rfl (by kernel_rfl) (by kernel_rfl) (by kernel_rfl) (fun _ _ _ h => h) (Or.inl ⟨by rfl, ?yr15_1⟩) ⟨RU_15.out, RA_15.out, RB_15.out⟩ ?rr15_1
  case yr15_1 =>
    rintro w' hSw
    have k0 := (show Row w' _ _ _ from hSw.1).cell 0
    have k1 := (show Row w' _ _ _ from hSw.1).cell 1
    have k2 := (show Row w' _ _ _ from hSw.1).cell 2
    have k3 := (show Row w' _ _ _ from hSw.1).cell 3
    simp only [List.getElem?_cons_zero, List.getElem?_cons_succ] at k0 k1 k2 k3
    go_simp
    try with_reducible rfl
  try simp only [Act.put, List.setIfInBounds_toArray, List.set_cons_zero, List.set_cons_succ]
  refine wpAnyH_take (i := 1) (oi := ⟨some 27, _, _, _, _, _⟩) (v := ?vr15_2) rfl (by kernel_rfl) (by kernel_rfl) (by kernel_rfl) (fun _ _ _ h => h) (Or.inl ⟨by rfl, ?yr15_2⟩) ⟨RU_15.out, RA_15.out, RB_15.out⟩ ?rr15_2
  case yr15_2 =>
    rintro w' hSw
    have k0 := (show Row w' _ _ _ from hSw.2.1).cell 0
    have k1 := (show Row w' _ _ _ from hSw.2.1).cell 1
    have k2 := (show Row w' _ _ _ from hSw.2.1).cell 2
    have k3 := (show Row w' _ _ _ from hSw.2.1).cell 3
    simp only [List.getElem?_cons_zero, List.getElem?_cons_succ] at k0 k1 k2 k3
    go_simp
    try with_reducible rfl
  try simp only [Act.put, List.setIfInBounds_toArray, List.set_cons_zero, List.set_cons_succ]
  refine wpAnyH_ready (rs := [2]) (by kernel_rfl) (by simp) ?_
  refine (AllReadyH.cons rfl (fun K hK => ?_) AllReadyH.nil)
  go_simp
  refine (HC1.out _).mono ?_
  rintro e Xr15_3 ⟨rfl, hb⟩
  have RA_r15_3_16 := Lib.hid (RA_15.out.below hb RA_15.out.lt)
  have RB_r15_3_16 := Lib.hid (RB_15.out.below hb RB_15.out.lt)
  have RC_r15_3_16 := Lib.hid (RC_15.out.below hb RC_15.out.lt)
  have RU_r15_3_16 := Lib.hid (RU_15.out.below hb RU_15.out.lt)
  have B_r15_3_16 := Lib.hid (B_15.out.trans (hb.mono B_15.out.size))
  clear hb RA_15 RB_15 RC_15 RU_15 B_15
  refine hK _ _ ⟨RU_r15_3_16.out, RA_r15_3_16.out, RB_r15_3_16.out⟩ (fun _ => ?_)
  clear hK K
  try simp only [Act.put, List.setIfInBounds_toArray, List.set_cons_zero, List.set_cons_succ]
  refine wpAnyH_take (i := 3) (oi := ⟨some 29, _, _, _, _, _⟩) (v := ?vr15_4) rfl (by kernel_rfl) (by kernel_rfl) (by kernel_rfl) (fun _ _ _ h => h) (Or.inl ⟨by rfl, ?yr15_4⟩) ⟨RU_r15_3_16.out, RA_r15_3_16.out, RB_r15_3_16.out⟩ ?rr15_4
  case yr15_4 =>
    rintro w' hSw
    go_simp
    try with_reducible rfl
  try simp only [Act.put, List.setIfInBounds_toArray, List.set_cons_zero, List.set_cons_succ]
  refine wpAnyH_take (i := 4) (oi := ⟨some 30, _, _, _, _, _⟩) (v := ?vr15_5) rfl (by kernel_rfl) (by kernel_rfl) (by kernel_rfl) (fun _ _ _ h => h) (Or.inl ⟨by rfl, ?yr15_5⟩) ⟨RU_r15_3_16.out, RA_r15_3_16.out, RB_r15_3_16.out⟩ ?rr15_5
  case yr15_5 =>
    rintro w' hSw
    go_simp
    try with_reducible rfl
  try simp only [Act.put, List.setIfInBounds_toArray, List.set_cons_zero, List.set_cons_succ]
  refine wpAnyH_take (i := 5) (oi := ⟨some 31, _, _, _, _, _⟩) (v := ?vr15_6) rfl (by kernel_rfl) (by kernel_rfl) (by kernel_rfl) (fun _ _ _ h => h) (Or.inl ⟨by rfl, ?yr15_6⟩) ⟨RU_r15_3_16.out, RA_r15_3_16.out, RB_r15_3_16.out⟩ ?rr15_6
  case yr15_6 =>
    rintro w' hSw
    have k0 := (show Row w' _ _ _ from hSw.1).cell 0
    have k1 := (show Row w' _ _ _ from hSw.1).cell 1
    have k2 := (show Row w' _ _ _ from hSw.1).cell 2
    have k3 := (show Row w' _ _ _ from hSw.1).cell 3
    simp only [List.getElem?_cons_zero, List.getElem?_cons_succ] at k0 k1 k2 k3
    go_simp
    try with_reducible rfl
  try simp only [Act.put, List.setIfInBounds_toArray, List.set_cons_zero, List.set_cons_succ]
  refine wpAnyH_take (i := 6) (oi := ⟨some 32, _, _, _, _, _⟩) (v := ?vr15_7) rfl (by kernel_rfl) (by kernel_rfl) (by kernel_rfl) (fun _ _ _ h => h) (Or.inl ⟨by rfl, ?yr15_7⟩) ⟨RU_r15_3_16.out, RA_r15_3_16.out, RB_r15_3_16.out⟩ ?rr15_7
  case yr15_7 =>
    rintro w' hSw
    have k0 := (show Row w' _ _ _ from hSw.2.2).cell 0
    have k1 := (show Row w' _ _ _ from hSw.2.2).cell 1
    have k2 := (show Row w' _ _ _ from hSw.2.2).cell 2
    have k3 := (show Row w' _ _ _ from hSw.2.2).cell 3
    simp only [List.getElem?_cons_zero, List.getElem?_cons_succ] at k0 k1 k2 k3
    go_simp
    try with_reducible rfl
  try simp only [Act.put, List.setIfInBounds_toArray, List.set_cons_zero, List.set_cons_succ]
  refine wpAnyH_ready (rs := [7]) (by kernel_rfl) (by simp) ?_
  refine (AllReadyH.cons rfl (fun K hK => ?_) AllReadyH.nil)
  go_simp
  refine (HC2.out _).mono ?_
  rintro e Xr15_8 ⟨rfl, hb⟩
  have RA_r15_8_17 := Lib.hid (RA_r15_3_16.out.below hb RA_r15_3_16.out.lt)
  have RB_r15_8_17 := Lib.hid (RB_r15_3_16.out.below hb RB_r15_3_16.out.lt)
  have RC_r15_8_17 := Lib.hid (RC_r15_3_16.out.below hb RC_r15_3_16.out.lt)
  have RU_r15_8_17 := Lib.hid (RU_r15_3_16.out.below hb RU_r15_3_16.out.lt)
  have B_r15_8_17 := Lib.hid (B_r15_3_16.out.trans (hb.mono B_r15_3_16.out.size))
  clear hb RA_r15_3_16 RB_r15_3_16 RC_r15_3_16 RU_r15_3_16 B_r15_3_16
  refine hK _ _ ⟨RU_r15_8_17.out, RA_r15_8_17.out, RB_r15_8_17.out⟩ (fun _ => ?_)
  clear hK K
  try simp only [Act.put, List.setIfInBounds_toArray, List.set_cons_zero, List.set_cons_succ]
  refine wpAnyH_take (i := 8) (oi := ⟨some 34, _, _, _, _, _⟩) (v := ?vr15_9) rfl (by kernel_rfl) (by kernel_rfl) (by kernel_rfl) (fun _ _ _ h => h) (Or.inl ⟨by rfl, ?yr15_9⟩) ⟨RU_r15_8_17.out, RA_r15_8_17.out, RB_r15_8_17.out⟩ ?rr15_9
  case yr15_9 =>
    rintro w' hSw
    go_simp
    try with_reducible rfl
  try simp only [Act.put, List.setIfInBounds_toArray, List.set_cons_zero, List.set_cons_succ]
  refine wpAnyH_take (i := 9) (oi := ⟨some 35, _, _, _, _, _⟩) (v := ?vr15_10) rfl (by kernel_rfl) (by kernel_rfl) (by kernel_rfl) (fun _ _ _ h => h) (Or.inl ⟨by rfl, ?yr15_10⟩) ⟨RU_r15_8_17.out, RA_r15_8_17.out, RB_r15_8_17.out⟩ ?rr15_10
  case yr15_10 =>
    rintro w' hSw
    go_simp
    try with_reducible rfl
  try simp only [Act.put, List.setIfInBounds_toArray, List.set_cons_zero, List.set_cons_succ]
  refine wpAnyH_take (i := 10) (oi := ⟨some 36, _, _, _, _, _⟩) (v := ?vr15_11) rfl (by kernel_rfl) (by kernel_rfl) (by kernel_rfl) (fun _ _ _ h => h) (Or.inl ⟨by rfl, ?yr15_11⟩) ⟨RU_r15_8_17.out, RA_r15_8_17.out, RB_r15_8_17.out⟩ ?rr15_11
  case yr15_11 =>
    rintro w' hSw
    go_simp
    try with_reducible rfl
  try simp only [Act.put, List.setIfInBounds_toArray, List.set_cons_zero, List.set_cons_succ]
  refine wpAnyH_take (i := 11) (oi := ⟨some 37, _, _, _, _, _⟩) (v := ?vr15_12) rfl (by kernel_rfl) (by kernel_rfl) (by kernel_rfl) (fun _ _ _ h => h) (Or.inl ⟨by rfl, ?yr15_12⟩) ⟨RU_r15_8_17.out, RA_r15_8_17.out, RB_r15_8_17.out⟩ ?rr15_12
  case yr15_12 =>
    rintro w' hSw
    have k0 := (show Row w' _ _ _ from hSw.1).cell 0
    have k1 := (show Row w' _ _ _ from hSw.1).cell 1
    have k2 := (show Row w' _ _ _ from hSw.1).cell 2
    have k3 := (show Row w' _ _ _ from hSw.1).cell 3
    simp only [List.getElem?_cons_zero, List.getElem?_cons_succ] at k0 k1 k2 k3
    go_simp
    try with_reducible rfl
  try simp only [Act.put, List.setIfInBounds_toArray, List.set_cons_zero, List.set_cons_succ]
  refine wpAnyH_take (i := 12) (oi := ⟨some 38, _, _, _, _, _⟩) (v := ?vr15_13) rfl (by kernel_rfl) (by kernel_rfl) (by kernel_rfl) (fun _ _ _ h => h) (Or.inl ⟨by rfl, ?yr15_13⟩) ⟨RU_r15_8_17.out, RA_r15_8_17.out, RB_r15_8_17.out⟩ ?rr15_13
  case yr15_13 =>
    rintro w' hSw
    have k0 := (show Row w' _ _ _ from hSw.2.2).cell 0
    have k1 := (show Row w' _ _ _ from hSw.2.2).cell 1
    have k2 := (show Row w' _ _ _ from hSw.2.2).cell 2
    have k3 := (show Row w' _ _ _ from hSw.2.2).cell 3
    simp only [List.getElem?_cons_zero, List.getElem?_cons_succ] at k0 k1 k2 k3
    go_simp
    try with_reducible rfl
  try simp only [Act.put, List.setIfInBounds_toArray, List.set_cons_zero, List.set_cons_succ]
  refine wpAnyH_take (i := 13) (oi := ⟨some 39, _, _, _, _, _⟩) (v := ?vr15_14) rfl (by kernel_rfl) (by kernel_rfl) (by kernel_rfl) (fun _ _ _ h => h) (Or.inl ⟨by rfl, ?yr15_14⟩) ⟨RU_r15_8_17.out, RA_r15_8_17.out, RB_r15_8_17.out⟩ ?rr15_14
  case yr15_14 =>
    rintro w' hSw
    have k0 := (show Row w' _ _ _ from hSw.2.1).cell 0
    have k1 := (show Row w' _ _ _ from hSw.2.1).cell 1
    have k2 := (show Row w' _ _ _ from hSw.2.1).cell 2
    have k3 := (show Row w' _ _ _ from hSw.2.1).cell 3
    simp only [List.getElem?_cons_zero, List.getElem?_cons_succ] at k0 k1 k2 k3
    go_simp
    try with_reducible rfl
  try simp only [Act.put, List.setIfInBounds_toArray, List.set_cons_zero, List.set_cons_succ]
  refine wpAnyH_ready (rs := [14]) (by kernel_rfl) (by simp) ?_
  refine (AllReadyH.cons rfl (fun K hK => ?_) AllReadyH.nil)
  go_simp
  refine (HU2.out _).mono ?_
  rintro e Xr15_15 ⟨rfl, hb⟩
  have RA_r15_15_18 := Lib.hid (RA_r15_8_17.out.below hb RA_r15_8_17.out.lt)
  have RB_r15_15_18 := Lib.hid (RB_r15_8_17.out.below hb RB_r15_8_17.out.lt)
  have RC_r15_15_18 := Lib.hid (RC_r15_8_17.out.below hb RC_r15_8_17.out.lt)
  have RU_r15_15_18 := Lib.hid (RU_r15_8_17.out.below hb RU_r15_8_17.out.lt)
  have B_r15_15_18 := Lib.hid (B_r15_8_17.out.trans (hb.mono B_r15_8_17.out.size))
  clear hb RA_r15_8_17 RB_r15_8_17 RC_r15_8_17 RU_r15_8_17 B_r15_8_17
  refine hK _ _ ⟨RU_r15_15_18.out, RA_r15_15_18.out, RB_r15_15_18.out⟩ (fun _ => ?_)
  clear hK K
  try simp only [Act.put, List.setIfInBounds_toArray, List.set_cons_zero, List.set_cons_succ]
  refine wpAnyH_take (i := 15) (oi := ⟨some 41, _, _, _, _, _⟩) (v := ?vr15_16) rfl (by kernel_rfl) (by kernel_rfl) (by kernel_rfl) (fun _ _ _ h => h) (Or.inl ⟨by rfl, ?yr15_16⟩) ⟨RU_r15_15_18.out, RA_r15_15_18.out, RB_r15_15_18.out⟩ ?rr15_16
  case yr15_16 =>
    rintro w' hSw
    go_simp
    try with_reducible rfl
  try simp only [Act.put, List.setIfInBounds_toArray, List.set_cons_zero, List.set_cons_succ]
  refine wpAnyH_take (i := 16) (oi := ⟨some 42, _, _, _, _, _⟩) (v := ?vr15_17) rfl (by kernel_rfl) (by kernel_rfl) (by kernel_rfl) (fun _ _ _ h => h) (Or.inl ⟨by rfl, ?yr15_17⟩) ⟨RU_r15_15_18.out, RA_r15_15_18.out, RB_r15_15_18.out⟩ ?rr15_17
  case yr15_17 =>
    rintro w' hSw
    go_simp
    try with_reducible rfl
  try simp only [Act.put, List.setIfInBounds_toArray, List.set_cons_zero, List.set_cons_succ]
  refine wpAnyH_take (i := 17) (oi := ⟨some 43, _, _, _, _, _⟩) (v := ?vr15_18) rfl (by kernel_rfl) (by kernel_rfl) (by kernel_rfl) (fun _ _ _ h => h) (Or.inl ⟨by rfl, ?yr15_18⟩) ⟨RU_r15_15_18.out, RA_r15_15_18.out, RB_r15_15_18.out⟩ ?rr15_18
  case yr15_18 =>
    rintro w' hSw
    go_simp
    try with_reducible rfl
  try simp only [Act.put, List.setIfInBounds_toArray, List.set_cons_zero, List.set_cons_succ]
  refine wpAnyH_take (i := 18) (oi := ⟨some 44, _, _, _, _, _⟩) (v := ?vr15_19) rfl (by kernel_rfl) (by kernel_rfl) (by kernel_rfl) (fun _ _ _ h => h) (Or.inl ⟨by rfl, ?yr15_19⟩) ⟨RU_r15_15_18.out, RA_r15_15_18.out, RB_r15_15_18.out⟩ ?rr15_19
  case yr15_19 =>
    rintro w' hSw
    have k0 := (show Row w' _ _ _ from hSw.2.1).cell 0
    have k1 := (show Row w' _ _ _ from hSw.2.1).cell 1
    have k2 := (show Row w' _ _ _ from hSw.2.1).cell 2
    have k3 := (show Row w' _ _ _ from hSw.2.1).cell 3
    simp only [List.getElem?_cons_zero, List.getElem?_cons_succ] at k0 k1 k2 k3
    go_simp
    try with_reducible rfl
  try simp only [Act.put, List.setIfInBounds_toArray, List.set_cons_zero, List.set_cons_succ]
  refine wpAnyH_take (i := 19) (oi := ⟨some 45, _, _, _, _, _⟩) (v := ?vr15_20) rfl (by kernel_rfl) (by kernel_rfl) (by kernel_rfl) (fun _ _ _ h => h) (Or.inl ⟨by rfl, ?yr15_20⟩) ⟨RU_r15_15_18.out, RA_r15_15_18.out, RB_r15_15_18.out⟩ ?rr15_20
  case yr15_20 =>
    rintro w' hSw
    have k0 := (show Row w' _ _ _ from hSw.2.1).cell 0
    have k1 := (show Row w' _ _ _ from hSw.2.1).cell 1
    have k2 := (show Row w' _ _ _ from hSw.2.1).cell 2
    have k3 := (show Row w' _ _ _ from hSw.2.1).cell 3
    simp only [List.getElem?_cons_zero, List.getElem?_cons_succ] at k0 k1 k2 k3
    go_simp
    try with_reducible rfl
  try simp only [Act.put, List.setIfInBounds_toArray, List.set_cons_zero, List.set_cons_succ]
  refine wpAnyH_take (i := 21) (oi := ⟨some 47, _, _, _, _, _⟩) (v := ?vr15_21) rfl (by kernel_rfl) (by kernel_rfl) (by kernel_rfl) (fun _ _ _ h => h) (Or.inl ⟨by rfl, ?yr15_21⟩) ⟨RU_r15_15_18.out, RA_r15_15_18.out, RB_r15_15_18.out⟩ ?rr15_21
  case yr15_21 =>
    rintro w' hSw
    have k0 := (show Row w' _ _ _ from hSw.2.1).cell 0
    have k1 := (show Row w' _ _ _ from hSw.2.1).cell 1
    have k2 := (show Row w' _ _ _ from hSw.2.1).cell 2
    have k3 := (show Row w' _ _ _ from hSw.2.1).cell 3
    simp only [List.getElem?_cons_zero, List.getElem?_cons_succ] at k0 k1 k2 k3
    go_simp
    try with_reducible rfl
  try simp only [Act.put, List.setIfInBounds_toArray, List.set_cons_zero, List.set_cons_succ]
  refine wpAnyH_ready (rs := [20]) (by kernel_rfl) (by simp) ?_
  refine (AllReadyH.cons rfl (fun K hK => ?_) AllReadyH.nil)
  go_simp
  refine (HU3.out _).mono ?_
  rintro e Xr15_22 ⟨rfl, hb⟩
  have RA_r15_22_19 := Lib.hid (RA_r15_15_18.out.below hb RA_r15_15_18.out.lt)
  have RB_r15_22_19 := Lib.hid (RB_r15_15_18.out.below hb RB_r15_15_18.out.lt)
  have RC_r15_22_19 := Lib.hid (RC_r15_15_18.out.below hb RC_r15_15_18.out.lt)
  have RU_r15_22_19 := Lib.hid (RU_r15_15_18.out.below hb RU_r15_15_18.out.lt)
  have B_r15_22_19 := Lib.hid (B_r15_15_18.out.trans (hb.mono B_r15_15_18.out.size))
  clear hb RA_r15_15_18 RB_r15_15_18 RC_r15_15_18 RU_r15_15_18 B_r15_15_18
  refine hK _ _ ⟨RU_r15_22_19.out, RA_r15_22_19.out, RB_r15_22_19.out⟩ (fun _ => ?_)
  clear hK K
  try simp only [Act.put, List.setIfInBounds_toArray, List.set_cons_zero, List.set_cons_succ]
  refine wpAnyH_take (i := 22) (oi := ⟨some 48, _, _, _, _, _⟩) (v := ?vr15_23) rfl (by kernel_rfl) (by kernel_rfl) (by kernel_rfl) (fun _ _ _ h => h) (Or.inl ⟨by rfl, ?yr15_23⟩) ⟨RU_r15_22_19.out, RA_r15_22_19.out, RB_r15_22_19.out⟩ ?rr15_23
  case yr15_23 =>
    rintro w' hSw
    go_simp
    try with_reducible rfl
  try simp only [Act.put, List.setIfInBounds_toArray, List.set_cons_zero, List.set_cons_succ]
  refine wpAnyH_take (i := 23) (oi := ⟨some 49, _, _, _, _, _⟩) (v := ?vr15_24) rfl (by kernel_rfl) (by kernel_rfl) (by kernel_rfl) (fun _ _ _ h => h) (Or.inl ⟨by rfl, ?yr15_24⟩) ⟨RU_r15_22_19.out, RA_r15_22_19.out, RB_r15_22_19.out⟩ ?rr15_24
  case yr15_24 =>
    rintro w' hSw
    go_simp
    try with_reducible rfl
  try simp only [Act.put, List.setIfInBounds_toArray, List.set_cons_zero, List.set_cons_succ]
  refine wpAnyH_done (by kernel_rfl) ?_ _
  have cr15_22_21_0 := RC_r15_22_19.out.cell 0
  have cr15_22_21_1 := RC_r15_22_19.out.cell 1
  have cr15_22_21_2 := RC_r15_22_19.out.cell 2
  have cr15_22_21_3 := RC_r15_22_19.out.cell 3
  simp only [List.getElem?_cons_zero, List.getElem?_cons_succ] at cr15_22_21_0 cr15_22_21_1 cr15_22_21_2 cr15_22_21_3
  have cr15_22_22_0 := RA_r15_22_19.out.cell 0
  have cr15_22_22_1 := RA_r15_22_19.out.cell 1
  have cr15_22_22_2 := RA_r15_22_19.out.cell 2
  have cr15_22_22_3 := RA_r15_22_19.out.cell 3
  simp only [List.getElem?_cons_zero, List.getElem?_cons_succ] at cr15_22_22_0 cr15_22_22_1 cr15_22_22_2 cr15_22_22_3
  go_wp2_with fail
  refine (HD1.out _).mono ?_
  rintro e Wr15_22_20 ⟨rfl, hb⟩
  clear cr15_22_21_0 cr15_22_21_1 cr15_22_21_2 cr15_22_21_3 cr15_22_22_0 cr15_22_22_1 cr15_22_22_2 cr15_22_22_3
  have RA_r15_22_23 := Lib.hid (RA_r15_22_19.out.below hb RA_r15_22_19.out.lt)
  have RB_r15_22_23 := Lib.hid (RB_r15_22_19.out.below hb RB_r15_22_19.out.lt)
  have RC_r15_22_23 := Lib.hid (RC_r15_22_19.out.below hb RC_r15_22_19.out.lt)
  have RU_r15_22_23 := Lib.hid (RU_r15_22_19.out.below hb RU_r15_22_19.out.lt)
  have B_r15_22_23 := Lib.hid (B_r15_22_19.out.trans (hb.mono B_r15_22_19.out.size))
  clear hb RA_r15_22_19 RB_r15_22_19 RC_r15_22_19 RU_r15_22_19 B_r15_22_19
  have cr15_22_25_0 := RU_r15_22_23.out.cell 0
  have cr15_22_25_1 := RU_r15_22_23.out.cell 1
  have cr15_22_25_2 := RU_r15_22_23.out.cell 2
  have cr15_22_25_3 := RU_r15_22_23.out.cell 3
  simp only [List.getElem?_cons_zero, List.getElem?_cons_succ] at cr15_22_25_0 cr15_22_25_1 cr15_22_25_2 cr15_22_25_3
  have cr15_22_26_0 := RA_r15_22_23.out.cell 0
  have cr15_22_26_1 := RA_r15_22_23.out.cell 1
  have cr15_22_26_2 := RA_r15_22_23.out.cell 2
  have cr15_22_26_3 := RA_r15_22_23.out.cell 3
  simp only [List.getElem?_cons_zero, List.getElem?_cons_succ] at cr15_22_26_0 cr15_22_26_1 cr15_22_26_2 cr15_22_26_3
  go_wp2_with fail
  refine (HG.out _).mono ?_
  rintro e Wr15_22_24 ⟨rfl, hb⟩
  clear cr15_22_25_0 cr15_22_25_1 cr15_22_25_2 cr15_22_25_3 cr15_22_26_0 cr15_22_26_1 cr15_22_26_2 cr15_22_26_3
  have RA_r15_22_27 := Lib.hid (RA_r15_22_23.out.below hb RA_r15_22_23.out.lt)
  have RB_r15_22_27 := Lib.hid (RB_r15_22_23.out.below hb RB_r15_22_23.out.lt)
  have RC_r15_22_27 := Lib.hid (RC_r15_22_23.out.below hb RC_r15_22_23.out.lt)
  have RU_r15_22_27 := Lib.hid (RU_r15_22_23.out.below hb RU_r15_22_23.out.lt)
  have B_r15_22_27 := Lib.hid (B_r15_22_23.out.trans (hb.mono B_r15_22_23.out.size))
  clear hb RA_r15_22_23 RB_r15_22_23 RC_r15_22_23 RU_r15_22_23 B_r15_22_23
  go_wp2
  go_ret
  exact ⟨rfl, (B_r15_22_27.out.alloc B_r15_22_27.out.size _).alloc (by have := B_r15_22_27.out.size; simp; omega) _⟩

set_option maxHeartbeats 4000000 in
theorem walk_tf (x0 x1 y0 y1 u0 u1 v0 v1 z0 z1 t0 t1 : Int) (w : World) (kx : KOk x0 x1 y0 y1) (ku : KOk u0 u1 v0 v1) (ha : boxB x0 x1 y0 y1 = true) (hb : boxB u0 u1 v0 v1 = true) (hc1 : coverB z0 z1 t0 t1 x0 x1 y0 y1 = true) (hc2 : coverB z0 z1 t0 t1 u0 u1 v0 v1 = false) : Calls Try.prog 5 #[KV x0 x1 y0 y1, KV u0 u1 v0 v1, KV z0 z1 t0 t1] w fun e w' => e = .returned (.bool true) ∧ Below w.heap.size w w' := by
  have HW := Lib.hid wakes_any
  have HA := Lib.hid (box_any x0 x1 y0 y1)
  have HB := Lib.hid (box_any u0 u1 v0 v1)
  have HU := Lib.hid (Union_any x0 x1 y0 y1 u0 u1 v0 v1)
  have HU2 := Lib.hid (Union_any u0 u1 v0 v1 x0 x1 y0 y1)
  have HU3 := Lib.hid (Union_any x0 x1 y0 y1 x0 x1 y0 y1)
  unfold unionV at HU HU2 HU3
  rw [ha, hb, Bool.and_self, if_pos rfl] at HU HU2
  rw [ha, Bool.and_self, if_pos rfl, min_self, min_self, max_self, max_self] at HU3
  rw [min_comm u0, max_comm u1, min_comm v0, max_comm v1] at HU2
  rw [ha] at HA
  rw [hb] at HB
  have km := union_ok kx ku
  have m1 := min_le x0 u0
  have m2 := max_le x1 u1
  have m3 := min_le y0 v0
  have m4 := max_le y1 v1
  obtain ⟨q0, hq0⟩ : ∃ q, minI x0 u0 = q := ⟨_, rfl⟩
  obtain ⟨q1, hq1⟩ : ∃ q, maxI x1 u1 = q := ⟨_, rfl⟩
  obtain ⟨q2, hq2⟩ : ∃ q, minI y0 v0 = q := ⟨_, rfl⟩
  obtain ⟨q3, hq3⟩ : ∃ q, maxI y1 v1 = q := ⟨_, rfl⟩
  rw [hq0, hq1, hq2, hq3] at HU HU2 km
  rw [hq0] at m1
  rw [hq1] at m2
  rw [hq2] at m3
  rw [hq3] at m4
  clear hq0 hq1 hq2 hq3
  have hka := (box_iff _ _ _ _).1 ha
  have hkb := (box_iff _ _ _ _).1 hb
  have HC1 := Lib.hid (Covers_any q0 q1 q2 q3 x0 x1 y0 y1)
  rw [(cover_iff q0 q1 q2 q3 x0 x1 y0 y1).2 (by omega)] at HC1
  have HC2 := Lib.hid (Covers_any q0 q1 q2 q3 u0 u1 v0 v1)
  rw [(cover_iff q0 q1 q2 q3 u0 u1 v0 v1).2 (by omega)] at HC2
  have hbu : boxB q0 q1 q2 q3 = true := (box_iff _ _ _ _).2 (by omega)
  have HG := Lib.hid (Grows_yes (gh := 0) (gl := 0) (mh := 0) (ml := 0) km kx (by rw [hbu, ha]; rfl) (by rw [min_of q0 x0 (by omega), max_of q1 x1 (by omega), min_of q2 y0 (by omega), max_of q3 y1 (by omega), Nat.sub_self]; exact ⟨by omega, by omega, rfl⟩) (by rw [min_of q0 x0 (by omega), max_of q1 x1 (by omega), min_of q2 y0 (by omega), max_of q3 y1 (by omega), Nat.sub_self]; exact ⟨by omega, by omega, rfl⟩))
  have HD1 := Lib.hid (Covers_any z0 z1 t0 t1 x0 x1 y0 y1)
  have HD2 := Lib.hid (Covers_any z0 z1 t0 t1 u0 u1 v0 v1)
  rw [hc1] at HD1
  rw [hc2] at HD2
  clear hc1 hc2 ha hb hka hkb hbu km kx ku m1 m2 m3 m4
  go_enter Try.func5, Try.ntmps5
  go_upto_region 1 with fail
  have RA_1 := Lib.hid (((row_last w (w.heap.size) 23 [.int .i64 x0, .int .i64 x1, .int .i64 y0, .int .i64 y1] (by simp)).alloc (.cells #[.int .i64 u0, .int .i64 u1, .int .i64 v0, .int .i64 v1] 23)).alloc (.cells #[.int .i64 z0, .int .i64 z1, .int .i64 t0, .int .i64 t1] 23))
  have RB_1 := Lib.hid ((row_last (w.alloc (.cells #[.int .i64 x0, .int .i64 x1, .int .i64 y0, .int .i64 y1] 23)) (w.heap.size + 1) 23 [.int .i64 u0, .int .i64 u1, .int .i64 v0, .int .i64 v1] (by simp)).alloc (.cells #[.int .i64 z0, .int .i64 z1, .int .i64 t0, .int .i64 t1] 23))
  have RC_1 := Lib.hid (row_last ((w.alloc (.cells #[.int .i64 x0, .int .i64 x1, .int .i64 y0, .int .i64 y1] 23)).alloc (.cells #[.int .i64 u0, .int .i64 u1, .int .i64 v0, .int .i64 v1] 23)) (w.heap.size + 1 + 1) 23 [.int .i64 z0, .int .i64 z1, .int .i64 t0, .int .i64 t1] (by simp))
  have B_1 := Lib.hid ((((Below.refl w.heap.size w).alloc (Nat.le_refl _) (.cells #[.int .i64 x0, .int .i64 x1, .int .i64 y0, .int .i64 y1] 23)).alloc (by have := Nat.le_refl w.heap.size; simp <;> omega) (.cells #[.int .i64 u0, .int .i64 u1, .int .i64 v0, .int .i64 v1] 23)).alloc (by have := Nat.le_refl w.heap.size; simp <;> omega) (.cells #[.int .i64 z0, .int .i64 z1, .int .i64 t0, .int .i64 t1] 23))
  generalize (((w.alloc (.cells #[.int .i64 x0, .int .i64 x1, .int .i64 y0, .int .i64 y1] 23)).alloc (.cells #[.int .i64 u0, .int .i64 u1, .int .i64 v0, .int .i64 v1] 23)).alloc (.cells #[.int .i64 z0, .int .i64 z1, .int .i64 t0, .int .i64 t1] 23)) = V1 at RA_1 RB_1 RC_1 B_1 ⊢
  go_wp2_with fail
  refine (HW.out _).mono ?_
  rintro e W2 ⟨rfl, hb⟩
  have RA_3 := Lib.hid (RA_1.out.below hb RA_1.out.lt)
  have RB_3 := Lib.hid (RB_1.out.below hb RB_1.out.lt)
  have RC_3 := Lib.hid (RC_1.out.below hb RC_1.out.lt)
  have B_3 := Lib.hid (B_1.out.trans (hb.mono B_1.out.size))
  clear hb RA_1 RB_1 RC_1 B_1
  have c5_0 := RA_3.out.cell 0
  have c5_1 := RA_3.out.cell 1
  have c5_2 := RA_3.out.cell 2
  have c5_3 := RA_3.out.cell 3
  simp only [List.getElem?_cons_zero, List.getElem?_cons_succ] at c5_0 c5_1 c5_2 c5_3
  have c6_0 := RB_3.out.cell 0
  have c6_1 := RB_3.out.cell 1
  have c6_2 := RB_3.out.cell 2
  have c6_3 := RB_3.out.cell 3
  simp only [List.getElem?_cons_zero, List.getElem?_cons_succ] at c6_0 c6_1 c6_2 c6_3
  go_wp2_with fail
  refine (HU.out _).mono ?_
  rintro e W4 ⟨rfl, hb⟩
  clear c5_0 c5_1 c5_2 c5_3 c6_0 c6_1 c6_2 c6_3
  have RA_7 := Lib.hid (RA_3.out.below hb RA_3.out.lt)
  have RB_7 := Lib.hid (RB_3.out.below hb RB_3.out.lt)
  have RC_7 := Lib.hid (RC_3.out.below hb RC_3.out.lt)
  have B_7 := Lib.hid (B_3.out.trans (hb.mono B_3.out.size))
  clear hb RA_3 RB_3 RC_3 B_3
  go_upto_region 4 with fail
  have hlt8_0 : w.heap.size < W4.heap.size := RA_7.out.lt
  have hlt8_1 : w.heap.size + 1 < W4.heap.size := RB_7.out.lt
  have hlt8_2 : w.heap.size + 1 + 1 < W4.heap.size := RC_7.out.lt
  have RA_8 := Lib.hid (RA_7.out.alloc (.cells #[.int .i64 q0, .int .i64 q1, .int .i64 q2, .int .i64 q3] 23))
  have RB_8 := Lib.hid (RB_7.out.alloc (.cells #[.int .i64 q0, .int .i64 q1, .int .i64 q2, .int .i64 q3] 23))
  have RC_8 := Lib.hid (RC_7.out.alloc (.cells #[.int .i64 q0, .int .i64 q1, .int .i64 q2, .int .i64 q3] 23))
  have RU_8 := Lib.hid (row_last W4 (W4.heap.size) 23 [.int .i64 q0, .int .i64 q1, .int .i64 q2, .int .i64 q3] (by simp))
  have B_8 := Lib.hid (B_7.out.alloc B_7.out.size (.cells #[.int .i64 q0, .int .i64 q1, .int .i64 q2, .int .i64 q3] 23))
  clear RA_7 RB_7 RC_7 B_7
  generalize (W4.alloc (.cells #[.int .i64 q0, .int .i64 q1, .int .i64 q2, .int .i64 q3] 23)) = V8 at RA_8 RB_8 RC_8 RU_8 B_8 ⊢
  have c10_0 := RA_8.out.cell 0
  have c10_1 := RA_8.out.cell 1
  have c10_2 := RA_8.out.cell 2
  have c10_3 := RA_8.out.cell 3
  simp only [List.getElem?_cons_zero, List.getElem?_cons_succ] at c10_0 c10_1 c10_2 c10_3
  go_wp2_with fail
  refine (HA.out _).mono ?_
  rintro e W9 ⟨rfl, hb⟩
  clear c10_0 c10_1 c10_2 c10_3
  have RA_11 := Lib.hid (RA_8.out.below hb RA_8.out.lt)
  have RB_11 := Lib.hid (RB_8.out.below hb RB_8.out.lt)
  have RC_11 := Lib.hid (RC_8.out.below hb RC_8.out.lt)
  have RU_11 := Lib.hid (RU_8.out.below hb RU_8.out.lt)
  have B_11 := Lib.hid (B_8.out.trans (hb.mono B_8.out.size))
  clear hb RA_8 RB_8 RC_8 RU_8 B_8
  have c13_0 := RB_11.out.cell 0
  have c13_1 := RB_11.out.cell 1
  have c13_2 := RB_11.out.cell 2
  have c13_3 := RB_11.out.cell 3
  simp only [List.getElem?_cons_zero, List.getElem?_cons_succ] at c13_0 c13_1 c13_2 c13_3
  go_wp2_with fail
  refine (HB.out _).mono ?_
  rintro e W12 ⟨rfl, hb⟩
  clear c13_0 c13_1 c13_2 c13_3
  have RA_14 := Lib.hid (RA_11.out.below hb RA_11.out.lt)
  have RB_14 := Lib.hid (RB_11.out.below hb RB_11.out.lt)
  have RC_14 := Lib.hid (RC_11.out.below hb RC_11.out.lt)
  have RU_14 := Lib.hid (RU_11.out.below hb RU_11.out.lt)
  have B_14 := Lib.hid (B_11.out.trans (hb.mono B_11.out.size))
  clear hb RA_11 RB_11 RC_11 RU_11 B_11
  go_wp2_with fail
  refine wp_region_held_drew (S := fun w' => Row w' (W4.heap.size) 23 [.int .i64 q0, .int .i64 q1, .int .i64 q2, .int .i64 q3] ∧ Row w' (w.heap.size) 23 [.int .i64 x0, .int .i64 x1, .int .i64 y0, .int .i64 y1] ∧ Row w' (w.heap.size + 1) 23 [.int .i64 u0, .int .i64 u1, .int .i64 v0, .int .i64 v1]) (by kernel_rfl) ⟨RU_14.out.drew, RA_14.out.drew, RB_14.out.drew⟩ (fun hHeld => ?_)
  clear hHeld
  have RA_15 := Lib.hid RA_14.out.drew
  have RB_15 := Lib.hid RB_14.out.drew
  have RC_15 := Lib.hid RC_14.out.drew
  have RU_15 := Lib.hid RU_14.out.drew
  have B_15 := Lib.hid B_14.out.drew
  clear RA_14 RB_14 RC_14 RU_14 B_14
  generalize W12.drew = D15 at RA_15 RB_15 RC_15 RU_15 B_15 ⊢
  refine wpAnyH_take (i := 0) (oi := ⟨some 26, _, _, _, _, _⟩) (v := ?vr15_1) rfl (by kernel_rfl) (by kernel_rfl) (by kernel_rfl) (fun _ _ _ h => h) (Or.inl ⟨by rfl, ?yr15_1⟩) ⟨RU_15.out, RA_15.out, RB_15.out⟩ ?rr15_1
  case yr15_1 =>
    rintro w' hSw
    have k0 := (show Row w' _ _ _ from hSw.1).cell 0
    have k1 := (show Row w' _ _ _ from hSw.1).cell 1
    have k2 := (show Row w' _ _ _ from hSw.1).cell 2
    have k3 := (show Row w' _ _ _ from hSw.1).cell 3
    simp only [List.getElem?_cons_zero, List.getElem?_cons_succ] at k0 k1 k2 k3
    go_simp
    try with_reducible rfl
  try simp only [Act.put, List.setIfInBounds_toArray, List.set_cons_zero, List.set_cons_succ]
  refine wpAnyH_take (i := 1) (oi := ⟨some 27, _, _, _, _, _⟩) (v := ?vr15_2) rfl (by kernel_rfl) (by kernel_rfl) (by kernel_rfl) (fun _ _ _ h => h) (Or.inl ⟨by rfl, ?yr15_2⟩) ⟨RU_15.out, RA_15.out, RB_15.out⟩ ?rr15_2
  case yr15_2 =>
    rintro w' hSw
    have k0 := (show Row w' _ _ _ from hSw.2.1).cell 0
    have k1 := (show Row w' _ _ _ from hSw.2.1).cell 1
    have k2 := (show Row w' _ _ _ from hSw.2.1).cell 2
    have k3 := (show Row w' _ _ _ from hSw.2.1).cell 3
    simp only [List.getElem?_cons_zero, List.getElem?_cons_succ] at k0 k1 k2 k3
    go_simp
    try with_reducible rfl
  try simp only [Act.put, List.setIfInBounds_toArray, List.set_cons_zero, List.set_cons_succ]
  refine wpAnyH_ready (rs := [2]) (by kernel_rfl) (by simp) ?_
  refine (AllReadyH.cons rfl (fun K hK => ?_) AllReadyH.nil)
  go_simp
  refine (HC1.out _).mono ?_
  rintro e Xr15_3 ⟨rfl, hb⟩
  have RA_r15_3_16 := Lib.hid (RA_15.out.below hb RA_15.out.lt)
  have RB_r15_3_16 := Lib.hid (RB_15.out.below hb RB_15.out.lt)
  have RC_r15_3_16 := Lib.hid (RC_15.out.below hb RC_15.out.lt)
  have RU_r15_3_16 := Lib.hid (RU_15.out.below hb RU_15.out.lt)
  have B_r15_3_16 := Lib.hid (B_15.out.trans (hb.mono B_15.out.size))
  clear hb RA_15 RB_15 RC_15 RU_15 B_15
  refine hK _ _ ⟨RU_r15_3_16.out, RA_r15_3_16.out, RB_r15_3_16.out⟩ (fun _ => ?_)
  clear hK K
  try simp only [Act.put, List.setIfInBounds_toArray, List.set_cons_zero, List.set_cons_succ]
  refine wpAnyH_take (i := 3) (oi := ⟨some 29, _, _, _, _, _⟩) (v := ?vr15_4) rfl (by kernel_rfl) (by kernel_rfl) (by kernel_rfl) (fun _ _ _ h => h) (Or.inl ⟨by rfl, ?yr15_4⟩) ⟨RU_r15_3_16.out, RA_r15_3_16.out, RB_r15_3_16.out⟩ ?rr15_4
  case yr15_4 =>
    rintro w' hSw
    go_simp
    try with_reducible rfl
  try simp only [Act.put, List.setIfInBounds_toArray, List.set_cons_zero, List.set_cons_succ]
  refine wpAnyH_take (i := 4) (oi := ⟨some 30, _, _, _, _, _⟩) (v := ?vr15_5) rfl (by kernel_rfl) (by kernel_rfl) (by kernel_rfl) (fun _ _ _ h => h) (Or.inl ⟨by rfl, ?yr15_5⟩) ⟨RU_r15_3_16.out, RA_r15_3_16.out, RB_r15_3_16.out⟩ ?rr15_5
  case yr15_5 =>
    rintro w' hSw
    go_simp
    try with_reducible rfl
  try simp only [Act.put, List.setIfInBounds_toArray, List.set_cons_zero, List.set_cons_succ]
  refine wpAnyH_take (i := 5) (oi := ⟨some 31, _, _, _, _, _⟩) (v := ?vr15_6) rfl (by kernel_rfl) (by kernel_rfl) (by kernel_rfl) (fun _ _ _ h => h) (Or.inl ⟨by rfl, ?yr15_6⟩) ⟨RU_r15_3_16.out, RA_r15_3_16.out, RB_r15_3_16.out⟩ ?rr15_6
  case yr15_6 =>
    rintro w' hSw
    have k0 := (show Row w' _ _ _ from hSw.1).cell 0
    have k1 := (show Row w' _ _ _ from hSw.1).cell 1
    have k2 := (show Row w' _ _ _ from hSw.1).cell 2
    have k3 := (show Row w' _ _ _ from hSw.1).cell 3
    simp only [List.getElem?_cons_zero, List.getElem?_cons_succ] at k0 k1 k2 k3
    go_simp
    try with_reducible rfl
  try simp only [Act.put, List.setIfInBounds_toArray, List.set_cons_zero, List.set_cons_succ]
  refine wpAnyH_take (i := 6) (oi := ⟨some 32, _, _, _, _, _⟩) (v := ?vr15_7) rfl (by kernel_rfl) (by kernel_rfl) (by kernel_rfl) (fun _ _ _ h => h) (Or.inl ⟨by rfl, ?yr15_7⟩) ⟨RU_r15_3_16.out, RA_r15_3_16.out, RB_r15_3_16.out⟩ ?rr15_7
  case yr15_7 =>
    rintro w' hSw
    have k0 := (show Row w' _ _ _ from hSw.2.2).cell 0
    have k1 := (show Row w' _ _ _ from hSw.2.2).cell 1
    have k2 := (show Row w' _ _ _ from hSw.2.2).cell 2
    have k3 := (show Row w' _ _ _ from hSw.2.2).cell 3
    simp only [List.getElem?_cons_zero, List.getElem?_cons_succ] at k0 k1 k2 k3
    go_simp
    try with_reducible rfl
  try simp only [Act.put, List.setIfInBounds_toArray, List.set_cons_zero, List.set_cons_succ]
  refine wpAnyH_ready (rs := [7]) (by kernel_rfl) (by simp) ?_
  refine (AllReadyH.cons rfl (fun K hK => ?_) AllReadyH.nil)
  go_simp
  refine (HC2.out _).mono ?_
  rintro e Xr15_8 ⟨rfl, hb⟩
  have RA_r15_8_17 := Lib.hid (RA_r15_3_16.out.below hb RA_r15_3_16.out.lt)
  have RB_r15_8_17 := Lib.hid (RB_r15_3_16.out.below hb RB_r15_3_16.out.lt)
  have RC_r15_8_17 := Lib.hid (RC_r15_3_16.out.below hb RC_r15_3_16.out.lt)
  have RU_r15_8_17 := Lib.hid (RU_r15_3_16.out.below hb RU_r15_3_16.out.lt)
  have B_r15_8_17 := Lib.hid (B_r15_3_16.out.trans (hb.mono B_r15_3_16.out.size))
  clear hb RA_r15_3_16 RB_r15_3_16 RC_r15_3_16 RU_r15_3_16 B_r15_3_16
  refine hK _ _ ⟨RU_r15_8_17.out, RA_r15_8_17.out, RB_r15_8_17.out⟩ (fun _ => ?_)
  clear hK K
  try simp only [Act.put, List.setIfInBounds_toArray, List.set_cons_zero, List.set_cons_succ]
  refine wpAnyH_take (i := 8) (oi := ⟨some 34, _, _, _, _, _⟩) (v := ?vr15_9) rfl (by kernel_rfl) (by kernel_rfl) (by kernel_rfl) (fun _ _ _ h => h) (Or.inl ⟨by rfl, ?yr15_9⟩) ⟨RU_r15_8_17.out, RA_r15_8_17.out, RB_r15_8_17.out⟩ ?rr15_9
  case yr15_9 =>
    rintro w' hSw
    go_simp
    try with_reducible rfl
  try simp only [Act.put, List.setIfInBounds_toArray, List.set_cons_zero, List.set_cons_succ]
  refine wpAnyH_take (i := 9) (oi := ⟨some 35, _, _, _, _, _⟩) (v := ?vr15_10) rfl (by kernel_rfl) (by kernel_rfl) (by kernel_rfl) (fun _ _ _ h => h) (Or.inl ⟨by rfl, ?yr15_10⟩) ⟨RU_r15_8_17.out, RA_r15_8_17.out, RB_r15_8_17.out⟩ ?rr15_10
  case yr15_10 =>
    rintro w' hSw
    go_simp
    try with_reducible rfl
  try simp only [Act.put, List.setIfInBounds_toArray, List.set_cons_zero, List.set_cons_succ]
  refine wpAnyH_take (i := 10) (oi := ⟨some 36, _, _, _, _, _⟩) (v := ?vr15_11) rfl (by kernel_rfl) (by kernel_rfl) (by kernel_rfl) (fun _ _ _ h => h) (Or.inl ⟨by rfl, ?yr15_11⟩) ⟨RU_r15_8_17.out, RA_r15_8_17.out, RB_r15_8_17.out⟩ ?rr15_11
  case yr15_11 =>
    rintro w' hSw
    go_simp
    try with_reducible rfl
  try simp only [Act.put, List.setIfInBounds_toArray, List.set_cons_zero, List.set_cons_succ]
  refine wpAnyH_take (i := 11) (oi := ⟨some 37, _, _, _, _, _⟩) (v := ?vr15_12) rfl (by kernel_rfl) (by kernel_rfl) (by kernel_rfl) (fun _ _ _ h => h) (Or.inl ⟨by rfl, ?yr15_12⟩) ⟨RU_r15_8_17.out, RA_r15_8_17.out, RB_r15_8_17.out⟩ ?rr15_12
  case yr15_12 =>
    rintro w' hSw
    have k0 := (show Row w' _ _ _ from hSw.1).cell 0
    have k1 := (show Row w' _ _ _ from hSw.1).cell 1
    have k2 := (show Row w' _ _ _ from hSw.1).cell 2
    have k3 := (show Row w' _ _ _ from hSw.1).cell 3
    simp only [List.getElem?_cons_zero, List.getElem?_cons_succ] at k0 k1 k2 k3
    go_simp
    try with_reducible rfl
  try simp only [Act.put, List.setIfInBounds_toArray, List.set_cons_zero, List.set_cons_succ]
  refine wpAnyH_take (i := 12) (oi := ⟨some 38, _, _, _, _, _⟩) (v := ?vr15_13) rfl (by kernel_rfl) (by kernel_rfl) (by kernel_rfl) (fun _ _ _ h => h) (Or.inl ⟨by rfl, ?yr15_13⟩) ⟨RU_r15_8_17.out, RA_r15_8_17.out, RB_r15_8_17.out⟩ ?rr15_13
  case yr15_13 =>
    rintro w' hSw
    have k0 := (show Row w' _ _ _ from hSw.2.2).cell 0
    have k1 := (show Row w' _ _ _ from hSw.2.2).cell 1
    have k2 := (show Row w' _ _ _ from hSw.2.2).cell 2
    have k3 := (show Row w' _ _ _ from hSw.2.2).cell 3
    simp only [List.getElem?_cons_zero, List.getElem?_cons_succ] at k0 k1 k2 k3
    go_simp
    try with_reducible rfl
  try simp only [Act.put, List.setIfInBounds_toArray, List.set_cons_zero, List.set_cons_succ]
  refine wpAnyH_take (i := 13) (oi := ⟨some 39, _, _, _, _, _⟩) (v := ?vr15_14) rfl (by kernel_rfl) (by kernel_rfl) (by kernel_rfl) (fun _ _ _ h => h) (Or.inl ⟨by rfl, ?yr15_14⟩) ⟨RU_r15_8_17.out, RA_r15_8_17.out, RB_r15_8_17.out⟩ ?rr15_14
  case yr15_14 =>
    rintro w' hSw
    have k0 := (show Row w' _ _ _ from hSw.2.1).cell 0
    have k1 := (show Row w' _ _ _ from hSw.2.1).cell 1
    have k2 := (show Row w' _ _ _ from hSw.2.1).cell 2
    have k3 := (show Row w' _ _ _ from hSw.2.1).cell 3
    simp only [List.getElem?_cons_zero, List.getElem?_cons_succ] at k0 k1 k2 k3
    go_simp
    try with_reducible rfl
  try simp only [Act.put, List.setIfInBounds_toArray, List.set_cons_zero, List.set_cons_succ]
  refine wpAnyH_ready (rs := [14]) (by kernel_rfl) (by simp) ?_
  refine (AllReadyH.cons rfl (fun K hK => ?_) AllReadyH.nil)
  go_simp
  refine (HU2.out _).mono ?_
  rintro e Xr15_15 ⟨rfl, hb⟩
  have RA_r15_15_18 := Lib.hid (RA_r15_8_17.out.below hb RA_r15_8_17.out.lt)
  have RB_r15_15_18 := Lib.hid (RB_r15_8_17.out.below hb RB_r15_8_17.out.lt)
  have RC_r15_15_18 := Lib.hid (RC_r15_8_17.out.below hb RC_r15_8_17.out.lt)
  have RU_r15_15_18 := Lib.hid (RU_r15_8_17.out.below hb RU_r15_8_17.out.lt)
  have B_r15_15_18 := Lib.hid (B_r15_8_17.out.trans (hb.mono B_r15_8_17.out.size))
  clear hb RA_r15_8_17 RB_r15_8_17 RC_r15_8_17 RU_r15_8_17 B_r15_8_17
  refine hK _ _ ⟨RU_r15_15_18.out, RA_r15_15_18.out, RB_r15_15_18.out⟩ (fun _ => ?_)
  clear hK K
  try simp only [Act.put, List.setIfInBounds_toArray, List.set_cons_zero, List.set_cons_succ]
  refine wpAnyH_take (i := 15) (oi := ⟨some 41, _, _, _, _, _⟩) (v := ?vr15_16) rfl (by kernel_rfl) (by kernel_rfl) (by kernel_rfl) (fun _ _ _ h => h) (Or.inl ⟨by rfl, ?yr15_16⟩) ⟨RU_r15_15_18.out, RA_r15_15_18.out, RB_r15_15_18.out⟩ ?rr15_16
  case yr15_16 =>
    rintro w' hSw
    go_simp
    try with_reducible rfl
  try simp only [Act.put, List.setIfInBounds_toArray, List.set_cons_zero, List.set_cons_succ]
  refine wpAnyH_take (i := 16) (oi := ⟨some 42, _, _, _, _, _⟩) (v := ?vr15_17) rfl (by kernel_rfl) (by kernel_rfl) (by kernel_rfl) (fun _ _ _ h => h) (Or.inl ⟨by rfl, ?yr15_17⟩) ⟨RU_r15_15_18.out, RA_r15_15_18.out, RB_r15_15_18.out⟩ ?rr15_17
  case yr15_17 =>
    rintro w' hSw
    go_simp
    try with_reducible rfl
  try simp only [Act.put, List.setIfInBounds_toArray, List.set_cons_zero, List.set_cons_succ]
  refine wpAnyH_take (i := 17) (oi := ⟨some 43, _, _, _, _, _⟩) (v := ?vr15_18) rfl (by kernel_rfl) (by kernel_rfl) (by kernel_rfl) (fun _ _ _ h => h) (Or.inl ⟨by rfl, ?yr15_18⟩) ⟨RU_r15_15_18.out, RA_r15_15_18.out, RB_r15_15_18.out⟩ ?rr15_18
  case yr15_18 =>
    rintro w' hSw
    go_simp
    try with_reducible rfl
  try simp only [Act.put, List.setIfInBounds_toArray, List.set_cons_zero, List.set_cons_succ]
  refine wpAnyH_take (i := 18) (oi := ⟨some 44, _, _, _, _, _⟩) (v := ?vr15_19) rfl (by kernel_rfl) (by kernel_rfl) (by kernel_rfl) (fun _ _ _ h => h) (Or.inl ⟨by rfl, ?yr15_19⟩) ⟨RU_r15_15_18.out, RA_r15_15_18.out, RB_r15_15_18.out⟩ ?rr15_19
  case yr15_19 =>
    rintro w' hSw
    have k0 := (show Row w' _ _ _ from hSw.2.1).cell 0
    have k1 := (show Row w' _ _ _ from hSw.2.1).cell 1
    have k2 := (show Row w' _ _ _ from hSw.2.1).cell 2
    have k3 := (show Row w' _ _ _ from hSw.2.1).cell 3
    simp only [List.getElem?_cons_zero, List.getElem?_cons_succ] at k0 k1 k2 k3
    go_simp
    try with_reducible rfl
  try simp only [Act.put, List.setIfInBounds_toArray, List.set_cons_zero, List.set_cons_succ]
  refine wpAnyH_take (i := 19) (oi := ⟨some 45, _, _, _, _, _⟩) (v := ?vr15_20) rfl (by kernel_rfl) (by kernel_rfl) (by kernel_rfl) (fun _ _ _ h => h) (Or.inl ⟨by rfl, ?yr15_20⟩) ⟨RU_r15_15_18.out, RA_r15_15_18.out, RB_r15_15_18.out⟩ ?rr15_20
  case yr15_20 =>
    rintro w' hSw
    have k0 := (show Row w' _ _ _ from hSw.2.1).cell 0
    have k1 := (show Row w' _ _ _ from hSw.2.1).cell 1
    have k2 := (show Row w' _ _ _ from hSw.2.1).cell 2
    have k3 := (show Row w' _ _ _ from hSw.2.1).cell 3
    simp only [List.getElem?_cons_zero, List.getElem?_cons_succ] at k0 k1 k2 k3
    go_simp
    try with_reducible rfl
  try simp only [Act.put, List.setIfInBounds_toArray, List.set_cons_zero, List.set_cons_succ]
  refine wpAnyH_take (i := 21) (oi := ⟨some 47, _, _, _, _, _⟩) (v := ?vr15_21) rfl (by kernel_rfl) (by kernel_rfl) (by kernel_rfl) (fun _ _ _ h => h) (Or.inl ⟨by rfl, ?yr15_21⟩) ⟨RU_r15_15_18.out, RA_r15_15_18.out, RB_r15_15_18.out⟩ ?rr15_21
  case yr15_21 =>
    rintro w' hSw
    have k0 := (show Row w' _ _ _ from hSw.2.1).cell 0
    have k1 := (show Row w' _ _ _ from hSw.2.1).cell 1
    have k2 := (show Row w' _ _ _ from hSw.2.1).cell 2
    have k3 := (show Row w' _ _ _ from hSw.2.1).cell 3
    simp only [List.getElem?_cons_zero, List.getElem?_cons_succ] at k0 k1 k2 k3
    go_simp
    try with_reducible rfl
  try simp only [Act.put, List.setIfInBounds_toArray, List.set_cons_zero, List.set_cons_succ]
  refine wpAnyH_ready (rs := [20]) (by kernel_rfl) (by simp) ?_
  refine (AllReadyH.cons rfl (fun K hK => ?_) AllReadyH.nil)
  go_simp
  refine (HU3.out _).mono ?_
  rintro e Xr15_22 ⟨rfl, hb⟩
  have RA_r15_22_19 := Lib.hid (RA_r15_15_18.out.below hb RA_r15_15_18.out.lt)
  have RB_r15_22_19 := Lib.hid (RB_r15_15_18.out.below hb RB_r15_15_18.out.lt)
  have RC_r15_22_19 := Lib.hid (RC_r15_15_18.out.below hb RC_r15_15_18.out.lt)
  have RU_r15_22_19 := Lib.hid (RU_r15_15_18.out.below hb RU_r15_15_18.out.lt)
  have B_r15_22_19 := Lib.hid (B_r15_15_18.out.trans (hb.mono B_r15_15_18.out.size))
  clear hb RA_r15_15_18 RB_r15_15_18 RC_r15_15_18 RU_r15_15_18 B_r15_15_18
  refine hK _ _ ⟨RU_r15_22_19.out, RA_r15_22_19.out, RB_r15_22_19.out⟩ (fun _ => ?_)
  clear hK K
  try simp only [Act.put, List.setIfInBounds_toArray, List.set_cons_zero, List.set_cons_succ]
  refine wpAnyH_take (i := 22) (oi := ⟨some 48, _, _, _, _, _⟩) (v := ?vr15_23) rfl (by kernel_rfl) (by kernel_rfl) (by kernel_rfl) (fun _ _ _ h => h) (Or.inl ⟨by rfl, ?yr15_23⟩) ⟨RU_r15_22_19.out, RA_r15_22_19.out, RB_r15_22_19.out⟩ ?rr15_23
  case yr15_23 =>
    rintro w' hSw
    go_simp
    try with_reducible rfl
  try simp only [Act.put, List.setIfInBounds_toArray, List.set_cons_zero, List.set_cons_succ]
  refine wpAnyH_take (i := 23) (oi := ⟨some 49, _, _, _, _, _⟩) (v := ?vr15_24) rfl (by kernel_rfl) (by kernel_rfl) (by kernel_rfl) (fun _ _ _ h => h) (Or.inl ⟨by rfl, ?yr15_24⟩) ⟨RU_r15_22_19.out, RA_r15_22_19.out, RB_r15_22_19.out⟩ ?rr15_24
  case yr15_24 =>
    rintro w' hSw
    go_simp
    try with_reducible rfl
  try simp only [Act.put, List.setIfInBounds_toArray, List.set_cons_zero, List.set_cons_succ]
  refine wpAnyH_done (by kernel_rfl) ?_ _
  have cr15_22_21_0 := RC_r15_22_19.out.cell 0
  have cr15_22_21_1 := RC_r15_22_19.out.cell 1
  have cr15_22_21_2 := RC_r15_22_19.out.cell 2
  have cr15_22_21_3 := RC_r15_22_19.out.cell 3
  simp only [List.getElem?_cons_zero, List.getElem?_cons_succ] at cr15_22_21_0 cr15_22_21_1 cr15_22_21_2 cr15_22_21_3
  have cr15_22_22_0 := RA_r15_22_19.out.cell 0
  have cr15_22_22_1 := RA_r15_22_19.out.cell 1
  have cr15_22_22_2 := RA_r15_22_19.out.cell 2
  have cr15_22_22_3 := RA_r15_22_19.out.cell 3
  simp only [List.getElem?_cons_zero, List.getElem?_cons_succ] at cr15_22_22_0 cr15_22_22_1 cr15_22_22_2 cr15_22_22_3
  go_wp2_with fail
  refine (HD1.out _).mono ?_
  rintro e Wr15_22_20 ⟨rfl, hb⟩
  clear cr15_22_21_0 cr15_22_21_1 cr15_22_21_2 cr15_22_21_3 cr15_22_22_0 cr15_22_22_1 cr15_22_22_2 cr15_22_22_3
  have RA_r15_22_23 := Lib.hid (RA_r15_22_19.out.below hb RA_r15_22_19.out.lt)
  have RB_r15_22_23 := Lib.hid (RB_r15_22_19.out.below hb RB_r15_22_19.out.lt)
  have RC_r15_22_23 := Lib.hid (RC_r15_22_19.out.below hb RC_r15_22_19.out.lt)
  have RU_r15_22_23 := Lib.hid (RU_r15_22_19.out.below hb RU_r15_22_19.out.lt)
  have B_r15_22_23 := Lib.hid (B_r15_22_19.out.trans (hb.mono B_r15_22_19.out.size))
  clear hb RA_r15_22_19 RB_r15_22_19 RC_r15_22_19 RU_r15_22_19 B_r15_22_19
  have cr15_22_25_0 := RC_r15_22_23.out.cell 0
  have cr15_22_25_1 := RC_r15_22_23.out.cell 1
  have cr15_22_25_2 := RC_r15_22_23.out.cell 2
  have cr15_22_25_3 := RC_r15_22_23.out.cell 3
  simp only [List.getElem?_cons_zero, List.getElem?_cons_succ] at cr15_22_25_0 cr15_22_25_1 cr15_22_25_2 cr15_22_25_3
  have cr15_22_26_0 := RB_r15_22_23.out.cell 0
  have cr15_22_26_1 := RB_r15_22_23.out.cell 1
  have cr15_22_26_2 := RB_r15_22_23.out.cell 2
  have cr15_22_26_3 := RB_r15_22_23.out.cell 3
  simp only [List.getElem?_cons_zero, List.getElem?_cons_succ] at cr15_22_26_0 cr15_22_26_1 cr15_22_26_2 cr15_22_26_3
  go_wp2_with fail
  refine (HD2.out _).mono ?_
  rintro e Wr15_22_24 ⟨rfl, hb⟩
  clear cr15_22_25_0 cr15_22_25_1 cr15_22_25_2 cr15_22_25_3 cr15_22_26_0 cr15_22_26_1 cr15_22_26_2 cr15_22_26_3
  have RA_r15_22_27 := Lib.hid (RA_r15_22_23.out.below hb RA_r15_22_23.out.lt)
  have RB_r15_22_27 := Lib.hid (RB_r15_22_23.out.below hb RB_r15_22_23.out.lt)
  have RC_r15_22_27 := Lib.hid (RC_r15_22_23.out.below hb RC_r15_22_23.out.lt)
  have RU_r15_22_27 := Lib.hid (RU_r15_22_23.out.below hb RU_r15_22_23.out.lt)
  have B_r15_22_27 := Lib.hid (B_r15_22_23.out.trans (hb.mono B_r15_22_23.out.size))
  clear hb RA_r15_22_23 RB_r15_22_23 RC_r15_22_23 RU_r15_22_23 B_r15_22_23
  have cr15_22_29_0 := RU_r15_22_27.out.cell 0
  have cr15_22_29_1 := RU_r15_22_27.out.cell 1
  have cr15_22_29_2 := RU_r15_22_27.out.cell 2
  have cr15_22_29_3 := RU_r15_22_27.out.cell 3
  simp only [List.getElem?_cons_zero, List.getElem?_cons_succ] at cr15_22_29_0 cr15_22_29_1 cr15_22_29_2 cr15_22_29_3
  have cr15_22_30_0 := RA_r15_22_27.out.cell 0
  have cr15_22_30_1 := RA_r15_22_27.out.cell 1
  have cr15_22_30_2 := RA_r15_22_27.out.cell 2
  have cr15_22_30_3 := RA_r15_22_27.out.cell 3
  simp only [List.getElem?_cons_zero, List.getElem?_cons_succ] at cr15_22_30_0 cr15_22_30_1 cr15_22_30_2 cr15_22_30_3
  go_wp2_with fail
  refine (HG.out _).mono ?_
  rintro e Wr15_22_28 ⟨rfl, hb⟩
  clear cr15_22_29_0 cr15_22_29_1 cr15_22_29_2 cr15_22_29_3 cr15_22_30_0 cr15_22_30_1 cr15_22_30_2 cr15_22_30_3
  have RA_r15_22_31 := Lib.hid (RA_r15_22_27.out.below hb RA_r15_22_27.out.lt)
  have RB_r15_22_31 := Lib.hid (RB_r15_22_27.out.below hb RB_r15_22_27.out.lt)
  have RC_r15_22_31 := Lib.hid (RC_r15_22_27.out.below hb RC_r15_22_27.out.lt)
  have RU_r15_22_31 := Lib.hid (RU_r15_22_27.out.below hb RU_r15_22_27.out.lt)
  have B_r15_22_31 := Lib.hid (B_r15_22_27.out.trans (hb.mono B_r15_22_27.out.size))
  clear hb RA_r15_22_27 RB_r15_22_27 RC_r15_22_27 RU_r15_22_27 B_r15_22_27
  go_wp2
  go_ret
  exact ⟨rfl, (B_r15_22_31.out.alloc B_r15_22_31.out.size _).alloc (by have := B_r15_22_31.out.size; simp; omega) _⟩

set_option maxHeartbeats 4000000 in
theorem walk_tt (x0 x1 y0 y1 u0 u1 v0 v1 z0 z1 t0 t1 : Int) (w : World) (kx : KOk x0 x1 y0 y1) (ku : KOk u0 u1 v0 v1) (ha : boxB x0 x1 y0 y1 = true) (hb : boxB u0 u1 v0 v1 = true) (hc1 : coverB z0 z1 t0 t1 x0 x1 y0 y1 = true) (hc2 : coverB z0 z1 t0 t1 u0 u1 v0 v1 = true) : Calls Try.prog 5 #[KV x0 x1 y0 y1, KV u0 u1 v0 v1, KV z0 z1 t0 t1] w fun e w' => e = .returned (.bool true) ∧ Below w.heap.size w w' := by
  have HW := Lib.hid wakes_any
  have HA := Lib.hid (box_any x0 x1 y0 y1)
  have HB := Lib.hid (box_any u0 u1 v0 v1)
  have HU := Lib.hid (Union_any x0 x1 y0 y1 u0 u1 v0 v1)
  have HU2 := Lib.hid (Union_any u0 u1 v0 v1 x0 x1 y0 y1)
  have HU3 := Lib.hid (Union_any x0 x1 y0 y1 x0 x1 y0 y1)
  unfold unionV at HU HU2 HU3
  rw [ha, hb, Bool.and_self, if_pos rfl] at HU HU2
  rw [ha, Bool.and_self, if_pos rfl, min_self, min_self, max_self, max_self] at HU3
  rw [min_comm u0, max_comm u1, min_comm v0, max_comm v1] at HU2
  rw [ha] at HA
  rw [hb] at HB
  have km := union_ok kx ku
  have m1 := min_le x0 u0
  have m2 := max_le x1 u1
  have m3 := min_le y0 v0
  have m4 := max_le y1 v1
  obtain ⟨q0, hq0⟩ : ∃ q, minI x0 u0 = q := ⟨_, rfl⟩
  obtain ⟨q1, hq1⟩ : ∃ q, maxI x1 u1 = q := ⟨_, rfl⟩
  obtain ⟨q2, hq2⟩ : ∃ q, minI y0 v0 = q := ⟨_, rfl⟩
  obtain ⟨q3, hq3⟩ : ∃ q, maxI y1 v1 = q := ⟨_, rfl⟩
  rw [hq0, hq1, hq2, hq3] at HU HU2 km
  rw [hq0] at m1
  rw [hq1] at m2
  rw [hq2] at m3
  rw [hq3] at m4
  clear hq0 hq1 hq2 hq3
  have hka := (box_iff _ _ _ _).1 ha
  have hkb := (box_iff _ _ _ _).1 hb
  have HC1 := Lib.hid (Covers_any q0 q1 q2 q3 x0 x1 y0 y1)
  rw [(cover_iff q0 q1 q2 q3 x0 x1 y0 y1).2 (by omega)] at HC1
  have HC2 := Lib.hid (Covers_any q0 q1 q2 q3 u0 u1 v0 v1)
  rw [(cover_iff q0 q1 q2 q3 u0 u1 v0 v1).2 (by omega)] at HC2
  have hbu : boxB q0 q1 q2 q3 = true := (box_iff _ _ _ _).2 (by omega)
  have HG := Lib.hid (Grows_yes (gh := 0) (gl := 0) (mh := 0) (ml := 0) km kx (by rw [hbu, ha]; rfl) (by rw [min_of q0 x0 (by omega), max_of q1 x1 (by omega), min_of q2 y0 (by omega), max_of q3 y1 (by omega), Nat.sub_self]; exact ⟨by omega, by omega, rfl⟩) (by rw [min_of q0 x0 (by omega), max_of q1 x1 (by omega), min_of q2 y0 (by omega), max_of q3 y1 (by omega), Nat.sub_self]; exact ⟨by omega, by omega, rfl⟩))
  have HD1 := Lib.hid (Covers_any z0 z1 t0 t1 x0 x1 y0 y1)
  have HD2 := Lib.hid (Covers_any z0 z1 t0 t1 u0 u1 v0 v1)
  rw [hc1] at HD1
  rw [hc2] at HD2
  have HD3 := Lib.hid (Covers_any z0 z1 t0 t1 q0 q1 q2 q3)
  rw [(cover_iff z0 z1 t0 t1 q0 q1 q2 q3).2 (by have h1 := (cover_iff _ _ _ _ _ _ _ _).1 hc1; have h2 := (cover_iff _ _ _ _ _ _ _ _).1 hc2; omega)] at HD3
  clear hc1 hc2 ha hb hka hkb hbu km kx ku m1 m2 m3 m4
  go_enter Try.func5, Try.ntmps5
  go_upto_region 1 with fail
  have RA_1 := Lib.hid (((row_last w (w.heap.size) 23 [.int .i64 x0, .int .i64 x1, .int .i64 y0, .int .i64 y1] (by simp)).alloc (.cells #[.int .i64 u0, .int .i64 u1, .int .i64 v0, .int .i64 v1] 23)).alloc (.cells #[.int .i64 z0, .int .i64 z1, .int .i64 t0, .int .i64 t1] 23))
  have RB_1 := Lib.hid ((row_last (w.alloc (.cells #[.int .i64 x0, .int .i64 x1, .int .i64 y0, .int .i64 y1] 23)) (w.heap.size + 1) 23 [.int .i64 u0, .int .i64 u1, .int .i64 v0, .int .i64 v1] (by simp)).alloc (.cells #[.int .i64 z0, .int .i64 z1, .int .i64 t0, .int .i64 t1] 23))
  have RC_1 := Lib.hid (row_last ((w.alloc (.cells #[.int .i64 x0, .int .i64 x1, .int .i64 y0, .int .i64 y1] 23)).alloc (.cells #[.int .i64 u0, .int .i64 u1, .int .i64 v0, .int .i64 v1] 23)) (w.heap.size + 1 + 1) 23 [.int .i64 z0, .int .i64 z1, .int .i64 t0, .int .i64 t1] (by simp))
  have B_1 := Lib.hid ((((Below.refl w.heap.size w).alloc (Nat.le_refl _) (.cells #[.int .i64 x0, .int .i64 x1, .int .i64 y0, .int .i64 y1] 23)).alloc (by have := Nat.le_refl w.heap.size; simp <;> omega) (.cells #[.int .i64 u0, .int .i64 u1, .int .i64 v0, .int .i64 v1] 23)).alloc (by have := Nat.le_refl w.heap.size; simp <;> omega) (.cells #[.int .i64 z0, .int .i64 z1, .int .i64 t0, .int .i64 t1] 23))
  generalize (((w.alloc (.cells #[.int .i64 x0, .int .i64 x1, .int .i64 y0, .int .i64 y1] 23)).alloc (.cells #[.int .i64 u0, .int .i64 u1, .int .i64 v0, .int .i64 v1] 23)).alloc (.cells #[.int .i64 z0, .int .i64 z1, .int .i64 t0, .int .i64 t1] 23)) = V1 at RA_1 RB_1 RC_1 B_1 ⊢
  go_wp2_with fail
  refine (HW.out _).mono ?_
  rintro e W2 ⟨rfl, hb⟩
  have RA_3 := Lib.hid (RA_1.out.below hb RA_1.out.lt)
  have RB_3 := Lib.hid (RB_1.out.below hb RB_1.out.lt)
  have RC_3 := Lib.hid (RC_1.out.below hb RC_1.out.lt)
  have B_3 := Lib.hid (B_1.out.trans (hb.mono B_1.out.size))
  clear hb RA_1 RB_1 RC_1 B_1
  have c5_0 := RA_3.out.cell 0
  have c5_1 := RA_3.out.cell 1
  have c5_2 := RA_3.out.cell 2
  have c5_3 := RA_3.out.cell 3
  simp only [List.getElem?_cons_zero, List.getElem?_cons_succ] at c5_0 c5_1 c5_2 c5_3
  have c6_0 := RB_3.out.cell 0
  have c6_1 := RB_3.out.cell 1
  have c6_2 := RB_3.out.cell 2
  have c6_3 := RB_3.out.cell 3
  simp only [List.getElem?_cons_zero, List.getElem?_cons_succ] at c6_0 c6_1 c6_2 c6_3
  go_wp2_with fail
  refine (HU.out _).mono ?_
  rintro e W4 ⟨rfl, hb⟩
  clear c5_0 c5_1 c5_2 c5_3 c6_0 c6_1 c6_2 c6_3
  have RA_7 := Lib.hid (RA_3.out.below hb RA_3.out.lt)
  have RB_7 := Lib.hid (RB_3.out.below hb RB_3.out.lt)
  have RC_7 := Lib.hid (RC_3.out.below hb RC_3.out.lt)
  have B_7 := Lib.hid (B_3.out.trans (hb.mono B_3.out.size))
  clear hb RA_3 RB_3 RC_3 B_3
  go_upto_region 4 with fail
  have hlt8_0 : w.heap.size < W4.heap.size := RA_7.out.lt
  have hlt8_1 : w.heap.size + 1 < W4.heap.size := RB_7.out.lt
  have hlt8_2 : w.heap.size + 1 + 1 < W4.heap.size := RC_7.out.lt
  have RA_8 := Lib.hid (RA_7.out.alloc (.cells #[.int .i64 q0, .int .i64 q1, .int .i64 q2, .int .i64 q3] 23))
  have RB_8 := Lib.hid (RB_7.out.alloc (.cells #[.int .i64 q0, .int .i64 q1, .int .i64 q2, .int .i64 q3] 23))
  have RC_8 := Lib.hid (RC_7.out.alloc (.cells #[.int .i64 q0, .int .i64 q1, .int .i64 q2, .int .i64 q3] 23))
  have RU_8 := Lib.hid (row_last W4 (W4.heap.size) 23 [.int .i64 q0, .int .i64 q1, .int .i64 q2, .int .i64 q3] (by simp))
  have B_8 := Lib.hid (B_7.out.alloc B_7.out.size (.cells #[.int .i64 q0, .int .i64 q1, .int .i64 q2, .int .i64 q3] 23))
  clear RA_7 RB_7 RC_7 B_7
  generalize (W4.alloc (.cells #[.int .i64 q0, .int .i64 q1, .int .i64 q2, .int .i64 q3] 23)) = V8 at RA_8 RB_8 RC_8 RU_8 B_8 ⊢
  have c10_0 := RA_8.out.cell 0
  have c10_1 := RA_8.out.cell 1
  have c10_2 := RA_8.out.cell 2
  have c10_3 := RA_8.out.cell 3
  simp only [List.getElem?_cons_zero, List.getElem?_cons_succ] at c10_0 c10_1 c10_2 c10_3
  go_wp2_with fail
  refine (HA.out _).mono ?_
  rintro e W9 ⟨rfl, hb⟩
  clear c10_0 c10_1 c10_2 c10_3
  have RA_11 := Lib.hid (RA_8.out.below hb RA_8.out.lt)
  have RB_11 := Lib.hid (RB_8.out.below hb RB_8.out.lt)
  have RC_11 := Lib.hid (RC_8.out.below hb RC_8.out.lt)
  have RU_11 := Lib.hid (RU_8.out.below hb RU_8.out.lt)
  have B_11 := Lib.hid (B_8.out.trans (hb.mono B_8.out.size))
  clear hb RA_8 RB_8 RC_8 RU_8 B_8
  have c13_0 := RB_11.out.cell 0
  have c13_1 := RB_11.out.cell 1
  have c13_2 := RB_11.out.cell 2
  have c13_3 := RB_11.out.cell 3
  simp only [List.getElem?_cons_zero, List.getElem?_cons_succ] at c13_0 c13_1 c13_2 c13_3
  go_wp2_with fail
  refine (HB.out _).mono ?_
  rintro e W12 ⟨rfl, hb⟩
  clear c13_0 c13_1 c13_2 c13_3
  have RA_14 := Lib.hid (RA_11.out.below hb RA_11.out.lt)
  have RB_14 := Lib.hid (RB_11.out.below hb RB_11.out.lt)
  have RC_14 := Lib.hid (RC_11.out.below hb RC_11.out.lt)
  have RU_14 := Lib.hid (RU_11.out.below hb RU_11.out.lt)
  have B_14 := Lib.hid (B_11.out.trans (hb.mono B_11.out.size))
  clear hb RA_11 RB_11 RC_11 RU_11 B_11
  go_wp2_with fail
  refine wp_region_held_drew (S := fun w' => Row w' (W4.heap.size) 23 [.int .i64 q0, .int .i64 q1, .int .i64 q2, .int .i64 q3] ∧ Row w' (w.heap.size) 23 [.int .i64 x0, .int .i64 x1, .int .i64 y0, .int .i64 y1] ∧ Row w' (w.heap.size + 1) 23 [.int .i64 u0, .int .i64 u1, .int .i64 v0, .int .i64 v1]) (by kernel_rfl) ⟨RU_14.out.drew, RA_14.out.drew, RB_14.out.drew⟩ (fun hHeld => ?_)
  clear hHeld
  have RA_15 := Lib.hid RA_14.out.drew
  have RB_15 := Lib.hid RB_14.out.drew
  have RC_15 := Lib.hid RC_14.out.drew
  have RU_15 := Lib.hid RU_14.out.drew
  have B_15 := Lib.hid B_14.out.drew
  clear RA_14 RB_14 RC_14 RU_14 B_14
  generalize W12.drew = D15 at RA_15 RB_15 RC_15 RU_15 B_15 ⊢
  refine wpAnyH_take (i := 0) (oi := ⟨some 26, _, _, _, _, _⟩) (v := ?vr15_1) rfl (by kernel_rfl) (by kernel_rfl) (by kernel_rfl) (fun _ _ _ h => h) (Or.inl ⟨by rfl, ?yr15_1⟩) ⟨RU_15.out, RA_15.out, RB_15.out⟩ ?rr15_1
  case yr15_1 =>
    rintro w' hSw
    have k0 := (show Row w' _ _ _ from hSw.1).cell 0
    have k1 := (show Row w' _ _ _ from hSw.1).cell 1
    have k2 := (show Row w' _ _ _ from hSw.1).cell 2
    have k3 := (show Row w' _ _ _ from hSw.1).cell 3
    simp only [List.getElem?_cons_zero, List.getElem?_cons_succ] at k0 k1 k2 k3
    go_simp
    try with_reducible rfl
  try simp only [Act.put, List.setIfInBounds_toArray, List.set_cons_zero, List.set_cons_succ]
  refine wpAnyH_take (i := 1) (oi := ⟨some 27, _, _, _, _, _⟩) (v := ?vr15_2) rfl (by kernel_rfl) (by kernel_rfl) (by kernel_rfl) (fun _ _ _ h => h) (Or.inl ⟨by rfl, ?yr15_2⟩) ⟨RU_15.out, RA_15.out, RB_15.out⟩ ?rr15_2
  case yr15_2 =>
    rintro w' hSw
    have k0 := (show Row w' _ _ _ from hSw.2.1).cell 0
    have k1 := (show Row w' _ _ _ from hSw.2.1).cell 1
    have k2 := (show Row w' _ _ _ from hSw.2.1).cell 2
    have k3 := (show Row w' _ _ _ from hSw.2.1).cell 3
    simp only [List.getElem?_cons_zero, List.getElem?_cons_succ] at k0 k1 k2 k3
    go_simp
    try with_reducible rfl
  try simp only [Act.put, List.setIfInBounds_toArray, List.set_cons_zero, List.set_cons_succ]
  refine wpAnyH_ready (rs := [2]) (by kernel_rfl) (by simp) ?_
  refine (AllReadyH.cons rfl (fun K hK => ?_) AllReadyH.nil)
  go_simp
  refine (HC1.out _).mono ?_
  rintro e Xr15_3 ⟨rfl, hb⟩
  have RA_r15_3_16 := Lib.hid (RA_15.out.below hb RA_15.out.lt)
  have RB_r15_3_16 := Lib.hid (RB_15.out.below hb RB_15.out.lt)
  have RC_r15_3_16 := Lib.hid (RC_15.out.below hb RC_15.out.lt)
  have RU_r15_3_16 := Lib.hid (RU_15.out.below hb RU_15.out.lt)
  have B_r15_3_16 := Lib.hid (B_15.out.trans (hb.mono B_15.out.size))
  clear hb RA_15 RB_15 RC_15 RU_15 B_15
  refine hK _ _ ⟨RU_r15_3_16.out, RA_r15_3_16.out, RB_r15_3_16.out⟩ (fun _ => ?_)
  clear hK K
  try simp only [Act.put, List.setIfInBounds_toArray, List.set_cons_zero, List.set_cons_succ]
  refine wpAnyH_take (i := 3) (oi := ⟨some 29, _, _, _, _, _⟩) (v := ?vr15_4) rfl (by kernel_rfl) (by kernel_rfl) (by kernel_rfl) (fun _ _ _ h => h) (Or.inl ⟨by rfl, ?yr15_4⟩) ⟨RU_r15_3_16.out, RA_r15_3_16.out, RB_r15_3_16.out⟩ ?rr15_4
  case yr15_4 =>
    rintro w' hSw
    go_simp
    try with_reducible rfl
  try simp only [Act.put, List.setIfInBounds_toArray, List.set_cons_zero, List.set_cons_succ]
  refine wpAnyH_take (i := 4) (oi := ⟨some 30, _, _, _, _, _⟩) (v := ?vr15_5) rfl (by kernel_rfl) (by kernel_rfl) (by kernel_rfl) (fun _ _ _ h => h) (Or.inl ⟨by rfl, ?yr15_5⟩) ⟨RU_r15_3_16.out, RA_r15_3_16.out, RB_r15_3_16.out⟩ ?rr15_5
  case yr15_5 =>
    rintro w' hSw
    go_simp
    try with_reducible rfl
  try simp only [Act.put, List.setIfInBounds_toArray, List.set_cons_zero, List.set_cons_succ]
  refine wpAnyH_take (i := 5) (oi := ⟨some 31, _, _, _, _, _⟩) (v := ?vr15_6) rfl (by kernel_rfl) (by kernel_rfl) (by kernel_rfl) (fun _ _ _ h => h) (Or.inl ⟨by rfl, ?yr15_6⟩) ⟨RU_r15_3_16.out, RA_r15_3_16.out, RB_r15_3_16.out⟩ ?rr15_6
  case yr15_6 =>
    rintro w' hSw
    have k0 := (show Row w' _ _ _ from hSw.1).cell 0
    have k1 := (show Row w' _ _ _ from hSw.1).cell 1
    have k2 := (show Row w' _ _ _ from hSw.1).cell 2
    have k3 := (show Row w' _ _ _ from hSw.1).cell 3
    simp only [List.getElem?_cons_zero, List.getElem?_cons_succ] at k0 k1 k2 k3
    go_simp
    try with_reducible rfl
  try simp only [Act.put, List.setIfInBounds_toArray, List.set_cons_zero, List.set_cons_succ]
  refine wpAnyH_take (i := 6) (oi := ⟨some 32, _, _, _, _, _⟩) (v := ?vr15_7) rfl (by kernel_rfl) (by kernel_rfl) (by kernel_rfl) (fun _ _ _ h => h) (Or.inl ⟨by rfl, ?yr15_7⟩) ⟨RU_r15_3_16.out, RA_r15_3_16.out, RB_r15_3_16.out⟩ ?rr15_7
  case yr15_7 =>
    rintro w' hSw
    have k0 := (show Row w' _ _ _ from hSw.2.2).cell 0
    have k1 := (show Row w' _ _ _ from hSw.2.2).cell 1
    have k2 := (show Row w' _ _ _ from hSw.2.2).cell 2
    have k3 := (show Row w' _ _ _ from hSw.2.2).cell 3
    simp only [List.getElem?_cons_zero, List.getElem?_cons_succ] at k0 k1 k2 k3
    go_simp
    try with_reducible rfl
  try simp only [Act.put, List.setIfInBounds_toArray, List.set_cons_zero, List.set_cons_succ]
  refine wpAnyH_ready (rs := [7]) (by kernel_rfl) (by simp) ?_
  refine (AllReadyH.cons rfl (fun K hK => ?_) AllReadyH.nil)
  go_simp
  refine (HC2.out _).mono ?_
  rintro e Xr15_8 ⟨rfl, hb⟩
  have RA_r15_8_17 := Lib.hid (RA_r15_3_16.out.below hb RA_r15_3_16.out.lt)
  have RB_r15_8_17 := Lib.hid (RB_r15_3_16.out.below hb RB_r15_3_16.out.lt)
  have RC_r15_8_17 := Lib.hid (RC_r15_3_16.out.below hb RC_r15_3_16.out.lt)
  have RU_r15_8_17 := Lib.hid (RU_r15_3_16.out.below hb RU_r15_3_16.out.lt)
  have B_r15_8_17 := Lib.hid (B_r15_3_16.out.trans (hb.mono B_r15_3_16.out.size))
  clear hb RA_r15_3_16 RB_r15_3_16 RC_r15_3_16 RU_r15_3_16 B_r15_3_16
  refine hK _ _ ⟨RU_r15_8_17.out, RA_r15_8_17.out, RB_r15_8_17.out⟩ (fun _ => ?_)
  clear hK K
  try simp only [Act.put, List.setIfInBounds_toArray, List.set_cons_zero, List.set_cons_succ]
  refine wpAnyH_take (i := 8) (oi := ⟨some 34, _, _, _, _, _⟩) (v := ?vr15_9) rfl (by kernel_rfl) (by kernel_rfl) (by kernel_rfl) (fun _ _ _ h => h) (Or.inl ⟨by rfl, ?yr15_9⟩) ⟨RU_r15_8_17.out, RA_r15_8_17.out, RB_r15_8_17.out⟩ ?rr15_9
  case yr15_9 =>
    rintro w' hSw
    go_simp
    try with_reducible rfl
  try simp only [Act.put, List.setIfInBounds_toArray, List.set_cons_zero, List.set_cons_succ]
  refine wpAnyH_take (i := 9) (oi := ⟨some 35, _, _, _, _, _⟩) (v := ?vr15_10) rfl (by kernel_rfl) (by kernel_rfl) (by kernel_rfl) (fun _ _ _ h => h) (Or.inl ⟨by rfl, ?yr15_10⟩) ⟨RU_r15_8_17.out, RA_r15_8_17.out, RB_r15_8_17.out⟩ ?rr15_10
  case yr15_10 =>
    rintro w' hSw
    go_simp
    try with_reducible rfl
  try simp only [Act.put, List.setIfInBounds_toArray, List.set_cons_zero, List.set_cons_succ]
  refine wpAnyH_take (i := 10) (oi := ⟨some 36, _, _, _, _, _⟩) (v := ?vr15_11) rfl (by kernel_rfl) (by kernel_rfl) (by kernel_rfl) (fun _ _ _ h => h) (Or.inl ⟨by rfl, ?yr15_11⟩) ⟨RU_r15_8_17.out, RA_r15_8_17.out, RB_r15_8_17.out⟩ ?rr15_11
  case yr15_11 =>
    rintro w' hSw
    go_simp
    try with_reducible rfl
  try simp only [Act.put, List.setIfInBounds_toArray, List.set_cons_zero, List.set_cons_succ]
  refine wpAnyH_take (i := 11) (oi := ⟨some 37, _, _, _, _, _⟩) (v := ?vr15_12) rfl (by kernel_rfl) (by kernel_rfl) (by kernel_rfl) (fun _ _ _ h => h) (Or.inl ⟨by rfl, ?yr15_12⟩) ⟨RU_r15_8_17.out, RA_r15_8_17.out, RB_r15_8_17.out⟩ ?rr15_12
  case yr15_12 =>
    rintro w' hSw
    have k0 := (show Row w' _ _ _ from hSw.1).cell 0
    have k1 := (show Row w' _ _ _ from hSw.1).cell 1
    have k2 := (show Row w' _ _ _ from hSw.1).cell 2
    have k3 := (show Row w' _ _ _ from hSw.1).cell 3
    simp only [List.getElem?_cons_zero, List.getElem?_cons_succ] at k0 k1 k2 k3
    go_simp
    try with_reducible rfl
  try simp only [Act.put, List.setIfInBounds_toArray, List.set_cons_zero, List.set_cons_succ]
  refine wpAnyH_take (i := 12) (oi := ⟨some 38, _, _, _, _, _⟩) (v := ?vr15_13) rfl (by kernel_rfl) (by kernel_rfl) (by kernel_rfl) (fun _ _ _ h => h) (Or.inl ⟨by rfl, ?yr15_13⟩) ⟨RU_r15_8_17.out, RA_r15_8_17.out, RB_r15_8_17.out⟩ ?rr15_13
  case yr15_13 =>
    rintro w' hSw
    have k0 := (show Row w' _ _ _ from hSw.2.2).cell 0
    have k1 := (show Row w' _ _ _ from hSw.2.2).cell 1
    have k2 := (show Row w' _ _ _ from hSw.2.2).cell 2
    have k3 := (show Row w' _ _ _ from hSw.2.2).cell 3
    simp only [List.getElem?_cons_zero, List.getElem?_cons_succ] at k0 k1 k2 k3
    go_simp
    try with_reducible rfl
  try simp only [Act.put, List.setIfInBounds_toArray, List.set_cons_zero, List.set_cons_succ]
  refine wpAnyH_take (i := 13) (oi := ⟨some 39, _, _, _, _, _⟩) (v := ?vr15_14) rfl (by kernel_rfl) (by kernel_rfl) (by kernel_rfl) (fun _ _ _ h => h) (Or.inl ⟨by rfl, ?yr15_14⟩) ⟨RU_r15_8_17.out, RA_r15_8_17.out, RB_r15_8_17.out⟩ ?rr15_14
  case yr15_14 =>
    rintro w' hSw
    have k0 := (show Row w' _ _ _ from hSw.2.1).cell 0
    have k1 := (show Row w' _ _ _ from hSw.2.1).cell 1
    have k2 := (show Row w' _ _ _ from hSw.2.1).cell 2
    have k3 := (show Row w' _ _ _ from hSw.2.1).cell 3
    simp only [List.getElem?_cons_zero, List.getElem?_cons_succ] at k0 k1 k2 k3
    go_simp
    try with_reducible rfl
  try simp only [Act.put, List.setIfInBounds_toArray, List.set_cons_zero, List.set_cons_succ]
  refine wpAnyH_ready (rs := [14]) (by kernel_rfl) (by simp) ?_
  refine (AllReadyH.cons rfl (fun K hK => ?_) AllReadyH.nil)
  go_simp
  refine (HU2.out _).mono ?_
  rintro e Xr15_15 ⟨rfl, hb⟩
  have RA_r15_15_18 := Lib.hid (RA_r15_8_17.out.below hb RA_r15_8_17.out.lt)
  have RB_r15_15_18 := Lib.hid (RB_r15_8_17.out.below hb RB_r15_8_17.out.lt)
  have RC_r15_15_18 := Lib.hid (RC_r15_8_17.out.below hb RC_r15_8_17.out.lt)
  have RU_r15_15_18 := Lib.hid (RU_r15_8_17.out.below hb RU_r15_8_17.out.lt)
  have B_r15_15_18 := Lib.hid (B_r15_8_17.out.trans (hb.mono B_r15_8_17.out.size))
  clear hb RA_r15_8_17 RB_r15_8_17 RC_r15_8_17 RU_r15_8_17 B_r15_8_17
  refine hK _ _ ⟨RU_r15_15_18.out, RA_r15_15_18.out, RB_r15_15_18.out⟩ (fun _ => ?_)
  clear hK K
  try simp only [Act.put, List.setIfInBounds_toArray, List.set_cons_zero, List.set_cons_succ]
  refine wpAnyH_take (i := 15) (oi := ⟨some 41, _, _, _, _, _⟩) (v := ?vr15_16) rfl (by kernel_rfl) (by kernel_rfl) (by kernel_rfl) (fun _ _ _ h => h) (Or.inl ⟨by rfl, ?yr15_16⟩) ⟨RU_r15_15_18.out, RA_r15_15_18.out, RB_r15_15_18.out⟩ ?rr15_16
  case yr15_16 =>
    rintro w' hSw
    go_simp
    try with_reducible rfl
  try simp only [Act.put, List.setIfInBounds_toArray, List.set_cons_zero, List.set_cons_succ]
  refine wpAnyH_take (i := 16) (oi := ⟨some 42, _, _, _, _, _⟩) (v := ?vr15_17) rfl (by kernel_rfl) (by kernel_rfl) (by kernel_rfl) (fun _ _ _ h => h) (Or.inl ⟨by rfl, ?yr15_17⟩) ⟨RU_r15_15_18.out, RA_r15_15_18.out, RB_r15_15_18.out⟩ ?rr15_17
  case yr15_17 =>
    rintro w' hSw
    go_simp
    try with_reducible rfl
  try simp only [Act.put, List.setIfInBounds_toArray, List.set_cons_zero, List.set_cons_succ]
  refine wpAnyH_take (i := 17) (oi := ⟨some 43, _, _, _, _, _⟩) (v := ?vr15_18) rfl (by kernel_rfl) (by kernel_rfl) (by kernel_rfl) (fun _ _ _ h => h) (Or.inl ⟨by rfl, ?yr15_18⟩) ⟨RU_r15_15_18.out, RA_r15_15_18.out, RB_r15_15_18.out⟩ ?rr15_18
  case yr15_18 =>
    rintro w' hSw
    go_simp
    try with_reducible rfl
  try simp only [Act.put, List.setIfInBounds_toArray, List.set_cons_zero, List.set_cons_succ]
  refine wpAnyH_take (i := 18) (oi := ⟨some 44, _, _, _, _, _⟩) (v := ?vr15_19) rfl (by kernel_rfl) (by kernel_rfl) (by kernel_rfl) (fun _ _ _ h => h) (Or.inl ⟨by rfl, ?yr15_19⟩) ⟨RU_r15_15_18.out, RA_r15_15_18.out, RB_r15_15_18.out⟩ ?rr15_19
  case yr15_19 =>
    rintro w' hSw
    have k0 := (show Row w' _ _ _ from hSw.2.1).cell 0
    have k1 := (show Row w' _ _ _ from hSw.2.1).cell 1
    have k2 := (show Row w' _ _ _ from hSw.2.1).cell 2
    have k3 := (show Row w' _ _ _ from hSw.2.1).cell 3
    simp only [List.getElem?_cons_zero, List.getElem?_cons_succ] at k0 k1 k2 k3
    go_simp
    try with_reducible rfl
  try simp only [Act.put, List.setIfInBounds_toArray, List.set_cons_zero, List.set_cons_succ]
  refine wpAnyH_take (i := 19) (oi := ⟨some 45, _, _, _, _, _⟩) (v := ?vr15_20) rfl (by kernel_rfl) (by kernel_rfl) (by kernel_rfl) (fun _ _ _ h => h) (Or.inl ⟨by rfl, ?yr15_20⟩) ⟨RU_r15_15_18.out, RA_r15_15_18.out, RB_r15_15_18.out⟩ ?rr15_20
  case yr15_20 =>
    rintro w' hSw
    have k0 := (show Row w' _ _ _ from hSw.2.1).cell 0
    have k1 := (show Row w' _ _ _ from hSw.2.1).cell 1
    have k2 := (show Row w' _ _ _ from hSw.2.1).cell 2
    have k3 := (show Row w' _ _ _ from hSw.2.1).cell 3
    simp only [List.getElem?_cons_zero, List.getElem?_cons_succ] at k0 k1 k2 k3
    go_simp
    try with_reducible rfl
  try simp only [Act.put, List.setIfInBounds_toArray, List.set_cons_zero, List.set_cons_succ]
  refine wpAnyH_take (i := 21) (oi := ⟨some 47, _, _, _, _, _⟩) (v := ?vr15_21) rfl (by kernel_rfl) (by kernel_rfl) (by kernel_rfl) (fun _ _ _ h => h) (Or.inl ⟨by rfl, ?yr15_21⟩) ⟨RU_r15_15_18.out, RA_r15_15_18.out, RB_r15_15_18.out⟩ ?rr15_21
  case yr15_21 =>
    rintro w' hSw
    have k0 := (show Row w' _ _ _ from hSw.2.1).cell 0
    have k1 := (show Row w' _ _ _ from hSw.2.1).cell 1
    have k2 := (show Row w' _ _ _ from hSw.2.1).cell 2
    have k3 := (show Row w' _ _ _ from hSw.2.1).cell 3
    simp only [List.getElem?_cons_zero, List.getElem?_cons_succ] at k0 k1 k2 k3
    go_simp
    try with_reducible rfl
  try simp only [Act.put, List.setIfInBounds_toArray, List.set_cons_zero, List.set_cons_succ]
  refine wpAnyH_ready (rs := [20]) (by kernel_rfl) (by simp) ?_
  refine (AllReadyH.cons rfl (fun K hK => ?_) AllReadyH.nil)
  go_simp
  refine (HU3.out _).mono ?_
  rintro e Xr15_22 ⟨rfl, hb⟩
  have RA_r15_22_19 := Lib.hid (RA_r15_15_18.out.below hb RA_r15_15_18.out.lt)
  have RB_r15_22_19 := Lib.hid (RB_r15_15_18.out.below hb RB_r15_15_18.out.lt)
  have RC_r15_22_19 := Lib.hid (RC_r15_15_18.out.below hb RC_r15_15_18.out.lt)
  have RU_r15_22_19 := Lib.hid (RU_r15_15_18.out.below hb RU_r15_15_18.out.lt)
  have B_r15_22_19 := Lib.hid (B_r15_15_18.out.trans (hb.mono B_r15_15_18.out.size))
  clear hb RA_r15_15_18 RB_r15_15_18 RC_r15_15_18 RU_r15_15_18 B_r15_15_18
  refine hK _ _ ⟨RU_r15_22_19.out, RA_r15_22_19.out, RB_r15_22_19.out⟩ (fun _ => ?_)
  clear hK K
  try simp only [Act.put, List.setIfInBounds_toArray, List.set_cons_zero, List.set_cons_succ]
  refine wpAnyH_take (i := 22) (oi := ⟨some 48, _, _, _, _, _⟩) (v := ?vr15_23) rfl (by kernel_rfl) (by kernel_rfl) (by kernel_rfl) (fun _ _ _ h => h) (Or.inl ⟨by rfl, ?yr15_23⟩) ⟨RU_r15_22_19.out, RA_r15_22_19.out, RB_r15_22_19.out⟩ ?rr15_23
  case yr15_23 =>
    rintro w' hSw
    go_simp
    try with_reducible rfl
  try simp only [Act.put, List.setIfInBounds_toArray, List.set_cons_zero, List.set_cons_succ]
  refine wpAnyH_take (i := 23) (oi := ⟨some 49, _, _, _, _, _⟩) (v := ?vr15_24) rfl (by kernel_rfl) (by kernel_rfl) (by kernel_rfl) (fun _ _ _ h => h) (Or.inl ⟨by rfl, ?yr15_24⟩) ⟨RU_r15_22_19.out, RA_r15_22_19.out, RB_r15_22_19.out⟩ ?rr15_24
  case yr15_24 =>
    rintro w' hSw
    go_simp
    try with_reducible rfl
  try simp only [Act.put, List.setIfInBounds_toArray, List.set_cons_zero, List.set_cons_succ]
  refine wpAnyH_done (by kernel_rfl) ?_ _
  have cr15_22_21_0 := RC_r15_22_19.out.cell 0
  have cr15_22_21_1 := RC_r15_22_19.out.cell 1
  have cr15_22_21_2 := RC_r15_22_19.out.cell 2
  have cr15_22_21_3 := RC_r15_22_19.out.cell 3
  simp only [List.getElem?_cons_zero, List.getElem?_cons_succ] at cr15_22_21_0 cr15_22_21_1 cr15_22_21_2 cr15_22_21_3
  have cr15_22_22_0 := RA_r15_22_19.out.cell 0
  have cr15_22_22_1 := RA_r15_22_19.out.cell 1
  have cr15_22_22_2 := RA_r15_22_19.out.cell 2
  have cr15_22_22_3 := RA_r15_22_19.out.cell 3
  simp only [List.getElem?_cons_zero, List.getElem?_cons_succ] at cr15_22_22_0 cr15_22_22_1 cr15_22_22_2 cr15_22_22_3
  go_wp2_with fail
  refine (HD1.out _).mono ?_
  rintro e Wr15_22_20 ⟨rfl, hb⟩
  clear cr15_22_21_0 cr15_22_21_1 cr15_22_21_2 cr15_22_21_3 cr15_22_22_0 cr15_22_22_1 cr15_22_22_2 cr15_22_22_3
  have RA_r15_22_23 := Lib.hid (RA_r15_22_19.out.below hb RA_r15_22_19.out.lt)
  have RB_r15_22_23 := Lib.hid (RB_r15_22_19.out.below hb RB_r15_22_19.out.lt)
  have RC_r15_22_23 := Lib.hid (RC_r15_22_19.out.below hb RC_r15_22_19.out.lt)
  have RU_r15_22_23 := Lib.hid (RU_r15_22_19.out.below hb RU_r15_22_19.out.lt)
  have B_r15_22_23 := Lib.hid (B_r15_22_19.out.trans (hb.mono B_r15_22_19.out.size))
  clear hb RA_r15_22_19 RB_r15_22_19 RC_r15_22_19 RU_r15_22_19 B_r15_22_19
  have cr15_22_25_0 := RC_r15_22_23.out.cell 0
  have cr15_22_25_1 := RC_r15_22_23.out.cell 1
  have cr15_22_25_2 := RC_r15_22_23.out.cell 2
  have cr15_22_25_3 := RC_r15_22_23.out.cell 3
  simp only [List.getElem?_cons_zero, List.getElem?_cons_succ] at cr15_22_25_0 cr15_22_25_1 cr15_22_25_2 cr15_22_25_3
  have cr15_22_26_0 := RB_r15_22_23.out.cell 0
  have cr15_22_26_1 := RB_r15_22_23.out.cell 1
  have cr15_22_26_2 := RB_r15_22_23.out.cell 2
  have cr15_22_26_3 := RB_r15_22_23.out.cell 3
  simp only [List.getElem?_cons_zero, List.getElem?_cons_succ] at cr15_22_26_0 cr15_22_26_1 cr15_22_26_2 cr15_22_26_3
  go_wp2_with fail
  refine (HD2.out _).mono ?_
  rintro e Wr15_22_24 ⟨rfl, hb⟩
  clear cr15_22_25_0 cr15_22_25_1 cr15_22_25_2 cr15_22_25_3 cr15_22_26_0 cr15_22_26_1 cr15_22_26_2 cr15_22_26_3
  have RA_r15_22_27 := Lib.hid (RA_r15_22_23.out.below hb RA_r15_22_23.out.lt)
  have RB_r15_22_27 := Lib.hid (RB_r15_22_23.out.below hb RB_r15_22_23.out.lt)
  have RC_r15_22_27 := Lib.hid (RC_r15_22_23.out.below hb RC_r15_22_23.out.lt)
  have RU_r15_22_27 := Lib.hid (RU_r15_22_23.out.below hb RU_r15_22_23.out.lt)
  have B_r15_22_27 := Lib.hid (B_r15_22_23.out.trans (hb.mono B_r15_22_23.out.size))
  clear hb RA_r15_22_23 RB_r15_22_23 RC_r15_22_23 RU_r15_22_23 B_r15_22_23
  have cr15_22_29_0 := RC_r15_22_27.out.cell 0
  have cr15_22_29_1 := RC_r15_22_27.out.cell 1
  have cr15_22_29_2 := RC_r15_22_27.out.cell 2
  have cr15_22_29_3 := RC_r15_22_27.out.cell 3
  simp only [List.getElem?_cons_zero, List.getElem?_cons_succ] at cr15_22_29_0 cr15_22_29_1 cr15_22_29_2 cr15_22_29_3
  have cr15_22_30_0 := RU_r15_22_27.out.cell 0
  have cr15_22_30_1 := RU_r15_22_27.out.cell 1
  have cr15_22_30_2 := RU_r15_22_27.out.cell 2
  have cr15_22_30_3 := RU_r15_22_27.out.cell 3
  simp only [List.getElem?_cons_zero, List.getElem?_cons_succ] at cr15_22_30_0 cr15_22_30_1 cr15_22_30_2 cr15_22_30_3
  go_wp2_with fail
  refine (HD3.out _).mono ?_
  rintro e Wr15_22_28 ⟨rfl, hb⟩
  clear cr15_22_29_0 cr15_22_29_1 cr15_22_29_2 cr15_22_29_3 cr15_22_30_0 cr15_22_30_1 cr15_22_30_2 cr15_22_30_3
  have RA_r15_22_31 := Lib.hid (RA_r15_22_27.out.below hb RA_r15_22_27.out.lt)
  have RB_r15_22_31 := Lib.hid (RB_r15_22_27.out.below hb RB_r15_22_27.out.lt)
  have RC_r15_22_31 := Lib.hid (RC_r15_22_27.out.below hb RC_r15_22_27.out.lt)
  have RU_r15_22_31 := Lib.hid (RU_r15_22_27.out.below hb RU_r15_22_27.out.lt)
  have B_r15_22_31 := Lib.hid (B_r15_22_27.out.trans (hb.mono B_r15_22_27.out.size))
  clear hb RA_r15_22_27 RB_r15_22_27 RC_r15_22_27 RU_r15_22_27 B_r15_22_27
  have cr15_22_33_0 := RU_r15_22_31.out.cell 0
  have cr15_22_33_1 := RU_r15_22_31.out.cell 1
  have cr15_22_33_2 := RU_r15_22_31.out.cell 2
  have cr15_22_33_3 := RU_r15_22_31.out.cell 3
  simp only [List.getElem?_cons_zero, List.getElem?_cons_succ] at cr15_22_33_0 cr15_22_33_1 cr15_22_33_2 cr15_22_33_3
  have cr15_22_34_0 := RA_r15_22_31.out.cell 0
  have cr15_22_34_1 := RA_r15_22_31.out.cell 1
  have cr15_22_34_2 := RA_r15_22_31.out.cell 2
  have cr15_22_34_3 := RA_r15_22_31.out.cell 3
  simp only [List.getElem?_cons_zero, List.getElem?_cons_succ] at cr15_22_34_0 cr15_22_34_1 cr15_22_34_2 cr15_22_34_3
  go_wp2_with fail
  refine (HG.out _).mono ?_
  rintro e Wr15_22_32 ⟨rfl, hb⟩
  clear cr15_22_33_0 cr15_22_33_1 cr15_22_33_2 cr15_22_33_3 cr15_22_34_0 cr15_22_34_1 cr15_22_34_2 cr15_22_34_3
  have RA_r15_22_35 := Lib.hid (RA_r15_22_31.out.below hb RA_r15_22_31.out.lt)
  have RB_r15_22_35 := Lib.hid (RB_r15_22_31.out.below hb RB_r15_22_31.out.lt)
  have RC_r15_22_35 := Lib.hid (RC_r15_22_31.out.below hb RC_r15_22_31.out.lt)
  have RU_r15_22_35 := Lib.hid (RU_r15_22_31.out.below hb RU_r15_22_31.out.lt)
  have B_r15_22_35 := Lib.hid (B_r15_22_31.out.trans (hb.mono B_r15_22_31.out.size))
  clear hb RA_r15_22_31 RB_r15_22_31 RC_r15_22_31 RU_r15_22_31 B_r15_22_31
  go_wp2
  go_ret
  exact ⟨rfl, (B_r15_22_35.out.alloc B_r15_22_35.out.size _).alloc (by have := B_r15_22_35.out.size; simp; omega) _⟩

theorem walk (x0 x1 y0 y1 u0 u1 v0 v1 z0 z1 t0 t1 : Int) (w : World) (kx : KOk x0 x1 y0 y1) (ku : KOk u0 u1 v0 v1) : Calls Try.prog 5 #[KV x0 x1 y0 y1, KV u0 u1 v0 v1, KV z0 z1 t0 t1] w fun e w' => e = .returned (.bool true) ∧ Below w.heap.size w w' := by
  cases ha : boxB x0 x1 y0 y1
  · exact walk_na x0 x1 y0 y1 u0 u1 v0 v1 z0 z1 t0 t1 w ha
  cases hb : boxB u0 u1 v0 v1
  · exact walk_nb x0 x1 y0 y1 u0 u1 v0 v1 z0 z1 t0 t1 w ha hb
  cases hc1 : coverB z0 z1 t0 t1 x0 x1 y0 y1
  · cases hc2 : coverB z0 z1 t0 t1 u0 u1 v0 v1
    · exact walk_f x0 x1 y0 y1 u0 u1 v0 v1 z0 z1 t0 t1 w kx ku ha hb hc1 hc2
    · exact walk_f2 x0 x1 y0 y1 u0 u1 v0 v1 z0 z1 t0 t1 w kx ku ha hb hc1 hc2
  cases hc2 : coverB z0 z1 t0 t1 u0 u1 v0 v1
  · exact walk_tf x0 x1 y0 y1 u0 u1 v0 v1 z0 z1 t0 t1 w kx ku ha hb hc1 hc2
  · exact walk_tt x0 x1 y0 y1 u0 u1 v0 v1 z0 z1 t0 t1 w kx ku ha hb hc1 hc2

theorem resT_KeyUnion : Try.f5.resultTypes = #[4] := by kernel_rfl
set_option maxRecDepth 100000 in
theorem lifted_KeyUnion (os : Os) (started : os.Started) (H : Type) (enc : TypeId × Value → H) :
    ReturnsInHanded {} Try.checked os 5 .any (Rows.keyUnionSpec.pre6 enc Try.prog Try.f5 Rows.keyUnionRow.domain false) (Rows.keyUnionSpec.post enc Try.prog Try.f5 false true false false) := by
  refine Lift.law_lift (C := Try.checked) (s := Rows.keyUnionSpec) (tb := 4) own laidOut started (by kernel_rfl) Try.func5
    (ChangeSpec.witness6 (enc := enc) (C := Try.checked) false ⟨#[], #[.agg #[.int .i64 0, .int .i64 0, .int .i64 0, .int .i64 0], .agg #[.int .i64 0, .int .i64 0, .int .i64 0, .int .i64 0], .agg #[.int .i64 0, .int .i64 0, .int .i64 0, .int .i64 0]], []⟩ 8 (by kernel_rfl) (by kernel_rfl) (by kernel_rfl) (by kernel_rfl))
    rfl resT_KeyUnion Try.underlying4 (by
      have hr : ∀ t ∈ ([23, 23, 23] : List TypeId), Try.prog.readableRec t = true ∧ t < Try.prog.types.size := by
        intro t ht
        simp only [List.mem_cons, List.not_mem_nil, or_false] at ht
        rcases ht with rfl | rfl | rfl <;> exact ⟨by kernel_rfl, of_decide_eq_true (by kernel_rfl)⟩
      intro t ht
      exact hr t (by
        have ht' : t ∈ Try.f5.params.toList := ht
        rw [Try.params5] at ht'
        exact ht')) ?_
  intro W base args ds p hval0 hA0 hsz0
  have hval : ∀ (j : Nat) t v, Try.f5.params[j]? = some t → args[j]? = some v → Value.okWide Try.prog W .any base t v := hval0
  have hA : DataW.TrodAll enc Try.prog W 0 (fun _ => true) true Try.f5.params.toList args.toList ds p := hA0
  have hsz : (DataW.weightsEach Try.prog Try.f5.params.toList ds).all (· ≤ reachBytes) = true := hsz0
  clear hval0 hA0 hsz0
  rw [Try.params5] at hA hval hsz
  obtain ⟨v0, vs0, d0, ds0, p0, q0, hargs, rfl, rfl, h0, r0⟩ := trodAll_cons hA
  obtain ⟨v1, vs1, d1, ds1, p1, q1, rfl, rfl, rfl, h1, r1⟩ := trodAll_cons r0
  obtain ⟨v2, vs2, d2, ds2, p2, q2, rfl, rfl, rfl, h2, r2⟩ := trodAll_cons r1
  obtain ⟨rfl, rfl, rfl⟩ := trodAll_nil r2
  obtain rfl : args = #[v0, v1, v2] := by cases args; simp_all
  obtain ⟨k0a, k0b, k0c, k0d, ⟨m0a, n0a⟩, ⟨m0b, n0b⟩, ⟨m0c, n0c⟩, ⟨m0d, n0d⟩, rfl⟩ := open_key (hval 0 23 v0 rfl rfl) h0
  obtain ⟨k1a, k1b, k1c, k1d, ⟨m1a, n1a⟩, ⟨m1b, n1b⟩, ⟨m1c, n1c⟩, ⟨m1d, n1d⟩, rfl⟩ := open_key (hval 1 23 v1 rfl rfl) h1
  obtain ⟨k2a, k2b, k2c, k2d, ⟨m2a, n2a⟩, ⟨m2b, n2b⟩, ⟨m2c, n2c⟩, ⟨m2d, n2d⟩, rfl⟩ := open_key (hval 2 23 v2 rfl rfl) h2
  exact ⟨rfl, walk k0a k0b k0c k0d k1a k1b k1c k1d k2a k2b k2c k2d W ⟨m0a, n0a, m0b, n0b, m0c, n0c, m0d, n0d⟩ ⟨m1a, n1a, m1b, n1b, m1c, n1c, m1d, n1d⟩⟩

theorem proved_KeyUnion : Rows.KeyUnionSaid :=
  OpenClaim.holds_of_wide 5 Try.f5 rfl rfl rfl rfl rfl rfl rfl ⟨rfl, rfl, rfl, rfl, rfl⟩ rfl rfl rfl rfl rfl (by kernel_rfl) Try.func5 (by kernel_rfl)
    (of_decide_eq_true (by kernel_rfl)) (by unfold Func.isWrapper; first | (rw [if_pos (by decide +kernel)]; kernel_rfl) | (rw [if_neg (by decide +kernel)]; exact ⟨rfl, rfl⟩))
    (fun os started H enc _ => lifted_KeyUnion os started H enc)
end Go.Proofs.Ytbmfijcckdkmdaa.KeyUnion
