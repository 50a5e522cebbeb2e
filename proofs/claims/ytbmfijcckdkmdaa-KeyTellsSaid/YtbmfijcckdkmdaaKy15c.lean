/-
  Keys: the reference's Meets, Covers, Union.
-/
import Derived.Test.YtbmfijcckdkmdaaKy14
import Derived.LoopTactic
import Derived.Deep.RegionHeld
import Derived.Deep.Cut
import Derived.WalkLawsBesides
namespace Go.Proofs.Ytbmfijcckdkmdaa.Ky
set_option maxRecDepth 100000
open Go.RowKit Go.Proofs.Ytbmfijcckdkmdaa.Wd Go.Proofs.Ytbmfijcckdkmdaa.Wi Go.Proofs.Ytbmfijcckdkmdaa.Lift


set_option maxHeartbeats 8000000 in
theorem Covers_ref (x0 x1 y0 y1 u0 u1 v0 v1 : Int) (w : World) : Calls Try.prog 14 #[KV x0 x1 y0 y1, KV u0 u1 v0 v1] w fun e w' => e = .returned (.bool (coverB x0 x1 y0 y1 u0 u1 v0 v1)) ∧ Below w.heap.size w w' := by
  have HA := Lib.hid (Box_ref x0 x1 y0 y1)
  have HB := Lib.hid (Box_ref u0 u1 v0 v1)
  have HI1 := Lib.hid (inside_bel x0 x1 u0)
  have HI2 := Lib.hid (inside_bel x0 x1 u1)
  have HI3 := Lib.hid (inside_bel y0 y1 v0)
  have HI4 := Lib.hid (inside_bel y0 y1 v1)
  cases h0 : boxB x0 x1 y0 y1
  · rw [show coverB x0 x1 y0 y1 u0 u1 v0 v1 = false from by clear HA HB HI1 HI2 HI3 HI4; simp [coverB, boxB] at *; omega]
    rw [h0] at HA
    clear h0
    go_enter Try.func14, Try.ntmps14
    go_upto_region 1 with fail
    have RA_c0_1 := Lib.hid ((row_last w (w.heap.size) 23 [.int .i64 x0, .int .i64 x1, .int .i64 y0, .int .i64 y1] (by simp)).alloc (.cells #[.int .i64 u0, .int .i64 u1, .int .i64 v0, .int .i64 v1] 23))
    have RB_c0_1 := Lib.hid (row_last (w.alloc (.cells #[.int .i64 x0, .int .i64 x1, .int .i64 y0, .int .i64 y1] 23)) (w.heap.size + 1) 23 [.int .i64 u0, .int .i64 u1, .int .i64 v0, .int .i64 v1] (by simp))
    have B_c0_1 := Lib.hid (((Below.refl w.heap.size w).alloc (Nat.le_refl _) (.cells #[.int .i64 x0, .int .i64 x1, .int .i64 y0, .int .i64 y1] 23)).alloc (by have := Nat.le_refl w.heap.size; simp <;> omega) (.cells #[.int .i64 u0, .int .i64 u1, .int .i64 v0, .int .i64 v1] 23))
    generalize ((w.alloc (.cells #[.int .i64 x0, .int .i64 x1, .int .i64 y0, .int .i64 y1] 23)).alloc (.cells #[.int .i64 u0, .int .i64 u1, .int .i64 v0, .int .i64 v1] 23)) = Vc0_1 at RA_c0_1 RB_c0_1 B_c0_1 ⊢
    have cc0_3_0 := RA_c0_1.out.cell 0
    have cc0_3_1 := RA_c0_1.out.cell 1
    have cc0_3_2 := RA_c0_1.out.cell 2
    have cc0_3_3 := RA_c0_1.out.cell 3
    simp only [List.getElem?_cons_zero, List.getElem?_cons_succ] at cc0_3_0 cc0_3_1 cc0_3_2 cc0_3_3
    go_wp2_with fail
    refine (HA.out _).mono ?_
    rintro e Wc0_2 ⟨rfl, hb⟩
    clear cc0_3_0 cc0_3_1 cc0_3_2 cc0_3_3
    have RA_c0_4 := Lib.hid (RA_c0_1.out.below hb RA_c0_1.out.lt)
    have RB_c0_4 := Lib.hid (RB_c0_1.out.below hb RB_c0_1.out.lt)
    have B_c0_4 := Lib.hid (B_c0_1.out.trans (hb.mono B_c0_1.out.size))
    clear hb RA_c0_1 RB_c0_1 B_c0_1
    go_wp2
    go_ret
    exact ⟨rfl, B_c0_4.out⟩
  rw [h0] at HA
  cases h1 : boxB u0 u1 v0 v1
  · rw [show coverB x0 x1 y0 y1 u0 u1 v0 v1 = false from by clear HA HB HI1 HI2 HI3 HI4; simp [coverB, boxB] at *; omega]
    rw [h1] at HB
    clear h0 h1
    go_enter Try.func14, Try.ntmps14
    go_upto_region 1 with fail
    have RA_c1_1 := Lib.hid ((row_last w (w.heap.size) 23 [.int .i64 x0, .int .i64 x1, .int .i64 y0, .int .i64 y1] (by simp)).alloc (.cells #[.int .i64 u0, .int .i64 u1, .int .i64 v0, .int .i64 v1] 23))
    have RB_c1_1 := Lib.hid (row_last (w.alloc (.cells #[.int .i64 x0, .int .i64 x1, .int .i64 y0, .int .i64 y1] 23)) (w.heap.size + 1) 23 [.int .i64 u0, .int .i64 u1, .int .i64 v0, .int .i64 v1] (by simp))
    have B_c1_1 := Lib.hid (((Below.refl w.heap.size w).alloc (Nat.le_refl _) (.cells #[.int .i64 x0, .int .i64 x1, .int .i64 y0, .int .i64 y1] 23)).alloc (by have := Nat.le_refl w.heap.size; simp <;> omega) (.cells #[.int .i64 u0, .int .i64 u1, .int .i64 v0, .int .i64 v1] 23))
    generalize ((w.alloc (.cells #[.int .i64 x0, .int .i64 x1, .int .i64 y0, .int .i64 y1] 23)).alloc (.cells #[.int .i64 u0, .int .i64 u1, .int .i64 v0, .int .i64 v1] 23)) = Vc1_1 at RA_c1_1 RB_c1_1 B_c1_1 ⊢
    have cc1_3_0 := RA_c1_1.out.cell 0
    have cc1_3_1 := RA_c1_1.out.cell 1
    have cc1_3_2 := RA_c1_1.out.cell 2
    have cc1_3_3 := RA_c1_1.out.cell 3
    simp only [List.getElem?_cons_zero, List.getElem?_cons_succ] at cc1_3_0 cc1_3_1 cc1_3_2 cc1_3_3
    go_wp2_with fail
    refine (HA.out _).mono ?_
    rintro e Wc1_2 ⟨rfl, hb⟩
    clear cc1_3_0 cc1_3_1 cc1_3_2 cc1_3_3
    have RA_c1_4 := Lib.hid (RA_c1_1.out.below hb RA_c1_1.out.lt)
    have RB_c1_4 := Lib.hid (RB_c1_1.out.below hb RB_c1_1.out.lt)
    have B_c1_4 := Lib.hid (B_c1_1.out.trans (hb.mono B_c1_1.out.size))
    clear hb RA_c1_1 RB_c1_1 B_c1_1
    have cc1_6_0 := RB_c1_4.out.cell 0
    have cc1_6_1 := RB_c1_4.out.cell 1
    have cc1_6_2 := RB_c1_4.out.cell 2
    have cc1_6_3 := RB_c1_4.out.cell 3
    simp only [List.getElem?_cons_zero, List.getElem?_cons_succ] at cc1_6_0 cc1_6_1 cc1_6_2 cc1_6_3
    go_wp2_with fail
    refine (HB.out _).mono ?_
    rintro e Wc1_5 ⟨rfl, hb⟩
    clear cc1_6_0 cc1_6_1 cc1_6_2 cc1_6_3
    have RA_c1_7 := Lib.hid (RA_c1_4.out.below hb RA_c1_4.out.lt)
    have RB_c1_7 := Lib.hid (RB_c1_4.out.below hb RB_c1_4.out.lt)
    have B_c1_7 := Lib.hid (B_c1_4.out.trans (hb.mono B_c1_4.out.size))
    clear hb RA_c1_4 RB_c1_4 B_c1_4
    go_wp2
    go_ret
    exact ⟨rfl, B_c1_7.out⟩
  rw [h1] at HB
  cases h2 : insideB x0 x1 u0
  · rw [show coverB x0 x1 y0 y1 u0 u1 v0 v1 = false from by clear HA HB HI1 HI2 HI3 HI4; simp [coverB, boxB, insideB] at *; omega]
    rw [h2] at HI1
    clear h0 h1 h2
    go_enter Try.func14, Try.ntmps14
    go_upto_region 1 with fail
    have RA_c2_1 := Lib.hid ((row_last w (w.heap.size) 23 [.int .i64 x0, .int .i64 x1, .int .i64 y0, .int .i64 y1] (by simp)).alloc (.cells #[.int .i64 u0, .int .i64 u1, .int .i64 v0, .int .i64 v1] 23))
    have RB_c2_1 := Lib.hid (row_last (w.alloc (.cells #[.int .i64 x0, .int .i64 x1, .int .i64 y0, .int .i64 y1] 23)) (w.heap.size + 1) 23 [.int .i64 u0, .int .i64 u1, .int .i64 v0, .int .i64 v1] (by simp))
    have B_c2_1 := Lib.hid (((Below.refl w.heap.size w).alloc (Nat.le_refl _) (.cells #[.int .i64 x0, .int .i64 x1, .int .i64 y0, .int .i64 y1] 23)).alloc (by have := Nat.le_refl w.heap.size; simp <;> omega) (.cells #[.int .i64 u0, .int .i64 u1, .int .i64 v0, .int .i64 v1] 23))
    generalize ((w.alloc (.cells #[.int .i64 x0, .int .i64 x1, .int .i64 y0, .int .i64 y1] 23)).alloc (.cells #[.int .i64 u0, .int .i64 u1, .int .i64 v0, .int .i64 v1] 23)) = Vc2_1 at RA_c2_1 RB_c2_1 B_c2_1 ⊢
    have cc2_3_0 := RA_c2_1.out.cell 0
    have cc2_3_1 := RA_c2_1.out.cell 1
    have cc2_3_2 := RA_c2_1.out.cell 2
    have cc2_3_3 := RA_c2_1.out.cell 3
    simp only [List.getElem?_cons_zero, List.getElem?_cons_succ] at cc2_3_0 cc2_3_1 cc2_3_2 cc2_3_3
    go_wp2_with fail
    refine (HA.out _).mono ?_
    rintro e Wc2_2 ⟨rfl, hb⟩
    clear cc2_3_0 cc2_3_1 cc2_3_2 cc2_3_3
    have RA_c2_4 := Lib.hid (RA_c2_1.out.below hb RA_c2_1.out.lt)
    have RB_c2_4 := Lib.hid (RB_c2_1.out.below hb RB_c2_1.out.lt)
    have B_c2_4 := Lib.hid (B_c2_1.out.trans (hb.mono B_c2_1.out.size))
    clear hb RA_c2_1 RB_c2_1 B_c2_1
    have cc2_6_0 := RB_c2_4.out.cell 0
    have cc2_6_1 := RB_c2_4.out.cell 1
    have cc2_6_2 := RB_c2_4.out.cell 2
    have cc2_6_3 := RB_c2_4.out.cell 3
    simp only [List.getElem?_cons_zero, List.getElem?_cons_succ] at cc2_6_0 cc2_6_1 cc2_6_2 cc2_6_3
    go_wp2_with fail
    refine (HB.out _).mono ?_
    rintro e Wc2_5 ⟨rfl, hb⟩
    clear cc2_6_0 cc2_6_1 cc2_6_2 cc2_6_3
    have RA_c2_7 := Lib.hid (RA_c2_4.out.below hb RA_c2_4.out.lt)
    have RB_c2_7 := Lib.hid (RB_c2_4.out.below hb RB_c2_4.out.lt)
    have B_c2_7 := Lib.hid (B_c2_4.out.trans (hb.mono B_c2_4.out.size))
    clear hb RA_c2_4 RB_c2_4 B_c2_4
    have cc2_9_0 := RA_c2_7.out.cell 0
    have cc2_9_1 := RA_c2_7.out.cell 1
    have cc2_9_2 := RA_c2_7.out.cell 2
    have cc2_9_3 := RA_c2_7.out.cell 3
    simp only [List.getElem?_cons_zero, List.getElem?_cons_succ] at cc2_9_0 cc2_9_1 cc2_9_2 cc2_9_3
    have cc2_10_0 := RB_c2_7.out.cell 0
    have cc2_10_1 := RB_c2_7.out.cell 1
    have cc2_10_2 := RB_c2_7.out.cell 2
    have cc2_10_3 := RB_c2_7.out.cell 3
    simp only [List.getElem?_cons_zero, List.getElem?_cons_succ] at cc2_10_0 cc2_10_1 cc2_10_2 cc2_10_3
    go_wp2_with fail
    refine (HI1.out _).mono ?_
    rintro e Wc2_8 ⟨rfl, hb⟩
    clear cc2_9_0 cc2_9_1 cc2_9_2 cc2_9_3 cc2_10_0 cc2_10_1 cc2_10_2 cc2_10_3
    have RA_c2_11 := Lib.hid (RA_c2_7.out.below hb RA_c2_7.out.lt)
    have RB_c2_11 := Lib.hid (RB_c2_7.out.below hb RB_c2_7.out.lt)
    have B_c2_11 := Lib.hid (B_c2_7.out.trans (hb.mono B_c2_7.out.size))
    clear hb RA_c2_7 RB_c2_7 B_c2_7
    go_wp2
    go_ret
    exact ⟨rfl, B_c2_11.out⟩
  rw [h2] at HI1
  cases h3 : insideB x0 x1 u1
  · rw [show coverB x0 x1 y0 y1 u0 u1 v0 v1 = false from by clear HA HB HI1 HI2 HI3 HI4; simp [coverB, boxB, insideB] at *; omega]
    rw [h3] at HI2
    clear h0 h1 h2 h3
    go_enter Try.func14, Try.ntmps14
    go_upto_region 1 with fail
    have RA_c3_1 := Lib.hid ((row_last w (w.heap.size) 23 [.int .i64 x0, .int .i64 x1, .int .i64 y0, .int .i64 y1] (by simp)).alloc (.cells #[.int .i64 u0, .int .i64 u1, .int .i64 v0, .int .i64 v1] 23))
    have RB_c3_1 := Lib.hid (row_last (w.alloc (.cells #[.int .i64 x0, .int .i64 x1, .int .i64 y0, .int .i64 y1] 23)) (w.heap.size + 1) 23 [.int .i64 u0, .int .i64 u1, .int .i64 v0, .int .i64 v1] (by simp))
    have B_c3_1 := Lib.hid (((Below.refl w.heap.size w).alloc (Nat.le_refl _) (.cells #[.int .i64 x0, .int .i64 x1, .int .i64 y0, .int .i64 y1] 23)).alloc (by have := Nat.le_refl w.heap.size; simp <;> omega) (.cells #[.int .i64 u0, .int .i64 u1, .int .i64 v0, .int .i64 v1] 23))
    generalize ((w.alloc (.cells #[.int .i64 x0, .int .i64 x1, .int .i64 y0, .int .i64 y1] 23)).alloc (.cells #[.int .i64 u0, .int .i64 u1, .int .i64 v0, .int .i64 v1] 23)) = Vc3_1 at RA_c3_1 RB_c3_1 B_c3_1 ⊢
    have cc3_3_0 := RA_c3_1.out.cell 0
    have cc3_3_1 := RA_c3_1.out.cell 1
    have cc3_3_2 := RA_c3_1.out.cell 2
    have cc3_3_3 := RA_c3_1.out.cell 3
    simp only [List.getElem?_cons_zero, List.getElem?_cons_succ] at cc3_3_0 cc3_3_1 cc3_3_2 cc3_3_3
    go_wp2_with fail
    refine (HA.out _).mono ?_
    rintro e Wc3_2 ⟨rfl, hb⟩
    clear cc3_3_0 cc3_3_1 cc3_3_2 cc3_3_3
    have RA_c3_4 := Lib.hid (RA_c3_1.out.below hb RA_c3_1.out.lt)
    have RB_c3_4 := Lib.hid (RB_c3_1.out.below hb RB_c3_1.out.lt)
    have B_c3_4 := Lib.hid (B_c3_1.out.trans (hb.mono B_c3_1.out.size))
    clear hb RA_c3_1 RB_c3_1 B_c3_1
    have cc3_6_0 := RB_c3_4.out.cell 0
    have cc3_6_1 := RB_c3_4.out.cell 1
    have cc3_6_2 := RB_c3_4.out.cell 2
    have cc3_6_3 := RB_c3_4.out.cell 3
    simp only [List.getElem?_cons_zero, List.getElem?_cons_succ] at cc3_6_0 cc3_6_1 cc3_6_2 cc3_6_3
    go_wp2_with fail
    refine (HB.out _).mono ?_
    rintro e Wc3_5 ⟨rfl, hb⟩
    clear cc3_6_0 cc3_6_1 cc3_6_2 cc3_6_3
    have RA_c3_7 := Lib.hid (RA_c3_4.out.below hb RA_c3_4.out.lt)
    have RB_c3_7 := Lib.hid (RB_c3_4.out.below hb RB_c3_4.out.lt)
    have B_c3_7 := Lib.hid (B_c3_4.out.trans (hb.mono B_c3_4.out.size))
    clear hb RA_c3_4 RB_c3_4 B_c3_4
    have cc3_9_0 := RA_c3_7.out.cell 0
    have cc3_9_1 := RA_c3_7.out.cell 1
    have cc3_9_2 := RA_c3_7.out.cell 2
    have cc3_9_3 := RA_c3_7.out.cell 3
    simp only [List.getElem?_cons_zero, List.getElem?_cons_succ] at cc3_9_0 cc3_9_1 cc3_9_2 cc3_9_3
    have cc3_10_0 := RB_c3_7.out.cell 0
    have cc3_10_1 := RB_c3_7.out.cell 1
    have cc3_10_2 := RB_c3_7.out.cell 2
    have cc3_10_3 := RB_c3_7.out.cell 3
    simp only [List.getElem?_cons_zero, List.getElem?_cons_succ] at cc3_10_0 cc3_10_1 cc3_10_2 cc3_10_3
    go_wp2_with fail
    refine (HI1.out _).mono ?_
    rintro e Wc3_8 ⟨rfl, hb⟩
    clear cc3_9_0 cc3_9_1 cc3_9_2 cc3_9_3 cc3_10_0 cc3_10_1 cc3_10_2 cc3_10_3
    have RA_c3_11 := Lib.hid (RA_c3_7.out.below hb RA_c3_7.out.lt)
    have RB_c3_11 := Lib.hid (RB_c3_7.out.below hb RB_c3_7.out.lt)
    have B_c3_11 := Lib.hid (B_c3_7.out.trans (hb.mono B_c3_7.out.size))
    clear hb RA_c3_7 RB_c3_7 B_c3_7
    have cc3_13_0 := RA_c3_11.out.cell 0
    have cc3_13_1 := RA_c3_11.out.cell 1
    have cc3_13_2 := RA_c3_11.out.cell 2
    have cc3_13_3 := RA_c3_11.out.cell 3
    simp only [List.getElem?_cons_zero, List.getElem?_cons_succ] at cc3_13_0 cc3_13_1 cc3_13_2 cc3_13_3
    have cc3_14_0 := RB_c3_11.out.cell 0
    have cc3_14_1 := RB_c3_11.out.cell 1
    have cc3_14_2 := RB_c3_11.out.cell 2
    have cc3_14_3 := RB_c3_11.out.cell 3
    simp only [List.getElem?_cons_zero, List.getElem?_cons_succ] at cc3_14_0 cc3_14_1 cc3_14_2 cc3_14_3
    go_wp2_with fail
    refine (HI2.out _).mono ?_
    rintro e Wc3_12 ⟨rfl, hb⟩
    clear cc3_13_0 cc3_13_1 cc3_13_2 cc3_13_3 cc3_14_0 cc3_14_1 cc3_14_2 cc3_14_3
    have RA_c3_15 := Lib.hid (RA_c3_11.out.below hb RA_c3_11.out.lt)
    have RB_c3_15 := Lib.hid (RB_c3_11.out.below hb RB_c3_11.out.lt)
    have B_c3_15 := Lib.hid (B_c3_11.out.trans (hb.mono B_c3_11.out.size))
    clear hb RA_c3_11 RB_c3_11 B_c3_11
    go_wp2
    go_ret
    exact ⟨rfl, B_c3_15.out⟩
  rw [h3] at HI2
  cases h4 : insideB y0 y1 v0
  · rw [show coverB x0 x1 y0 y1 u0 u1 v0 v1 = false from by clear HA HB HI1 HI2 HI3 HI4; simp [coverB, boxB, insideB] at *; omega]
    rw [h4] at HI3
    clear h0 h1 h2 h3 h4
    go_enter Try.func14, Try.ntmps14
    go_upto_region 1 with fail
    have RA_c4_1 := Lib.hid ((row_last w (w.heap.size) 23 [.int .i64 x0, .int .i64 x1, .int .i64 y0, .int .i64 y1] (by simp)).alloc (.cells #[.int .i64 u0, .int .i64 u1, .int .i64 v0, .int .i64 v1] 23))
    have RB_c4_1 := Lib.hid (row_last (w.alloc (.cells #[.int .i64 x0, .int .i64 x1, .int .i64 y0, .int .i64 y1] 23)) (w.heap.size + 1) 23 [.int .i64 u0, .int .i64 u1, .int .i64 v0, .int .i64 v1] (by simp))
    have B_c4_1 := Lib.hid (((Below.refl w.heap.size w).alloc (Nat.le_refl _) (.cells #[.int .i64 x0, .int .i64 x1, .int .i64 y0, .int .i64 y1] 23)).alloc (by have := Nat.le_refl w.heap.size; simp <;> omega) (.cells #[.int .i64 u0, .int .i64 u1, .int .i64 v0, .int .i64 v1] 23))
    generalize ((w.alloc (.cells #[.int .i64 x0, .int .i64 x1, .int .i64 y0, .int .i64 y1] 23)).alloc (.cells #[.int .i64 u0, .int .i64 u1, .int .i64 v0, .int .i64 v1] 23)) = Vc4_1 at RA_c4_1 RB_c4_1 B_c4_1 ⊢
    have cc4_3_0 := RA_c4_1.out.cell 0
    have cc4_3_1 := RA_c4_1.out.cell 1
    have cc4_3_2 := RA_c4_1.out.cell 2
    have cc4_3_3 := RA_c4_1.out.cell 3
    simp only [List.getElem?_cons_zero, List.getElem?_cons_succ] at cc4_3_0 cc4_3_1 cc4_3_2 cc4_3_3
    go_wp2_with fail
    refine (HA.out _).mono ?_
    rintro e Wc4_2 ⟨rfl, hb⟩
    clear cc4_3_0 cc4_3_1 cc4_3_2 cc4_3_3
    have RA_c4_4 := Lib.hid (RA_c4_1.out.below hb RA_c4_1.out.lt)
    have RB_c4_4 := Lib.hid (RB_c4_1.out.below hb RB_c4_1.out.lt)
    have B_c4_4 := Lib.hid (B_c4_1.out.trans (hb.mono B_c4_1.out.size))
    clear hb RA_c4_1 RB_c4_1 B_c4_1
    have cc4_6_0 := RB_c4_4.out.cell 0
    have cc4_6_1 := RB_c4_4.out.cell 1
    have cc4_6_2 := RB_c4_4.out.cell 2
    have cc4_6_3 := RB_c4_4.out.cell 3
    simp only [List.getElem?_cons_zero, List.getElem?_cons_succ] at cc4_6_0 cc4_6_1 cc4_6_2 cc4_6_3
    go_wp2_with fail
    refine (HB.out _).mono ?_
    rintro e Wc4_5 ⟨rfl, hb⟩
    clear cc4_6_0 cc4_6_1 cc4_6_2 cc4_6_3
    have RA_c4_7 := Lib.hid (RA_c4_4.out.below hb RA_c4_4.out.lt)
    have RB_c4_7 := Lib.hid (RB_c4_4.out.below hb RB_c4_4.out.lt)
    have B_c4_7 := Lib.hid (B_c4_4.out.trans (hb.mono B_c4_4.out.size))
    clear hb RA_c4_4 RB_c4_4 B_c4_4
    have cc4_9_0 := RA_c4_7.out.cell 0
    have cc4_9_1 := RA_c4_7.out.cell 1
    have cc4_9_2 := RA_c4_7.out.cell 2
    have cc4_9_3 := RA_c4_7.out.cell 3
    simp only [List.getElem?_cons_zero, List.getElem?_cons_succ] at cc4_9_0 cc4_9_1 cc4_9_2 cc4_9_3
    have cc4_10_0 := RB_c4_7.out.cell 0
    have cc4_10_1 := RB_c4_7.out.cell 1
    have cc4_10_2 := RB_c4_7.out.cell 2
    have cc4_10_3 := RB_c4_7.out.cell 3
    simp only [List.getElem?_cons_zero, List.getElem?_cons_succ] at cc4_10_0 cc4_10_1 cc4_10_2 cc4_10_3
    go_wp2_with fail
    refine (HI1.out _).mono ?_
    rintro e Wc4_8 ⟨rfl, hb⟩
    clear cc4_9_0 cc4_9_1 cc4_9_2 cc4_9_3 cc4_10_0 cc4_10_1 cc4_10_2 cc4_10_3
    have RA_c4_11 := Lib.hid (RA_c4_7.out.below hb RA_c4_7.out.lt)
    have RB_c4_11 := Lib.hid (RB_c4_7.out.below hb RB_c4_7.out.lt)
    have B_c4_11 := Lib.hid (B_c4_7.out.trans (hb.mono B_c4_7.out.size))
    clear hb RA_c4_7 RB_c4_7 B_c4_7
    have cc4_13_0 := RA_c4_11.out.cell 0
    have cc4_13_1 := RA_c4_11.out.cell 1
    have cc4_13_2 := RA_c4_11.out.cell 2
    have cc4_13_3 := RA_c4_11.out.cell 3
    simp only [List.getElem?_cons_zero, List.getElem?_cons_succ] at cc4_13_0 cc4_13_1 cc4_13_2 cc4_13_3
    have cc4_14_0 := RB_c4_11.out.cell 0
    have cc4_14_1 := RB_c4_11.out.cell 1
    have cc4_14_2 := RB_c4_11.out.cell 2
    have cc4_14_3 := RB_c4_11.out.cell 3
    simp only [List.getElem?_cons_zero, List.getElem?_cons_succ] at cc4_14_0 cc4_14_1 cc4_14_2 cc4_14_3
    go_wp2_with fail
    refine (HI2.out _).mono ?_
    rintro e Wc4_12 ⟨rfl, hb⟩
    clear cc4_13_0 cc4_13_1 cc4_13_2 cc4_13_3 cc4_14_0 cc4_14_1 cc4_14_2 cc4_14_3
    have RA_c4_15 := Lib.hid (RA_c4_11.out.below hb RA_c4_11.out.lt)
    have RB_c4_15 := Lib.hid (RB_c4_11.out.below hb RB_c4_11.out.lt)
    have B_c4_15 := Lib.hid (B_c4_11.out.trans (hb.mono B_c4_11.out.size))
    clear hb RA_c4_11 RB_c4_11 B_c4_11
    have cc4_17_0 := RA_c4_15.out.cell 0
    have cc4_17_1 := RA_c4_15.out.cell 1
    have cc4_17_2 := RA_c4_15.out.cell 2
    have cc4_17_3 := RA_c4_15.out.cell 3
    simp only [List.getElem?_cons_zero, List.getElem?_cons_succ] at cc4_17_0 cc4_17_1 cc4_17_2 cc4_17_3
    have cc4_18_0 := RB_c4_15.out.cell 0
    have cc4_18_1 := RB_c4_15.out.cell 1
    have cc4_18_2 := RB_c4_15.out.cell 2
    have cc4_18_3 := RB_c4_15.out.cell 3
    simp only [List.getElem?_cons_zero, List.getElem?_cons_succ] at cc4_18_0 cc4_18_1 cc4_18_2 cc4_18_3
    go_wp2_with fail
    refine (HI3.out _).mono ?_
    rintro e Wc4_16 ⟨rfl, hb⟩
    clear cc4_17_0 cc4_17_1 cc4_17_2 cc4_17_3 cc4_18_0 cc4_18_1 cc4_18_2 cc4_18_3
    have RA_c4_19 := Lib.hid (RA_c4_15.out.below hb RA_c4_15.out.lt)
    have RB_c4_19 := Lib.hid (RB_c4_15.out.below hb RB_c4_15.out.lt)
    have B_c4_19 := Lib.hid (B_c4_15.out.trans (hb.mono B_c4_15.out.size))
    clear hb RA_c4_15 RB_c4_15 B_c4_15
    go_wp2
    go_ret
    exact ⟨rfl, B_c4_19.out⟩
  rw [h4] at HI3
  cases h5 : insideB y0 y1 v1
  · rw [show coverB x0 x1 y0 y1 u0 u1 v0 v1 = false from by clear HA HB HI1 HI2 HI3 HI4; simp [coverB, boxB, insideB] at *; omega]
    rw [h5] at HI4
    clear h0 h1 h2 h3 h4 h5
    go_enter Try.func14, Try.ntmps14
    go_upto_region 1 with fail
    have RA_c5_1 := Lib.hid ((row_last w (w.heap.size) 23 [.int .i64 x0, .int .i64 x1, .int .i64 y0, .int .i64 y1] (by simp)).alloc (.cells #[.int .i64 u0, .int .i64 u1, .int .i64 v0, .int .i64 v1] 23))
    have RB_c5_1 := Lib.hid (row_last (w.alloc (.cells #[.int .i64 x0, .int .i64 x1, .int .i64 y0, .int .i64 y1] 23)) (w.heap.size + 1) 23 [.int .i64 u0, .int .i64 u1, .int .i64 v0, .int .i64 v1] (by simp))
    have B_c5_1 := Lib.hid (((Below.refl w.heap.size w).alloc (Nat.le_refl _) (.cells #[.int .i64 x0, .int .i64 x1, .int .i64 y0, .int .i64 y1] 23)).alloc (by have := Nat.le_refl w.heap.size; simp <;> omega) (.cells #[.int .i64 u0, .int .i64 u1, .int .i64 v0, .int .i64 v1] 23))
    generalize ((w.alloc (.cells #[.int .i64 x0, .int .i64 x1, .int .i64 y0, .int .i64 y1] 23)).alloc (.cells #[.int .i64 u0, .int .i64 u1, .int .i64 v0, .int .i64 v1] 23)) = Vc5_1 at RA_c5_1 RB_c5_1 B_c5_1 ⊢
    have cc5_3_0 := RA_c5_1.out.cell 0
    have cc5_3_1 := RA_c5_1.out.cell 1
    have cc5_3_2 := RA_c5_1.out.cell 2
    have cc5_3_3 := RA_c5_1.out.cell 3
    simp only [List.getElem?_cons_zero, List.getElem?_cons_succ] at cc5_3_0 cc5_3_1 cc5_3_2 cc5_3_3
    go_wp2_with fail
    refine (HA.out _).mono ?_
    rintro e Wc5_2 ⟨rfl, hb⟩
    clear cc5_3_0 cc5_3_1 cc5_3_2 cc5_3_3
    have RA_c5_4 := Lib.hid (RA_c5_1.out.below hb RA_c5_1.out.lt)
    have RB_c5_4 := Lib.hid (RB_c5_1.out.below hb RB_c5_1.out.lt)
    have B_c5_4 := Lib.hid (B_c5_1.out.trans (hb.mono B_c5_1.out.size))
    clear hb RA_c5_1 RB_c5_1 B_c5_1
    have cc5_6_0 := RB_c5_4.out.cell 0
    have cc5_6_1 := RB_c5_4.out.cell 1
    have cc5_6_2 := RB_c5_4.out.cell 2
    have cc5_6_3 := RB_c5_4.out.cell 3
    simp only [List.getElem?_cons_zero, List.getElem?_cons_succ] at cc5_6_0 cc5_6_1 cc5_6_2 cc5_6_3
    go_wp2_with fail
    refine (HB.out _).mono ?_
    rintro e Wc5_5 ⟨rfl, hb⟩
    clear cc5_6_0 cc5_6_1 cc5_6_2 cc5_6_3
    have RA_c5_7 := Lib.hid (RA_c5_4.out.below hb RA_c5_4.out.lt)
    have RB_c5_7 := Lib.hid (RB_c5_4.out.below hb RB_c5_4.out.lt)
    have B_c5_7 := Lib.hid (B_c5_4.out.trans (hb.mono B_c5_4.out.size))
    clear hb RA_c5_4 RB_c5_4 B_c5_4
    have cc5_9_0 := RA_c5_7.out.cell 0
    have cc5_9_1 := RA_c5_7.out.cell 1
    have cc5_9_2 := RA_c5_7.out.cell 2
    have cc5_9_3 := RA_c5_7.out.cell 3
    simp only [List.getElem?_cons_zero, List.getElem?_cons_succ] at cc5_9_0 cc5_9_1 cc5_9_2 cc5_9_3
    have cc5_10_0 := RB_c5_7.out.cell 0
    have cc5_10_1 := RB_c5_7.out.cell 1
    have cc5_10_2 := RB_c5_7.out.cell 2
    have cc5_10_3 := RB_c5_7.out.cell 3
    simp only [List.getElem?_cons_zero, List.getElem?_cons_succ] at cc5_10_0 cc5_10_1 cc5_10_2 cc5_10_3
    go_wp2_with fail
    refine (HI1.out _).mono ?_
    rintro e Wc5_8 ⟨rfl, hb⟩
    clear cc5_9_0 cc5_9_1 cc5_9_2 cc5_9_3 cc5_10_0 cc5_10_1 cc5_10_2 cc5_10_3
    have RA_c5_11 := Lib.hid (RA_c5_7.out.below hb RA_c5_7.out.lt)
    have RB_c5_11 := Lib.hid (RB_c5_7.out.below hb RB_c5_7.out.lt)
    have B_c5_11 := Lib.hid (B_c5_7.out.trans (hb.mono B_c5_7.out.size))
    clear hb RA_c5_7 RB_c5_7 B_c5_7
    have cc5_13_0 := RA_c5_11.out.cell 0
    have cc5_13_1 := RA_c5_11.out.cell 1
    have cc5_13_2 := RA_c5_11.out.cell 2
    have cc5_13_3 := RA_c5_11.out.cell 3
    simp only [List.getElem?_cons_zero, List.getElem?_cons_succ] at cc5_13_0 cc5_13_1 cc5_13_2 cc5_13_3
    have cc5_14_0 := RB_c5_11.out.cell 0
    have cc5_14_1 := RB_c5_11.out.cell 1
    have cc5_14_2 := RB_c5_11.out.cell 2
    have cc5_14_3 := RB_c5_11.out.cell 3
    simp only [List.getElem?_cons_zero, List.getElem?_cons_succ] at cc5_14_0 cc5_14_1 cc5_14_2 cc5_14_3
    go_wp2_with fail
    refine (HI2.out _).mono ?_
    rintro e Wc5_12 ⟨rfl, hb⟩
    clear cc5_13_0 cc5_13_1 cc5_13_2 cc5_13_3 cc5_14_0 cc5_14_1 cc5_14_2 cc5_14_3
    have RA_c5_15 := Lib.hid (RA_c5_11.out.below hb RA_c5_11.out.lt)
    have RB_c5_15 := Lib.hid (RB_c5_11.out.below hb RB_c5_11.out.lt)
    have B_c5_15 := Lib.hid (B_c5_11.out.trans (hb.mono B_c5_11.out.size))
    clear hb RA_c5_11 RB_c5_11 B_c5_11
    have cc5_17_0 := RA_c5_15.out.cell 0
    have cc5_17_1 := RA_c5_15.out.cell 1
    have cc5_17_2 := RA_c5_15.out.cell 2
    have cc5_17_3 := RA_c5_15.out.cell 3
    simp only [List.getElem?_cons_zero, List.getElem?_cons_succ] at cc5_17_0 cc5_17_1 cc5_17_2 cc5_17_3
    have cc5_18_0 := RB_c5_15.out.cell 0
    have cc5_18_1 := RB_c5_15.out.cell 1
    have cc5_18_2 := RB_c5_15.out.cell 2
    have cc5_18_3 := RB_c5_15.out.cell 3
    simp only [List.getElem?_cons_zero, List.getElem?_cons_succ] at cc5_18_0 cc5_18_1 cc5_18_2 cc5_18_3
    go_wp2_with fail
    refine (HI3.out _).mono ?_
    rintro e Wc5_16 ⟨rfl, hb⟩
    clear cc5_17_0 cc5_17_1 cc5_17_2 cc5_17_3 cc5_18_0 cc5_18_1 cc5_18_2 cc5_18_3
    have RA_c5_19 := Lib.hid (RA_c5_15.out.below hb RA_c5_15.out.lt)
    have RB_c5_19 := Lib.hid (RB_c5_15.out.below hb RB_c5_15.out.lt)
    have B_c5_19 := Lib.hid (B_c5_15.out.trans (hb.mono B_c5_15.out.size))
    clear hb RA_c5_15 RB_c5_15 B_c5_15
    have cc5_21_0 := RA_c5_19.out.cell 0
    have cc5_21_1 := RA_c5_19.out.cell 1
    have cc5_21_2 := RA_c5_19.out.cell 2
    have cc5_21_3 := RA_c5_19.out.cell 3
    simp only [List.getElem?_cons_zero, List.getElem?_cons_succ] at cc5_21_0 cc5_21_1 cc5_21_2 cc5_21_3
    have cc5_22_0 := RB_c5_19.out.cell 0
    have cc5_22_1 := RB_c5_19.out.cell 1
    have cc5_22_2 := RB_c5_19.out.cell 2
    have cc5_22_3 := RB_c5_19.out.cell 3
    simp only [List.getElem?_cons_zero, List.getElem?_cons_succ] at cc5_22_0 cc5_22_1 cc5_22_2 cc5_22_3
    go_wp2_with fail
    refine (HI4.out _).mono ?_
    rintro e Wc5_20 ⟨rfl, hb⟩
    clear cc5_21_0 cc5_21_1 cc5_21_2 cc5_21_3 cc5_22_0 cc5_22_1 cc5_22_2 cc5_22_3
    have RA_c5_23 := Lib.hid (RA_c5_19.out.below hb RA_c5_19.out.lt)
    have RB_c5_23 := Lib.hid (RB_c5_19.out.below hb RB_c5_19.out.lt)
    have B_c5_23 := Lib.hid (B_c5_19.out.trans (hb.mono B_c5_19.out.size))
    clear hb RA_c5_19 RB_c5_19 B_c5_19
    go_wp2
    go_ret
    exact ⟨rfl, B_c5_23.out⟩
  rw [h5] at HI4
  rw [show coverB x0 x1 y0 y1 u0 u1 v0 v1 = true from by clear HA HB HI1 HI2 HI3 HI4; simp [coverB, boxB, insideB] at *; omega]
  clear h0 h1 h2 h3 h4 h5
  go_enter Try.func14, Try.ntmps14
  go_upto_region 1 with fail
  have RA_c6_1 := Lib.hid ((row_last w (w.heap.size) 23 [.int .i64 x0, .int .i64 x1, .int .i64 y0, .int .i64 y1] (by simp)).alloc (.cells #[.int .i64 u0, .int .i64 u1, .int .i64 v0, .int .i64 v1] 23))
  have RB_c6_1 := Lib.hid (row_last (w.alloc (.cells #[.int .i64 x0, .int .i64 x1, .int .i64 y0, .int .i64 y1] 23)) (w.heap.size + 1) 23 [.int .i64 u0, .int .i64 u1, .int .i64 v0, .int .i64 v1] (by simp))
  have B_c6_1 := Lib.hid (((Below.refl w.heap.size w).alloc (Nat.le_refl _) (.cells #[.int .i64 x0, .int .i64 x1, .int .i64 y0, .int .i64 y1] 23)).alloc (by have := Nat.le_refl w.heap.size; simp <;> omega) (.cells #[.int .i64 u0, .int .i64 u1, .int .i64 v0, .int .i64 v1] 23))
  generalize ((w.alloc (.cells #[.int .i64 x0, .int .i64 x1, .int .i64 y0, .int .i64 y1] 23)).alloc (.cells #[.int .i64 u0, .int .i64 u1, .int .i64 v0, .int .i64 v1] 23)) = Vc6_1 at RA_c6_1 RB_c6_1 B_c6_1 ⊢
  have cc6_3_0 := RA_c6_1.out.cell 0
  have cc6_3_1 := RA_c6_1.out.cell 1
  have cc6_3_2 := RA_c6_1.out.cell 2
  have cc6_3_3 := RA_c6_1.out.cell 3
  simp only [List.getElem?_cons_zero, List.getElem?_cons_succ] at cc6_3_0 cc6_3_1 cc6_3_2 cc6_3_3
  go_wp2_with fail
  refine (HA.out _).mono ?_
  rintro e Wc6_2 ⟨rfl, hb⟩
  clear cc6_3_0 cc6_3_1 cc6_3_2 cc6_3_3
  have RA_c6_4 := Lib.hid (RA_c6_1.out.below hb RA_c6_1.out.lt)
  have RB_c6_4 := Lib.hid (RB_c6_1.out.below hb RB_c6_1.out.lt)
  have B_c6_4 := Lib.hid (B_c6_1.out.trans (hb.mono B_c6_1.out.size))
  clear hb RA_c6_1 RB_c6_1 B_c6_1
  have cc6_6_0 := RB_c6_4.out.cell 0
  have cc6_6_1 := RB_c6_4.out.cell 1
  have cc6_6_2 := RB_c6_4.out.cell 2
  have cc6_6_3 := RB_c6_4.out.cell 3
  simp only [List.getElem?_cons_zero, List.getElem?_cons_succ] at cc6_6_0 cc6_6_1 cc6_6_2 cc6_6_3
  go_wp2_with fail
  refine (HB.out _).mono ?_
  rintro e Wc6_5 ⟨rfl, hb⟩
  clear cc6_6_0 cc6_6_1 cc6_6_2 cc6_6_3
  have RA_c6_7 := Lib.hid (RA_c6_4.out.below hb RA_c6_4.out.lt)
  have RB_c6_7 := Lib.hid (RB_c6_4.out.below hb RB_c6_4.out.lt)
  have B_c6_7 := Lib.hid (B_c6_4.out.trans (hb.mono B_c6_4.out.size))
  clear hb RA_c6_4 RB_c6_4 B_c6_4
  have cc6_9_0 := RA_c6_7.out.cell 0
  have cc6_9_1 := RA_c6_7.out.cell 1
  have cc6_9_2 := RA_c6_7.out.cell 2
  have cc6_9_3 := RA_c6_7.out.cell 3
  simp only [List.getElem?_cons_zero, List.getElem?_cons_succ] at cc6_9_0 cc6_9_1 cc6_9_2 cc6_9_3
  have cc6_10_0 := RB_c6_7.out.cell 0
  have cc6_10_1 := RB_c6_7.out.cell 1
  have cc6_10_2 := RB_c6_7.out.cell 2
  have cc6_10_3 := RB_c6_7.out.cell 3
  simp only [List.getElem?_cons_zero, List.getElem?_cons_succ] at cc6_10_0 cc6_10_1 cc6_10_2 cc6_10_3
  go_wp2_with fail
  refine (HI1.out _).mono ?_
  rintro e Wc6_8 ⟨rfl, hb⟩
  clear cc6_9_0 cc6_9_1 cc6_9_2 cc6_9_3 cc6_10_0 cc6_10_1 cc6_10_2 cc6_10_3
  have RA_c6_11 := Lib.hid (RA_c6_7.out.below hb RA_c6_7.out.lt)
  have RB_c6_11 := Lib.hid (RB_c6_7.out.below hb RB_c6_7.out.lt)
  have B_c6_11 := Lib.hid (B_c6_7.out.trans (hb.mono B_c6_7.out.size))
  clear hb RA_c6_7 RB_c6_7 B_c6_7
  have cc6_13_0 := RA_c6_11.out.cell 0
  have cc6_13_1 := RA_c6_11.out.cell 1
  have cc6_13_2 := RA_c6_11.out.cell 2
  have cc6_13_3 := RA_c6_11.out.cell 3
  simp only [List.getElem?_cons_zero, List.getElem?_cons_succ] at cc6_13_0 cc6_13_1 cc6_13_2 cc6_13_3
  have cc6_14_0 := RB_c6_11.out.cell 0
  have cc6_14_1 := RB_c6_11.out.cell 1
  have cc6_14_2 := RB_c6_11.out.cell 2
  have cc6_14_3 := RB_c6_11.out.cell 3
  simp only [List.getElem?_cons_zero, List.getElem?_cons_succ] at cc6_14_0 cc6_14_1 cc6_14_2 cc6_14_3
  go_wp2_with fail
  refine (HI2.out _).mono ?_
  rintro e Wc6_12 ⟨rfl, hb⟩
  clear cc6_13_0 cc6_13_1 cc6_13_2 cc6_13_3 cc6_14_0 cc6_14_1 cc6_14_2 cc6_14_3
  have RA_c6_15 := Lib.hid (RA_c6_11.out.below hb RA_c6_11.out.lt)
  have RB_c6_15 := Lib.hid (RB_c6_11.out.below hb RB_c6_11.out.lt)
  have B_c6_15 := Lib.hid (B_c6_11.out.trans (hb.mono B_c6_11.out.size))
  clear hb RA_c6_11 RB_c6_11 B_c6_11
  have cc6_17_0 := RA_c6_15.out.cell 0
  have cc6_17_1 := RA_c6_15.out.cell 1
  have cc6_17_2 := RA_c6_15.out.cell 2
  have cc6_17_3 := RA_c6_15.out.cell 3
  simp only [List.getElem?_cons_zero, List.getElem?_cons_succ] at cc6_17_0 cc6_17_1 cc6_17_2 cc6_17_3
  have cc6_18_0 := RB_c6_15.out.cell 0
  have cc6_18_1 := RB_c6_15.out.cell 1
  have cc6_18_2 := RB_c6_15.out.cell 2
  have cc6_18_3 := RB_c6_15.out.cell 3
  simp only [List.getElem?_cons_zero, List.getElem?_cons_succ] at cc6_18_0 cc6_18_1 cc6_18_2 cc6_18_3
  go_wp2_with fail
  refine (HI3.out _).mono ?_
  rintro e Wc6_16 ⟨rfl, hb⟩
  clear cc6_17_0 cc6_17_1 cc6_17_2 cc6_17_3 cc6_18_0 cc6_18_1 cc6_18_2 cc6_18_3
  have RA_c6_19 := Lib.hid (RA_c6_15.out.below hb RA_c6_15.out.lt)
  have RB_c6_19 := Lib.hid (RB_c6_15.out.below hb RB_c6_15.out.lt)
  have B_c6_19 := Lib.hid (B_c6_15.out.trans (hb.mono B_c6_15.out.size))
  clear hb RA_c6_15 RB_c6_15 B_c6_15
  have cc6_21_0 := RA_c6_19.out.cell 0
  have cc6_21_1 := RA_c6_19.out.cell 1
  have cc6_21_2 := RA_c6_19.out.cell 2
  have cc6_21_3 := RA_c6_19.out.cell 3
  simp only [List.getElem?_cons_zero, List.getElem?_cons_succ] at cc6_21_0 cc6_21_1 cc6_21_2 cc6_21_3
  have cc6_22_0 := RB_c6_19.out.cell 0
  have cc6_22_1 := RB_c6_19.out.cell 1
  have cc6_22_2 := RB_c6_19.out.cell 2
  have cc6_22_3 := RB_c6_19.out.cell 3
  simp only [List.getElem?_cons_zero, List.getElem?_cons_succ] at cc6_22_0 cc6_22_1 cc6_22_2 cc6_22_3
  go_wp2_with fail
  refine (HI4.out _).mono ?_
  rintro e Wc6_20 ⟨rfl, hb⟩
  clear cc6_21_0 cc6_21_1 cc6_21_2 cc6_21_3 cc6_22_0 cc6_22_1 cc6_22_2 cc6_22_3
  have RA_c6_23 := Lib.hid (RA_c6_19.out.below hb RA_c6_19.out.lt)
  have RB_c6_23 := Lib.hid (RB_c6_19.out.below hb RB_c6_19.out.lt)
  have B_c6_23 := Lib.hid (B_c6_19.out.trans (hb.mono B_c6_19.out.size))
  clear hb RA_c6_19 RB_c6_19 B_c6_19
  go_wp2
  go_ret
  exact ⟨rfl, B_c6_23.out⟩
end Go.Proofs.Ytbmfijcckdkmdaa.Ky
