/-
  Keys: the reference's Box, inside, Right, Meets, Covers, Union; Check of whatever class.
-/
import Derived.Test.YtbmfijcckdkmdaaKy3
import Derived.LoopTactic
import Derived.Deep.RegionHeld
import Derived.Deep.Cut
import Derived.WalkLawsBesides
namespace Go.Proofs.Ytbmfijcckdkmdaa.Ky
set_option maxRecDepth 100000
open Go.RowKit Go.Proofs.Ytbmfijcckdkmdaa.Wd Go.Proofs.Ytbmfijcckdkmdaa.Wi Go.Proofs.Ytbmfijcckdkmdaa.Lift


theorem Box_ref (x0 x1 y0 y1 : Int) (w : World) : Calls Try.prog 23 #[KV x0 x1 y0 y1] w fun e w' => e = .returned (.bool (boxB x0 x1 y0 y1)) ∧ Below w.heap.size w w' := by
  by_cases h1 : x0 ≤ x1
  · by_cases h2 : y0 ≤ y1
    · rw [show boxB x0 x1 y0 y1 = true from by simp [boxB]; omega]
      go_enter Try.func23, Try.ntmps23
      go_wp2
      go_ret
      exact ⟨rfl, (Below.refl _ _).alloc (Nat.le_refl _) _⟩
    · rw [show boxB x0 x1 y0 y1 = false from by simp [boxB]; omega]
      go_enter Try.func23, Try.ntmps23
      go_wp2
      go_ret
      exact ⟨rfl, (Below.refl _ _).alloc (Nat.le_refl _) _⟩
  · rw [show boxB x0 x1 y0 y1 = false from by simp [boxB]; omega]
    go_enter Try.func23, Try.ntmps23
    go_wp2
    go_ret
    exact ⟨rfl, (Below.refl _ _).alloc (Nat.le_refl _) _⟩

def insideB (a b x : Int) : Bool := decide (a ≤ x) && decide (x ≤ b)
theorem inside_ref (a b x : Int) (w : World) : Calls Try.prog 25 #[.int .i64 a, .int .i64 b, .int .i64 x] w fun e w' => e = .returned (.bool (insideB a b x)) ∧ w = w' := by
  by_cases h1 : a ≤ x
  · by_cases h2 : x ≤ b
    · rw [show insideB a b x = true from by simp [insideB]; omega]
      go_enter Try.func25, Try.ntmps25
      go_wp2
      go_ret
      exact ⟨rfl, rfl⟩
    · rw [show insideB a b x = false from by simp [insideB]; omega]
      go_enter Try.func25, Try.ntmps25
      go_wp2
      go_ret
      exact ⟨rfl, rfl⟩
  · rw [show insideB a b x = false from by simp [insideB]; omega]
    go_enter Try.func25, Try.ntmps25
    go_wp2
    go_ret
    exact ⟨rfl, rfl⟩

theorem inside_bel (a b x : Int) (w : World) : Calls Try.prog 25 #[.int .i64 a, .int .i64 b, .int .i64 x] w fun e w' => e = .returned (.bool (insideB a b x)) ∧ Below w.heap.size w w' :=
  (inside_ref a b x w).mono fun _ _ h => ⟨h.1, h.2 ▸ Below.refl _ _⟩

/-- is a key of a class? -/
def rightB (c : Int) (x0 x1 y0 y1 : Int) : Bool := boxB x0 x1 y0 y1 && (decide (c = 1) || decide (c = 2 ∧ y0 = 0 ∧ y1 = 0) || decide (c = 3 ∧ x0 = x1 ∧ y0 = y1))

set_option maxHeartbeats 4000000 in
theorem Right_ref (c x0 x1 y0 y1 : Int) (w : World) : Calls Try.prog 10 #[.int .i64 c, KV x0 x1 y0 y1] w fun e w' => e = .returned (.bool (rightB c x0 x1 y0 y1)) ∧ Below w.heap.size w w' := by
  by_cases h0 : x0 ≤ x1
  · by_cases h1 : y0 ≤ y1
    · by_cases h2 : c = 1
      · subst h2
        rw [show rightB (1) (x0) (x1) (y0) (y1) = true from by simp [rightB, boxB] <;> omega]
        have HB := Lib.hid (Box_ref (x0) (x1) (y0) (y1))
        rw [show boxB (x0) (x1) (y0) (y1) = true from by simp [boxB] <;> omega] at HB
        go_enter Try.func10, Try.ntmps10
        go_upto_region 1 with fail
        have RA_a4_1 := Lib.hid (row_last w (w.heap.size) 23 [.int .i64 x0, .int .i64 x1, .int .i64 y0, .int .i64 y1] (by simp))
        have B_a4_1 := Lib.hid ((Below.refl w.heap.size w).alloc (Nat.le_refl _) (.cells #[.int .i64 x0, .int .i64 x1, .int .i64 y0, .int .i64 y1] 23))
        generalize (w.alloc (.cells #[.int .i64 x0, .int .i64 x1, .int .i64 y0, .int .i64 y1] 23)) = Va4_1 at RA_a4_1 B_a4_1 ⊢
        have ca4_3_0 := RA_a4_1.out.cell 0
        have ca4_3_1 := RA_a4_1.out.cell 1
        have ca4_3_2 := RA_a4_1.out.cell 2
        have ca4_3_3 := RA_a4_1.out.cell 3
        simp only [List.getElem?_cons_zero, List.getElem?_cons_succ] at ca4_3_0 ca4_3_1 ca4_3_2 ca4_3_3
        go_wp2_with fail
        refine (HB.out _).mono ?_
        rintro e Wa4_2 ⟨rfl, hb⟩
        clear ca4_3_0 ca4_3_1 ca4_3_2 ca4_3_3
        have RA_a4_4 := Lib.hid (RA_a4_1.out.below hb RA_a4_1.out.lt)
        have B_a4_4 := Lib.hid (B_a4_1.out.trans (hb.mono B_a4_1.out.size))
        clear hb RA_a4_1 B_a4_1
        have ca4_5_0 := RA_a4_4.out.cell 0
        have ca4_5_1 := RA_a4_4.out.cell 1
        have ca4_5_2 := RA_a4_4.out.cell 2
        have ca4_5_3 := RA_a4_4.out.cell 3
        simp only [List.getElem?_cons_zero, List.getElem?_cons_succ] at ca4_5_0 ca4_5_1 ca4_5_2 ca4_5_3
        go_wp2
        go_ret
        exact ⟨by first | rfl | (simp [*]; done), B_a4_4.out⟩
      · by_cases h4 : c = 2
        · subst h4
          by_cases h5 : y0 = 0
          · subst h5
            by_cases h6 : y1 = 0
            · subst h6
              rw [show rightB (2) (x0) (x1) (0) (0) = true from by simp [rightB, boxB] <;> omega]
              have HB := Lib.hid (Box_ref (x0) (x1) (0) (0))
              rw [show boxB (x0) (x1) (0) (0) = true from by simp [boxB] <;> omega] at HB
              go_enter Try.func10, Try.ntmps10
              go_upto_region 1 with fail
              have RA_a8_1 := Lib.hid (row_last w (w.heap.size) 23 [.int .i64 x0, .int .i64 x1, .int .i64 0, .int .i64 0] (by simp))
              have B_a8_1 := Lib.hid ((Below.refl w.heap.size w).alloc (Nat.le_refl _) (.cells #[.int .i64 x0, .int .i64 x1, .int .i64 0, .int .i64 0] 23))
              generalize (w.alloc (.cells #[.int .i64 x0, .int .i64 x1, .int .i64 0, .int .i64 0] 23)) = Va8_1 at RA_a8_1 B_a8_1 ⊢
              have ca8_3_0 := RA_a8_1.out.cell 0
              have ca8_3_1 := RA_a8_1.out.cell 1
              have ca8_3_2 := RA_a8_1.out.cell 2
              have ca8_3_3 := RA_a8_1.out.cell 3
              simp only [List.getElem?_cons_zero, List.getElem?_cons_succ] at ca8_3_0 ca8_3_1 ca8_3_2 ca8_3_3
              go_wp2_with fail
              refine (HB.out _).mono ?_
              rintro e Wa8_2 ⟨rfl, hb⟩
              clear ca8_3_0 ca8_3_1 ca8_3_2 ca8_3_3
              have RA_a8_4 := Lib.hid (RA_a8_1.out.below hb RA_a8_1.out.lt)
              have B_a8_4 := Lib.hid (B_a8_1.out.trans (hb.mono B_a8_1.out.size))
              clear hb RA_a8_1 B_a8_1
              have ca8_5_0 := RA_a8_4.out.cell 0
              have ca8_5_1 := RA_a8_4.out.cell 1
              have ca8_5_2 := RA_a8_4.out.cell 2
              have ca8_5_3 := RA_a8_4.out.cell 3
              simp only [List.getElem?_cons_zero, List.getElem?_cons_succ] at ca8_5_0 ca8_5_1 ca8_5_2 ca8_5_3
              go_wp2
              go_ret
              exact ⟨by first | rfl | (simp [*]; done), B_a8_4.out⟩
            · rw [show rightB (2) (x0) (x1) (0) (y1) = false from by simp [rightB, boxB] <;> omega]
              have HB := Lib.hid (Box_ref (x0) (x1) (0) (y1))
              rw [show boxB (x0) (x1) (0) (y1) = true from by simp [boxB] <;> omega] at HB
              go_enter Try.func10, Try.ntmps10
              go_upto_region 1 with fail
              have RA_a9_1 := Lib.hid (row_last w (w.heap.size) 23 [.int .i64 x0, .int .i64 x1, .int .i64 0, .int .i64 y1] (by simp))
              have B_a9_1 := Lib.hid ((Below.refl w.heap.size w).alloc (Nat.le_refl _) (.cells #[.int .i64 x0, .int .i64 x1, .int .i64 0, .int .i64 y1] 23))
              generalize (w.alloc (.cells #[.int .i64 x0, .int .i64 x1, .int .i64 0, .int .i64 y1] 23)) = Va9_1 at RA_a9_1 B_a9_1 ⊢
              have ca9_3_0 := RA_a9_1.out.cell 0
              have ca9_3_1 := RA_a9_1.out.cell 1
              have ca9_3_2 := RA_a9_1.out.cell 2
              have ca9_3_3 := RA_a9_1.out.cell 3
              simp only [List.getElem?_cons_zero, List.getElem?_cons_succ] at ca9_3_0 ca9_3_1 ca9_3_2 ca9_3_3
              go_wp2_with fail
              refine (HB.out _).mono ?_
              rintro e Wa9_2 ⟨rfl, hb⟩
              clear ca9_3_0 ca9_3_1 ca9_3_2 ca9_3_3
              have RA_a9_4 := Lib.hid (RA_a9_1.out.below hb RA_a9_1.out.lt)
              have B_a9_4 := Lib.hid (B_a9_1.out.trans (hb.mono B_a9_1.out.size))
              clear hb RA_a9_1 B_a9_1
              have ca9_5_0 := RA_a9_4.out.cell 0
              have ca9_5_1 := RA_a9_4.out.cell 1
              have ca9_5_2 := RA_a9_4.out.cell 2
              have ca9_5_3 := RA_a9_4.out.cell 3
              simp only [List.getElem?_cons_zero, List.getElem?_cons_succ] at ca9_5_0 ca9_5_1 ca9_5_2 ca9_5_3
              go_wp2
              go_ret
              exact ⟨by first | rfl | (simp [*]; done), B_a9_4.out⟩
          · rw [show rightB (2) (x0) (x1) (y0) (y1) = false from by simp [rightB, boxB] <;> omega]
            have HB := Lib.hid (Box_ref (x0) (x1) (y0) (y1))
            rw [show boxB (x0) (x1) (y0) (y1) = true from by simp [boxB] <;> omega] at HB
            go_enter Try.func10, Try.ntmps10
            go_upto_region 1 with fail
            have RA_a10_1 := Lib.hid (row_last w (w.heap.size) 23 [.int .i64 x0, .int .i64 x1, .int .i64 y0, .int .i64 y1] (by simp))
            have B_a10_1 := Lib.hid ((Below.refl w.heap.size w).alloc (Nat.le_refl _) (.cells #[.int .i64 x0, .int .i64 x1, .int .i64 y0, .int .i64 y1] 23))
            generalize (w.alloc (.cells #[.int .i64 x0, .int .i64 x1, .int .i64 y0, .int .i64 y1] 23)) = Va10_1 at RA_a10_1 B_a10_1 ⊢
            have ca10_3_0 := RA_a10_1.out.cell 0
            have ca10_3_1 := RA_a10_1.out.cell 1
            have ca10_3_2 := RA_a10_1.out.cell 2
            have ca10_3_3 := RA_a10_1.out.cell 3
            simp only [List.getElem?_cons_zero, List.getElem?_cons_succ] at ca10_3_0 ca10_3_1 ca10_3_2 ca10_3_3
            go_wp2_with fail
            refine (HB.out _).mono ?_
            rintro e Wa10_2 ⟨rfl, hb⟩
            clear ca10_3_0 ca10_3_1 ca10_3_2 ca10_3_3
            have RA_a10_4 := Lib.hid (RA_a10_1.out.below hb RA_a10_1.out.lt)
            have B_a10_4 := Lib.hid (B_a10_1.out.trans (hb.mono B_a10_1.out.size))
            clear hb RA_a10_1 B_a10_1
            have ca10_5_0 := RA_a10_4.out.cell 0
            have ca10_5_1 := RA_a10_4.out.cell 1
            have ca10_5_2 := RA_a10_4.out.cell 2
            have ca10_5_3 := RA_a10_4.out.cell 3
            simp only [List.getElem?_cons_zero, List.getElem?_cons_succ] at ca10_5_0 ca10_5_1 ca10_5_2 ca10_5_3
            go_wp2
            go_ret
            exact ⟨by first | rfl | (simp [*]; done), B_a10_4.out⟩
        · by_cases h10 : c = 3
          · subst h10
            by_cases h11 : x0 = x1
            · subst h11
              by_cases h12 : y0 = y1
              · subst h12
                rw [show rightB (3) (x0) (x0) (y0) (y0) = true from by simp [rightB, boxB] <;> omega]
                have HB := Lib.hid (Box_ref (x0) (x0) (y0) (y0))
                rw [show boxB (x0) (x0) (y0) (y0) = true from by simp [boxB] <;> omega] at HB
                go_enter Try.func10, Try.ntmps10
                go_upto_region 1 with fail
                have RA_a14_1 := Lib.hid (row_last w (w.heap.size) 23 [.int .i64 x0, .int .i64 x0, .int .i64 y0, .int .i64 y0] (by simp))
                have B_a14_1 := Lib.hid ((Below.refl w.heap.size w).alloc (Nat.le_refl _) (.cells #[.int .i64 x0, .int .i64 x0, .int .i64 y0, .int .i64 y0] 23))
                generalize (w.alloc (.cells #[.int .i64 x0, .int .i64 x0, .int .i64 y0, .int .i64 y0] 23)) = Va14_1 at RA_a14_1 B_a14_1 ⊢
                have ca14_3_0 := RA_a14_1.out.cell 0
                have ca14_3_1 := RA_a14_1.out.cell 1
                have ca14_3_2 := RA_a14_1.out.cell 2
                have ca14_3_3 := RA_a14_1.out.cell 3
                simp only [List.getElem?_cons_zero, List.getElem?_cons_succ] at ca14_3_0 ca14_3_1 ca14_3_2 ca14_3_3
                go_wp2_with fail
                refine (HB.out _).mono ?_
                rintro e Wa14_2 ⟨rfl, hb⟩
                clear ca14_3_0 ca14_3_1 ca14_3_2 ca14_3_3
                have RA_a14_4 := Lib.hid (RA_a14_1.out.below hb RA_a14_1.out.lt)
                have B_a14_4 := Lib.hid (B_a14_1.out.trans (hb.mono B_a14_1.out.size))
                clear hb RA_a14_1 B_a14_1
                have ca14_5_0 := RA_a14_4.out.cell 0
                have ca14_5_1 := RA_a14_4.out.cell 1
                have ca14_5_2 := RA_a14_4.out.cell 2
                have ca14_5_3 := RA_a14_4.out.cell 3
                simp only [List.getElem?_cons_zero, List.getElem?_cons_succ] at ca14_5_0 ca14_5_1 ca14_5_2 ca14_5_3
                go_wp2
                go_ret
                exact ⟨by first | rfl | (simp [*]; done), B_a14_4.out⟩
              · rw [show rightB (3) (x0) (x0) (y0) (y1) = false from by simp [rightB, boxB] <;> omega]
                have HB := Lib.hid (Box_ref (x0) (x0) (y0) (y1))
                rw [show boxB (x0) (x0) (y0) (y1) = true from by simp [boxB] <;> omega] at HB
                go_enter Try.func10, Try.ntmps10
                go_upto_region 1 with fail
                have RA_a15_1 := Lib.hid (row_last w (w.heap.size) 23 [.int .i64 x0, .int .i64 x0, .int .i64 y0, .int .i64 y1] (by simp))
                have B_a15_1 := Lib.hid ((Below.refl w.heap.size w).alloc (Nat.le_refl _) (.cells #[.int .i64 x0, .int .i64 x0, .int .i64 y0, .int .i64 y1] 23))
                generalize (w.alloc (.cells #[.int .i64 x0, .int .i64 x0, .int .i64 y0, .int .i64 y1] 23)) = Va15_1 at RA_a15_1 B_a15_1 ⊢
                have ca15_3_0 := RA_a15_1.out.cell 0
                have ca15_3_1 := RA_a15_1.out.cell 1
                have ca15_3_2 := RA_a15_1.out.cell 2
                have ca15_3_3 := RA_a15_1.out.cell 3
                simp only [List.getElem?_cons_zero, List.getElem?_cons_succ] at ca15_3_0 ca15_3_1 ca15_3_2 ca15_3_3
                go_wp2_with fail
                refine (HB.out _).mono ?_
                rintro e Wa15_2 ⟨rfl, hb⟩
                clear ca15_3_0 ca15_3_1 ca15_3_2 ca15_3_3
                have RA_a15_4 := Lib.hid (RA_a15_1.out.below hb RA_a15_1.out.lt)
                have B_a15_4 := Lib.hid (B_a15_1.out.trans (hb.mono B_a15_1.out.size))
                clear hb RA_a15_1 B_a15_1
                have ca15_5_0 := RA_a15_4.out.cell 0
                have ca15_5_1 := RA_a15_4.out.cell 1
                have ca15_5_2 := RA_a15_4.out.cell 2
                have ca15_5_3 := RA_a15_4.out.cell 3
                simp only [List.getElem?_cons_zero, List.getElem?_cons_succ] at ca15_5_0 ca15_5_1 ca15_5_2 ca15_5_3
                go_wp2
                go_ret
                exact ⟨by first | rfl | (simp [*]; done), B_a15_4.out⟩
            · rw [show rightB (3) (x0) (x1) (y0) (y1) = false from by simp [rightB, boxB] <;> omega]
              have HB := Lib.hid (Box_ref (x0) (x1) (y0) (y1))
              rw [show boxB (x0) (x1) (y0) (y1) = true from by simp [boxB] <;> omega] at HB
              go_enter Try.func10, Try.ntmps10
              go_upto_region 1 with fail
              have RA_a16_1 := Lib.hid (row_last w (w.heap.size) 23 [.int .i64 x0, .int .i64 x1, .int .i64 y0, .int .i64 y1] (by simp))
              have B_a16_1 := Lib.hid ((Below.refl w.heap.size w).alloc (Nat.le_refl _) (.cells #[.int .i64 x0, .int .i64 x1, .int .i64 y0, .int .i64 y1] 23))
              generalize (w.alloc (.cells #[.int .i64 x0, .int .i64 x1, .int .i64 y0, .int .i64 y1] 23)) = Va16_1 at RA_a16_1 B_a16_1 ⊢
              have ca16_3_0 := RA_a16_1.out.cell 0
              have ca16_3_1 := RA_a16_1.out.cell 1
              have ca16_3_2 := RA_a16_1.out.cell 2
              have ca16_3_3 := RA_a16_1.out.cell 3
              simp only [List.getElem?_cons_zero, List.getElem?_cons_succ] at ca16_3_0 ca16_3_1 ca16_3_2 ca16_3_3
              go_wp2_with fail
              refine (HB.out _).mono ?_
              rintro e Wa16_2 ⟨rfl, hb⟩
              clear ca16_3_0 ca16_3_1 ca16_3_2 ca16_3_3
              have RA_a16_4 := Lib.hid (RA_a16_1.out.below hb RA_a16_1.out.lt)
              have B_a16_4 := Lib.hid (B_a16_1.out.trans (hb.mono B_a16_1.out.size))
              clear hb RA_a16_1 B_a16_1
              have ca16_5_0 := RA_a16_4.out.cell 0
              have ca16_5_1 := RA_a16_4.out.cell 1
              have ca16_5_2 := RA_a16_4.out.cell 2
              have ca16_5_3 := RA_a16_4.out.cell 3
              simp only [List.getElem?_cons_zero, List.getElem?_cons_succ] at ca16_5_0 ca16_5_1 ca16_5_2 ca16_5_3
              go_wp2
              go_ret
              exact ⟨by first | rfl | (simp [*]; done), B_a16_4.out⟩
          · by_cases h16 : c < 1
            · rw [show rightB (c) (x0) (x1) (y0) (y1) = false from by simp [rightB, boxB] <;> omega]
              have HB := Lib.hid (Box_ref (x0) (x1) (y0) (y1))
              rw [show boxB (x0) (x1) (y0) (y1) = true from by simp [boxB] <;> omega] at HB
              go_enter Try.func10, Try.ntmps10
              go_upto_region 1 with fail
              have RA_a18_1 := Lib.hid (row_last w (w.heap.size) 23 [.int .i64 x0, .int .i64 x1, .int .i64 y0, .int .i64 y1] (by simp))
              have B_a18_1 := Lib.hid ((Below.refl w.heap.size w).alloc (Nat.le_refl _) (.cells #[.int .i64 x0, .int .i64 x1, .int .i64 y0, .int .i64 y1] 23))
              generalize (w.alloc (.cells #[.int .i64 x0, .int .i64 x1, .int .i64 y0, .int .i64 y1] 23)) = Va18_1 at RA_a18_1 B_a18_1 ⊢
              have ca18_3_0 := RA_a18_1.out.cell 0
              have ca18_3_1 := RA_a18_1.out.cell 1
              have ca18_3_2 := RA_a18_1.out.cell 2
              have ca18_3_3 := RA_a18_1.out.cell 3
              simp only [List.getElem?_cons_zero, List.getElem?_cons_succ] at ca18_3_0 ca18_3_1 ca18_3_2 ca18_3_3
              go_wp2_with fail
              refine (HB.out _).mono ?_
              rintro e Wa18_2 ⟨rfl, hb⟩
              clear ca18_3_0 ca18_3_1 ca18_3_2 ca18_3_3
              have RA_a18_4 := Lib.hid (RA_a18_1.out.below hb RA_a18_1.out.lt)
              have B_a18_4 := Lib.hid (B_a18_1.out.trans (hb.mono B_a18_1.out.size))
              clear hb RA_a18_1 B_a18_1
              have ca18_5_0 := RA_a18_4.out.cell 0
              have ca18_5_1 := RA_a18_4.out.cell 1
              have ca18_5_2 := RA_a18_4.out.cell 2
              have ca18_5_3 := RA_a18_4.out.cell 3
              simp only [List.getElem?_cons_zero, List.getElem?_cons_succ] at ca18_5_0 ca18_5_1 ca18_5_2 ca18_5_3
              go_wp2
              go_ret
              exact ⟨by first | rfl | (simp [*]; done), B_a18_4.out⟩
            · by_cases h18 : 3 < c
              · rw [show rightB (c) (x0) (x1) (y0) (y1) = false from by simp [rightB, boxB] <;> omega]
                have HB := Lib.hid (Box_ref (x0) (x1) (y0) (y1))
                rw [show boxB (x0) (x1) (y0) (y1) = true from by simp [boxB] <;> omega] at HB
                go_enter Try.func10, Try.ntmps10
                go_upto_region 1 with fail
                have RA_a20_1 := Lib.hid (row_last w (w.heap.size) 23 [.int .i64 x0, .int .i64 x1, .int .i64 y0, .int .i64 y1] (by simp))
                have B_a20_1 := Lib.hid ((Below.refl w.heap.size w).alloc (Nat.le_refl _) (.cells #[.int .i64 x0, .int .i64 x1, .int .i64 y0, .int .i64 y1] 23))
                generalize (w.alloc (.cells #[.int .i64 x0, .int .i64 x1, .int .i64 y0, .int .i64 y1] 23)) = Va20_1 at RA_a20_1 B_a20_1 ⊢
                have ca20_3_0 := RA_a20_1.out.cell 0
                have ca20_3_1 := RA_a20_1.out.cell 1
                have ca20_3_2 := RA_a20_1.out.cell 2
                have ca20_3_3 := RA_a20_1.out.cell 3
                simp only [List.getElem?_cons_zero, List.getElem?_cons_succ] at ca20_3_0 ca20_3_1 ca20_3_2 ca20_3_3
                go_wp2_with fail
                refine (HB.out _).mono ?_
                rintro e Wa20_2 ⟨rfl, hb⟩
                clear ca20_3_0 ca20_3_1 ca20_3_2 ca20_3_3
                have RA_a20_4 := Lib.hid (RA_a20_1.out.below hb RA_a20_1.out.lt)
                have B_a20_4 := Lib.hid (B_a20_1.out.trans (hb.mono B_a20_1.out.size))
                clear hb RA_a20_1 B_a20_1
                have ca20_5_0 := RA_a20_4.out.cell 0
                have ca20_5_1 := RA_a20_4.out.cell 1
                have ca20_5_2 := RA_a20_4.out.cell 2
                have ca20_5_3 := RA_a20_4.out.cell 3
                simp only [List.getElem?_cons_zero, List.getElem?_cons_succ] at ca20_5_0 ca20_5_1 ca20_5_2 ca20_5_3
                go_wp2
                go_ret
                exact ⟨by first | rfl | (simp [*]; done), B_a20_4.out⟩
              · exfalso; omega
    · rw [show rightB (c) (x0) (x1) (y0) (y1) = false from by simp [rightB, boxB] <;> omega]
      have HB := Lib.hid (Box_ref (x0) (x1) (y0) (y1))
      rw [show boxB (x0) (x1) (y0) (y1) = false from by simp [boxB] <;> omega] at HB
      go_enter Try.func10, Try.ntmps10
      go_upto_region 1 with fail
      have RA_a21_1 := Lib.hid (row_last w (w.heap.size) 23 [.int .i64 x0, .int .i64 x1, .int .i64 y0, .int .i64 y1] (by simp))
      have B_a21_1 := Lib.hid ((Below.refl w.heap.size w).alloc (Nat.le_refl _) (.cells #[.int .i64 x0, .int .i64 x1, .int .i64 y0, .int .i64 y1] 23))
      generalize (w.alloc (.cells #[.int .i64 x0, .int .i64 x1, .int .i64 y0, .int .i64 y1] 23)) = Va21_1 at RA_a21_1 B_a21_1 ⊢
      have ca21_3_0 := RA_a21_1.out.cell 0
      have ca21_3_1 := RA_a21_1.out.cell 1
      have ca21_3_2 := RA_a21_1.out.cell 2
      have ca21_3_3 := RA_a21_1.out.cell 3
      simp only [List.getElem?_cons_zero, List.getElem?_cons_succ] at ca21_3_0 ca21_3_1 ca21_3_2 ca21_3_3
      go_wp2_with fail
      refine (HB.out _).mono ?_
      rintro e Wa21_2 ⟨rfl, hb⟩
      clear ca21_3_0 ca21_3_1 ca21_3_2 ca21_3_3
      have RA_a21_4 := Lib.hid (RA_a21_1.out.below hb RA_a21_1.out.lt)
      have B_a21_4 := Lib.hid (B_a21_1.out.trans (hb.mono B_a21_1.out.size))
      clear hb RA_a21_1 B_a21_1
      have ca21_5_0 := RA_a21_4.out.cell 0
      have ca21_5_1 := RA_a21_4.out.cell 1
      have ca21_5_2 := RA_a21_4.out.cell 2
      have ca21_5_3 := RA_a21_4.out.cell 3
      simp only [List.getElem?_cons_zero, List.getElem?_cons_succ] at ca21_5_0 ca21_5_1 ca21_5_2 ca21_5_3
      go_wp2
      go_ret
      exact ⟨by first | rfl | (simp [*]; done), B_a21_4.out⟩
  · rw [show rightB (c) (x0) (x1) (y0) (y1) = false from by simp [rightB, boxB] <;> omega]
    have HB := Lib.hid (Box_ref (x0) (x1) (y0) (y1))
    rw [show boxB (x0) (x1) (y0) (y1) = false from by simp [boxB] <;> omega] at HB
    go_enter Try.func10, Try.ntmps10
    go_upto_region 1 with fail
    have RA_a22_1 := Lib.hid (row_last w (w.heap.size) 23 [.int .i64 x0, .int .i64 x1, .int .i64 y0, .int .i64 y1] (by simp))
    have B_a22_1 := Lib.hid ((Below.refl w.heap.size w).alloc (Nat.le_refl _) (.cells #[.int .i64 x0, .int .i64 x1, .int .i64 y0, .int .i64 y1] 23))
    generalize (w.alloc (.cells #[.int .i64 x0, .int .i64 x1, .int .i64 y0, .int .i64 y1] 23)) = Va22_1 at RA_a22_1 B_a22_1 ⊢
    have ca22_3_0 := RA_a22_1.out.cell 0
    have ca22_3_1 := RA_a22_1.out.cell 1
    have ca22_3_2 := RA_a22_1.out.cell 2
    have ca22_3_3 := RA_a22_1.out.cell 3
    simp only [List.getElem?_cons_zero, List.getElem?_cons_succ] at ca22_3_0 ca22_3_1 ca22_3_2 ca22_3_3
    go_wp2_with fail
    refine (HB.out _).mono ?_
    rintro e Wa22_2 ⟨rfl, hb⟩
    clear ca22_3_0 ca22_3_1 ca22_3_2 ca22_3_3
    have RA_a22_4 := Lib.hid (RA_a22_1.out.below hb RA_a22_1.out.lt)
    have B_a22_4 := Lib.hid (B_a22_1.out.trans (hb.mono B_a22_1.out.size))
    clear hb RA_a22_1 B_a22_1
    have ca22_5_0 := RA_a22_4.out.cell 0
    have ca22_5_1 := RA_a22_4.out.cell 1
    have ca22_5_2 := RA_a22_4.out.cell 2
    have ca22_5_3 := RA_a22_4.out.cell 3
    simp only [List.getElem?_cons_zero, List.getElem?_cons_succ] at ca22_5_0 ca22_5_1 ca22_5_2 ca22_5_3
    go_wp2
    go_ret
    exact ⟨by first | rfl | (simp [*]; done), B_a22_4.out⟩

set_option maxHeartbeats 4000000 in
theorem Check_any (c x0 x1 y0 y1 : Int) (w : World) : Calls Try.prog 9 #[.int .i64 c, KV x0 x1 y0 y1] w fun e w' => e = .returned (.int .i64 (if rightB c x0 x1 y0 y1 then 0 else 2)) ∧ Below w.heap.size w w' := by
  by_cases h0 : x0 ≤ x1
  · by_cases h1 : y0 ≤ y1
    · by_cases h2 : c = 1
      · subst h2
        rw [show rightB (1) (x0) (x1) (y0) (y1) = true from by simp [rightB, boxB] <;> omega]
        go_enter Try.func9, Try.ntmps9
        go_wp2
        go_ret
        exact ⟨rfl, (Below.refl _ _).alloc (Nat.le_refl _) _⟩
      · by_cases h4 : c = 2
        · subst h4
          by_cases h5 : y0 = 0
          · subst h5
            by_cases h6 : y1 = 0
            · subst h6
              rw [show rightB (2) (x0) (x1) (0) (0) = true from by simp [rightB, boxB] <;> omega]
              go_enter Try.func9, Try.ntmps9
              go_wp2
              go_ret
              exact ⟨rfl, (Below.refl _ _).alloc (Nat.le_refl _) _⟩
            · rw [show rightB (2) (x0) (x1) (0) (y1) = false from by simp [rightB, boxB] <;> omega]
              go_enter Try.func9, Try.ntmps9
              go_wp2
              go_ret
              exact ⟨rfl, (Below.refl _ _).alloc (Nat.le_refl _) _⟩
          · rw [show rightB (2) (x0) (x1) (y0) (y1) = false from by simp [rightB, boxB] <;> omega]
            go_enter Try.func9, Try.ntmps9
            go_wp2
            go_ret
            exact ⟨rfl, (Below.refl _ _).alloc (Nat.le_refl _) _⟩
        · by_cases h10 : c = 3
          · subst h10
            by_cases h11 : x0 = x1
            · subst h11
              by_cases h12 : y0 = y1
              · subst h12
                rw [show rightB (3) (x0) (x0) (y0) (y0) = true from by simp [rightB, boxB] <;> omega]
                go_enter Try.func9, Try.ntmps9
                go_wp2
                go_ret
                exact ⟨rfl, (Below.refl _ _).alloc (Nat.le_refl _) _⟩
              · rw [show rightB (3) (x0) (x0) (y0) (y1) = false from by simp [rightB, boxB] <;> omega]
                go_enter Try.func9, Try.ntmps9
                go_wp2
                go_ret
                exact ⟨rfl, (Below.refl _ _).alloc (Nat.le_refl _) _⟩
            · rw [show rightB (3) (x0) (x1) (y0) (y1) = false from by simp [rightB, boxB] <;> omega]
              go_enter Try.func9, Try.ntmps9
              go_wp2
              go_ret
              exact ⟨rfl, (Below.refl _ _).alloc (Nat.le_refl _) _⟩
          · rw [show rightB (c) (x0) (x1) (y0) (y1) = false from by simp [rightB, boxB] <;> omega]
            go_enter Try.func9, Try.ntmps9
            go_wp2
            go_ret
            exact ⟨rfl, (Below.refl _ _).alloc (Nat.le_refl _) _⟩
    · by_cases h17 : c = 1
      · subst h17
        first | (exfalso; omega) | skip
        all_goals
          rw [show rightB (1) (x0) (x1) (y0) (y1) = false from by simp [rightB, boxB] <;> omega]
          go_enter Try.func9, Try.ntmps9
          go_wp2
          go_ret
          exact ⟨rfl, (Below.refl _ _).alloc (Nat.le_refl _) _⟩
      · by_cases h19 : c = 2
        · subst h19
          by_cases h20 : y0 = 0
          · subst h20
            by_cases h21 : y1 = 0
            · subst h21
              first | (exfalso; omega) | skip
              all_goals
                rw [show rightB (2) (x0) (x1) (0) (0) = false from by simp [rightB, boxB] <;> omega]
                go_enter Try.func9, Try.ntmps9
                go_wp2
                go_ret
                exact ⟨rfl, (Below.refl _ _).alloc (Nat.le_refl _) _⟩
            · first | (exfalso; omega) | skip
              all_goals
                rw [show rightB (2) (x0) (x1) (0) (y1) = false from by simp [rightB, boxB] <;> omega]
                go_enter Try.func9, Try.ntmps9
                go_wp2
                go_ret
                exact ⟨rfl, (Below.refl _ _).alloc (Nat.le_refl _) _⟩
          · first | (exfalso; omega) | skip
            all_goals
              rw [show rightB (2) (x0) (x1) (y0) (y1) = false from by simp [rightB, boxB] <;> omega]
              go_enter Try.func9, Try.ntmps9
              go_wp2
              go_ret
              exact ⟨rfl, (Below.refl _ _).alloc (Nat.le_refl _) _⟩
        · by_cases h25 : c = 3
          · subst h25
            by_cases h26 : x0 = x1
            · subst h26
              by_cases h27 : y0 = y1
              · subst h27
                first | (exfalso; omega) | skip
                all_goals
                  rw [show rightB (3) (x0) (x0) (y0) (y0) = false from by simp [rightB, boxB] <;> omega]
                  go_enter Try.func9, Try.ntmps9
                  go_wp2
                  go_ret
                  exact ⟨rfl, (Below.refl _ _).alloc (Nat.le_refl _) _⟩
              · first | (exfalso; omega) | skip
                all_goals
                  rw [show rightB (3) (x0) (x0) (y0) (y1) = false from by simp [rightB, boxB] <;> omega]
                  go_enter Try.func9, Try.ntmps9
                  go_wp2
                  go_ret
                  exact ⟨rfl, (Below.refl _ _).alloc (Nat.le_refl _) _⟩
            · first | (exfalso; omega) | skip
              all_goals
                rw [show rightB (3) (x0) (x1) (y0) (y1) = false from by simp [rightB, boxB] <;> omega]
                go_enter Try.func9, Try.ntmps9
                go_wp2
                go_ret
                exact ⟨rfl, (Below.refl _ _).alloc (Nat.le_refl _) _⟩
          · first | (exfalso; omega) | skip
            all_goals
              rw [show rightB (c) (x0) (x1) (y0) (y1) = false from by simp [rightB, boxB] <;> omega]
              go_enter Try.func9, Try.ntmps9
              go_wp2
              go_ret
              exact ⟨rfl, (Below.refl _ _).alloc (Nat.le_refl _) _⟩
  · by_cases h32 : c = 1
    · subst h32
      first | (exfalso; omega) | skip
      all_goals
        rw [show rightB (1) (x0) (x1) (y0) (y1) = false from by simp [rightB, boxB] <;> omega]
        go_enter Try.func9, Try.ntmps9
        go_wp2
        go_ret
        exact ⟨rfl, (Below.refl _ _).alloc (Nat.le_refl _) _⟩
    · by_cases h34 : c = 2
      · subst h34
        by_cases h35 : y0 = 0
        · subst h35
          by_cases h36 : y1 = 0
          · subst h36
            first | (exfalso; omega) | skip
            all_goals
              rw [show rightB (2) (x0) (x1) (0) (0) = false from by simp [rightB, boxB] <;> omega]
              go_enter Try.func9, Try.ntmps9
              go_wp2
              go_ret
              exact ⟨rfl, (Below.refl _ _).alloc (Nat.le_refl _) _⟩
          · first | (exfalso; omega) | skip
            all_goals
              rw [show rightB (2) (x0) (x1) (0) (y1) = false from by simp [rightB, boxB] <;> omega]
              go_enter Try.func9, Try.ntmps9
              go_wp2
              go_ret
              exact ⟨rfl, (Below.refl _ _).alloc (Nat.le_refl _) _⟩
        · first | (exfalso; omega) | skip
          all_goals
            rw [show rightB (2) (x0) (x1) (y0) (y1) = false from by simp [rightB, boxB] <;> omega]
            go_enter Try.func9, Try.ntmps9
            go_wp2
            go_ret
            exact ⟨rfl, (Below.refl _ _).alloc (Nat.le_refl _) _⟩
      · by_cases h40 : c = 3
        · subst h40
          by_cases h41 : x0 = x1
          · subst h41
            by_cases h42 : y0 = y1
            · subst h42
              first | (exfalso; omega) | skip
              all_goals
                rw [show rightB (3) (x0) (x0) (y0) (y0) = false from by simp [rightB, boxB] <;> omega]
                go_enter Try.func9, Try.ntmps9
                go_wp2
                go_ret
                exact ⟨rfl, (Below.refl _ _).alloc (Nat.le_refl _) _⟩
            · first | (exfalso; omega) | skip
              all_goals
                rw [show rightB (3) (x0) (x0) (y0) (y1) = false from by simp [rightB, boxB] <;> omega]
                go_enter Try.func9, Try.ntmps9
                go_wp2
                go_ret
                exact ⟨rfl, (Below.refl _ _).alloc (Nat.le_refl _) _⟩
          · first | (exfalso; omega) | skip
            all_goals
              rw [show rightB (3) (x0) (x1) (y0) (y1) = false from by simp [rightB, boxB] <;> omega]
              go_enter Try.func9, Try.ntmps9
              go_wp2
              go_ret
              exact ⟨rfl, (Below.refl _ _).alloc (Nat.le_refl _) _⟩
        · first | (exfalso; omega) | skip
          all_goals
            rw [show rightB (c) (x0) (x1) (y0) (y1) = false from by simp [rightB, boxB] <;> omega]
            go_enter Try.func9, Try.ntmps9
            go_wp2
            go_ret
            exact ⟨rfl, (Below.refl _ _).alloc (Nat.le_refl _) _⟩
end Go.Proofs.Ytbmfijcckdkmdaa.Ky
