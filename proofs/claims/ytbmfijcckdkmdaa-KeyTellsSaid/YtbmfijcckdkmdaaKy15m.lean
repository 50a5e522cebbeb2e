/-
  Keys: the reference's Meets, Covers, Union.
-/
import Derived.Test.YtbmfijcckdkmdaaKy14
import Derived.LoopTactic
import Derived.Deep.RegionHeld
import Derived.Deep.Cut
import Derived.WalkLawsBesides
namespace Go.Proofs.Ytbmfijcckdkmdaa.Ky
set_option maxRecDepth 100000
open Go.RowKit Go.Proofs.Ytbmfijcckdkmdaa.Wd Go.Proofs.Ytbmfijcckdkmdaa.Wi Go.Proofs.Ytbmfijcckdkmdaa.Lift


theorem max_min (a b c d : Int) : maxI a b ≤ minI c d ↔ (a ≤ c ∧ a ≤ d) ∧ (b ≤ c ∧ b ≤ d) := by
  unfold maxI minI
  split <;> split <;> omega
theorem meet_iff (x0 x1 y0 y1 u0 u1 v0 v1 : Int) : meetB x0 x1 y0 y1 u0 u1 v0 v1 = true ↔ ((x0 ≤ x1 ∧ x0 ≤ u1) ∧ (u0 ≤ x1 ∧ u0 ≤ u1)) ∧ ((y0 ≤ y1 ∧ y0 ≤ v1) ∧ (v0 ≤ y1 ∧ v0 ≤ v1)) := by
  unfold meetB boxB
  rw [Bool.and_eq_true, decide_eq_true_eq, decide_eq_true_eq, max_min, max_min]
theorem box_f {x0 x1 y0 y1 : Int} (h : boxB x0 x1 y0 y1 = false) : ¬ (x0 ≤ x1 ∧ y0 ≤ y1) := by simpa [boxB] using h
theorem box_t {x0 x1 y0 y1 : Int} (h : boxB x0 x1 y0 y1 = true) : x0 ≤ x1 ∧ y0 ≤ y1 := by simpa [boxB] using h
theorem ins_f {a b x : Int} (h : insideB a b x = false) : ¬ (a ≤ x ∧ x ≤ b) := by simpa [insideB] using h
theorem ins_t {a b x : Int} (h : insideB a b x = true) : a ≤ x ∧ x ≤ b := by simpa [insideB] using h

set_option maxHeartbeats 8000000 in
theorem Meets_ref (x0 x1 y0 y1 u0 u1 v0 v1 : Int) (w : World) : Calls Try.prog 12 #[KV x0 x1 y0 y1, KV u0 u1 v0 v1] w fun e w' => e = .returned (.bool (meetB x0 x1 y0 y1 u0 u1 v0 v1)) ∧ Below w.heap.size w w' := by
  have HA := Lib.hid (Box_ref x0 x1 y0 y1)
  have HB := Lib.hid (Box_ref u0 u1 v0 v1)
  have hx : maxI x0 u0 = x0 ∨ maxI x0 u0 = u0 := by unfold maxI; split <;> simp
  cases g0 : boxB x0 x1 y0 y1
  · rw [show meetB x0 x1 y0 y1 u0 u1 v0 v1 = false from Bool.eq_false_iff.2 (fun hm => by have hm := (meet_iff _ _ _ _ _ _ _ _).1 hm; have hg := box_f g0; omega)]
    rw [g0] at HA
    clear hx g0
    go_enter Try.func12, Try.ntmps12
    go_upto_region 1 with fail
    have RA_g0_1 := Lib.hid ((row_last w (w.heap.size) 23 [.int .i64 x0, .int .i64 x1, .int .i64 y0, .int .i64 y1] (by simp)).alloc (.cells #[.int .i64 u0, .int .i64 u1, .int .i64 v0, .int .i64 v1] 23))
    have RB_g0_1 := Lib.hid (row_last (w.alloc (.cells #[.int .i64 x0, .int .i64 x1, .int .i64 y0, .int .i64 y1] 23)) (w.heap.size + 1) 23 [.int .i64 u0, .int .i64 u1, .int .i64 v0, .int .i64 v1] (by simp))
    have B_g0_1 := Lib.hid (((Below.refl w.heap.size w).alloc (Nat.le_refl _) (.cells #[.int .i64 x0, .int .i64 x1, .int .i64 y0, .int .i64 y1] 23)).alloc (by have := Nat.le_refl w.heap.size; simp <;> omega) (.cells #[.int .i64 u0, .int .i64 u1, .int .i64 v0, .int .i64 v1] 23))
    generalize ((w.alloc (.cells #[.int .i64 x0, .int .i64 x1, .int .i64 y0, .int .i64 y1] 23)).alloc (.cells #[.int .i64 u0, .int .i64 u1, .int .i64 v0, .int .i64 v1] 23)) = Vg0_1 at RA_g0_1 RB_g0_1 B_g0_1 ⊢
    have cg0_3_0 := RA_g0_1.out.cell 0
    have cg0_3_1 := RA_g0_1.out.cell 1
    have cg0_3_2 := RA_g0_1.out.cell 2
    have cg0_3_3 := RA_g0_1.out.cell 3
    simp only [List.getElem?_cons_zero, List.getElem?_cons_succ] at cg0_3_0 cg0_3_1 cg0_3_2 cg0_3_3
    go_wp2_with fail
    refine (HA.out _).mono ?_
    rintro e Wg0_2 ⟨rfl, hb⟩
    clear cg0_3_0 cg0_3_1 cg0_3_2 cg0_3_3
    have RA_g0_4 := Lib.hid (RA_g0_1.out.below hb RA_g0_1.out.lt)
    have RB_g0_4 := Lib.hid (RB_g0_1.out.below hb RB_g0_1.out.lt)
    have B_g0_4 := Lib.hid (B_g0_1.out.trans (hb.mono B_g0_1.out.size))
    clear hb RA_g0_1 RB_g0_1 B_g0_1
    go_wp2
    go_ret
    exact ⟨rfl, B_g0_4.out⟩
  rw [g0] at HA
  cases g1 : boxB u0 u1 v0 v1
  · rw [show meetB x0 x1 y0 y1 u0 u1 v0 v1 = false from Bool.eq_false_iff.2 (fun hm => by have hm := (meet_iff _ _ _ _ _ _ _ _).1 hm; have hg := box_f g1; omega)]
    rw [g1] at HB
    clear hx g0 g1
    go_enter Try.func12, Try.ntmps12
    go_upto_region 1 with fail
    have RA_g1_1 := Lib.hid ((row_last w (w.heap.size) 23 [.int .i64 x0, .int .i64 x1, .int .i64 y0, .int .i64 y1] (by simp)).alloc (.cells #[.int .i64 u0, .int .i64 u1, .int .i64 v0, .int .i64 v1] 23))
    have RB_g1_1 := Lib.hid (row_last (w.alloc (.cells #[.int .i64 x0, .int .i64 x1, .int .i64 y0, .int .i64 y1] 23)) (w.heap.size + 1) 23 [.int .i64 u0, .int .i64 u1, .int .i64 v0, .int .i64 v1] (by simp))
    have B_g1_1 := Lib.hid (((Below.refl w.heap.size w).alloc (Nat.le_refl _) (.cells #[.int .i64 x0, .int .i64 x1, .int .i64 y0, .int .i64 y1] 23)).alloc (by have := Nat.le_refl w.heap.size; simp <;> omega) (.cells #[.int .i64 u0, .int .i64 u1, .int .i64 v0, .int .i64 v1] 23))
    generalize ((w.alloc (.cells #[.int .i64 x0, .int .i64 x1, .int .i64 y0, .int .i64 y1] 23)).alloc (.cells #[.int .i64 u0, .int .i64 u1, .int .i64 v0, .int .i64 v1] 23)) = Vg1_1 at RA_g1_1 RB_g1_1 B_g1_1 ⊢
    have cg1_3_0 := RA_g1_1.out.cell 0
    have cg1_3_1 := RA_g1_1.out.cell 1
    have cg1_3_2 := RA_g1_1.out.cell 2
    have cg1_3_3 := RA_g1_1.out.cell 3
    simp only [List.getElem?_cons_zero, List.getElem?_cons_succ] at cg1_3_0 cg1_3_1 cg1_3_2 cg1_3_3
    go_wp2_with fail
    refine (HA.out _).mono ?_
    rintro e Wg1_2 ⟨rfl, hb⟩
    clear cg1_3_0 cg1_3_1 cg1_3_2 cg1_3_3
    have RA_g1_4 := Lib.hid (RA_g1_1.out.below hb RA_g1_1.out.lt)
    have RB_g1_4 := Lib.hid (RB_g1_1.out.below hb RB_g1_1.out.lt)
    have B_g1_4 := Lib.hid (B_g1_1.out.trans (hb.mono B_g1_1.out.size))
    clear hb RA_g1_1 RB_g1_1 B_g1_1
    have cg1_6_0 := RB_g1_4.out.cell 0
    have cg1_6_1 := RB_g1_4.out.cell 1
    have cg1_6_2 := RB_g1_4.out.cell 2
    have cg1_6_3 := RB_g1_4.out.cell 3
    simp only [List.getElem?_cons_zero, List.getElem?_cons_succ] at cg1_6_0 cg1_6_1 cg1_6_2 cg1_6_3
    go_wp2_with fail
    refine (HB.out _).mono ?_
    rintro e Wg1_5 ⟨rfl, hb⟩
    clear cg1_6_0 cg1_6_1 cg1_6_2 cg1_6_3
    have RA_g1_7 := Lib.hid (RA_g1_4.out.below hb RA_g1_4.out.lt)
    have RB_g1_7 := Lib.hid (RB_g1_4.out.below hb RB_g1_4.out.lt)
    have B_g1_7 := Lib.hid (B_g1_4.out.trans (hb.mono B_g1_4.out.size))
    clear hb RA_g1_4 RB_g1_4 B_g1_4
    go_wp2
    go_ret
    exact ⟨rfl, B_g1_7.out⟩
  rw [g1] at HB
  by_cases hX : x0 < u0
  · by_cases hY : y0 < v0
    · have HI1 := Lib.hid (inside_bel x0 x1 u0)
      have HI2 := Lib.hid (inside_bel u0 u1 u0)
      have HI3 := Lib.hid (inside_bel y0 y1 v0)
      have HI4 := Lib.hid (inside_bel v0 v1 v0)
      cases h0 : insideB x0 x1 u0
      · rw [show meetB x0 x1 y0 y1 u0 u1 v0 v1 = false from Bool.eq_false_iff.2 (fun hm => by have hm := (meet_iff _ _ _ _ _ _ _ _).1 hm; have hb0 := box_t g0; have hb1 := box_t g1; have k0 := ins_f h0; omega)]
        rw [h0] at HI1
        clear g0 g1 hx h0
        go_enter Try.func12, Try.ntmps12
        go_upto_region 1 with fail
        have RA_m110_1 := Lib.hid ((row_last w (w.heap.size) 23 [.int .i64 x0, .int .i64 x1, .int .i64 y0, .int .i64 y1] (by simp)).alloc (.cells #[.int .i64 u0, .int .i64 u1, .int .i64 v0, .int .i64 v1] 23))
        have RB_m110_1 := Lib.hid (row_last (w.alloc (.cells #[.int .i64 x0, .int .i64 x1, .int .i64 y0, .int .i64 y1] 23)) (w.heap.size + 1) 23 [.int .i64 u0, .int .i64 u1, .int .i64 v0, .int .i64 v1] (by simp))
        have B_m110_1 := Lib.hid (((Below.refl w.heap.size w).alloc (Nat.le_refl _) (.cells #[.int .i64 x0, .int .i64 x1, .int .i64 y0, .int .i64 y1] 23)).alloc (by have := Nat.le_refl w.heap.size; simp <;> omega) (.cells #[.int .i64 u0, .int .i64 u1, .int .i64 v0, .int .i64 v1] 23))
        generalize ((w.alloc (.cells #[.int .i64 x0, .int .i64 x1, .int .i64 y0, .int .i64 y1] 23)).alloc (.cells #[.int .i64 u0, .int .i64 u1, .int .i64 v0, .int .i64 v1] 23)) = Vm110_1 at RA_m110_1 RB_m110_1 B_m110_1 ⊢
        have cm110_3_0 := RA_m110_1.out.cell 0
        have cm110_3_1 := RA_m110_1.out.cell 1
        have cm110_3_2 := RA_m110_1.out.cell 2
        have cm110_3_3 := RA_m110_1.out.cell 3
        simp only [List.getElem?_cons_zero, List.getElem?_cons_succ] at cm110_3_0 cm110_3_1 cm110_3_2 cm110_3_3
        go_wp2_with fail
        refine (HA.out _).mono ?_
        rintro e Wm110_2 ⟨rfl, hb⟩
        clear cm110_3_0 cm110_3_1 cm110_3_2 cm110_3_3
        have RA_m110_4 := Lib.hid (RA_m110_1.out.below hb RA_m110_1.out.lt)
        have RB_m110_4 := Lib.hid (RB_m110_1.out.below hb RB_m110_1.out.lt)
        have B_m110_4 := Lib.hid (B_m110_1.out.trans (hb.mono B_m110_1.out.size))
        clear hb RA_m110_1 RB_m110_1 B_m110_1
        have cm110_6_0 := RB_m110_4.out.cell 0
        have cm110_6_1 := RB_m110_4.out.cell 1
        have cm110_6_2 := RB_m110_4.out.cell 2
        have cm110_6_3 := RB_m110_4.out.cell 3
        simp only [List.getElem?_cons_zero, List.getElem?_cons_succ] at cm110_6_0 cm110_6_1 cm110_6_2 cm110_6_3
        go_wp2_with fail
        refine (HB.out _).mono ?_
        rintro e Wm110_5 ⟨rfl, hb⟩
        clear cm110_6_0 cm110_6_1 cm110_6_2 cm110_6_3
        have RA_m110_7 := Lib.hid (RA_m110_4.out.below hb RA_m110_4.out.lt)
        have RB_m110_7 := Lib.hid (RB_m110_4.out.below hb RB_m110_4.out.lt)
        have B_m110_7 := Lib.hid (B_m110_4.out.trans (hb.mono B_m110_4.out.size))
        clear hb RA_m110_4 RB_m110_4 B_m110_4
        go_wp2_with fail
        refine wp_region_held_drew (S := fun w' => Row w' (w.heap.size) 23 [.int .i64 x0, .int .i64 x1, .int .i64 y0, .int .i64 y1]) (by kernel_rfl) RA_m110_7.out.drew (fun hHeld => ?_)
        clear hHeld
        have RA_m110_8 := Lib.hid RA_m110_7.out.drew
        have RB_m110_8 := Lib.hid RB_m110_7.out.drew
        have B_m110_8 := Lib.hid B_m110_7.out.drew
        clear RA_m110_7 RB_m110_7 B_m110_7
        generalize Wm110_5.drew = Dm110_8 at RA_m110_8 RB_m110_8 B_m110_8 ⊢
        refine wpAnyH_take (i := 0) (oi := ⟨some 15, _, _, _, _, _⟩) (v := ?vm110_rm110_8_1) rfl (by kernel_rfl) (by kernel_rfl) (by kernel_rfl) (fun _ _ _ h => h) (Or.inl ⟨by rfl, ?ym110_rm110_8_1⟩) RA_m110_8.out ?rm110_rm110_8_1
        case ym110_rm110_8_1 =>
          rintro w' hSw
          go_simp
          try with_reducible rfl
        try simp only [Act.put, List.setIfInBounds_toArray, List.set_cons_zero, List.set_cons_succ]
        refine wpAnyH_take (i := 1) (oi := ⟨some 16, _, _, _, _, _⟩) (v := ?vm110_rm110_8_2) rfl (by kernel_rfl) (by kernel_rfl) (by kernel_rfl) (fun _ _ _ h => h) (Or.inl ⟨by rfl, ?ym110_rm110_8_2⟩) RA_m110_8.out ?rm110_rm110_8_2
        case ym110_rm110_8_2 =>
          rintro w' hSw
          have k0 := (show Row w' _ _ _ from hSw).cell 0
          have k1 := (show Row w' _ _ _ from hSw).cell 1
          have k2 := (show Row w' _ _ _ from hSw).cell 2
          have k3 := (show Row w' _ _ _ from hSw).cell 3
          simp only [List.getElem?_cons_zero, List.getElem?_cons_succ] at k0 k1 k2 k3
          go_simp
          try with_reducible rfl
        try simp only [Act.put, List.setIfInBounds_toArray, List.set_cons_zero, List.set_cons_succ]
        refine wpAnyH_take (i := 2) (oi := ⟨some 17, _, _, _, _, _⟩) (v := ?vm110_rm110_8_3) rfl (by kernel_rfl) (by kernel_rfl) (by kernel_rfl) (fun _ _ _ h => h) (Or.inl ⟨by rfl, ?ym110_rm110_8_3⟩) RA_m110_8.out ?rm110_rm110_8_3
        case ym110_rm110_8_3 =>
          rintro w' hSw
          go_simp
          try with_reducible rfl
        try simp only [Act.put, List.setIfInBounds_toArray, List.set_cons_zero, List.set_cons_succ]
        refine wpAnyH_take (i := 3) (oi := ⟨some 18, _, _, _, _, _⟩) (v := ?vm110_rm110_8_4) rfl (by kernel_rfl) (by kernel_rfl) (by kernel_rfl) (fun _ _ _ h => h) (Or.inl ⟨by rfl, ?ym110_rm110_8_4⟩) RA_m110_8.out ?rm110_rm110_8_4
        case ym110_rm110_8_4 =>
          rintro w' hSw
          have k0 := (show Row w' _ _ _ from hSw).cell 0
          have k1 := (show Row w' _ _ _ from hSw).cell 1
          have k2 := (show Row w' _ _ _ from hSw).cell 2
          have k3 := (show Row w' _ _ _ from hSw).cell 3
          simp only [List.getElem?_cons_zero, List.getElem?_cons_succ] at k0 k1 k2 k3
          go_simp
          try with_reducible rfl
        try simp only [Act.put, List.setIfInBounds_toArray, List.set_cons_zero, List.set_cons_succ]
        refine wpAnyH_take (i := 4) (oi := ⟨some 5, _, _, _, _, _⟩) (v := ?vm110_rm110_8_5) rfl (by kernel_rfl) (by kernel_rfl) (by kernel_rfl) (fun _ _ _ h => h) (Or.inl ⟨by rfl, ?ym110_rm110_8_5⟩) RA_m110_8.out ?rm110_rm110_8_5
        case ym110_rm110_8_5 =>
          rintro w' hSw
          go_simp
          try with_reducible rfl
        try simp only [Act.put, List.setIfInBounds_toArray, List.set_cons_zero, List.set_cons_succ]
        refine wpAnyH_take (i := 5) (oi := ⟨some 6, _, _, _, _, _⟩) (v := ?vm110_rm110_8_6) rfl (by kernel_rfl) (by kernel_rfl) (by kernel_rfl) (fun _ _ _ h => h) (Or.inl ⟨by rfl, ?ym110_rm110_8_6⟩) RA_m110_8.out ?rm110_rm110_8_6
        case ym110_rm110_8_6 =>
          rintro w' hSw
          go_simp
          try with_reducible rfl
        try simp only [Act.put, List.setIfInBounds_toArray, List.set_cons_zero, List.set_cons_succ]
        refine wpAnyH_done (by kernel_rfl) ?_ _
        have cm110_10_0 := RA_m110_8.out.cell 0
        have cm110_10_1 := RA_m110_8.out.cell 1
        have cm110_10_2 := RA_m110_8.out.cell 2
        have cm110_10_3 := RA_m110_8.out.cell 3
        simp only [List.getElem?_cons_zero, List.getElem?_cons_succ] at cm110_10_0 cm110_10_1 cm110_10_2 cm110_10_3
        have cm110_11_0 := RB_m110_8.out.cell 0
        have cm110_11_1 := RB_m110_8.out.cell 1
        have cm110_11_2 := RB_m110_8.out.cell 2
        have cm110_11_3 := RB_m110_8.out.cell 3
        simp only [List.getElem?_cons_zero, List.getElem?_cons_succ] at cm110_11_0 cm110_11_1 cm110_11_2 cm110_11_3
        go_wp2_with fail
        refine (HI1.out _).mono ?_
        rintro e Wm110_9 ⟨rfl, hb⟩
        clear cm110_10_0 cm110_10_1 cm110_10_2 cm110_10_3 cm110_11_0 cm110_11_1 cm110_11_2 cm110_11_3
        have RA_m110_12 := Lib.hid (RA_m110_8.out.below hb RA_m110_8.out.lt)
        have RB_m110_12 := Lib.hid (RB_m110_8.out.below hb RB_m110_8.out.lt)
        have B_m110_12 := Lib.hid (B_m110_8.out.trans (hb.mono B_m110_8.out.size))
        clear hb RA_m110_8 RB_m110_8 B_m110_8
        go_wp2
        go_ret
        exact ⟨rfl, B_m110_12.out⟩
      rw [h0] at HI1
      cases h1 : insideB u0 u1 u0
      · rw [show meetB x0 x1 y0 y1 u0 u1 v0 v1 = false from Bool.eq_false_iff.2 (fun hm => by have hm := (meet_iff _ _ _ _ _ _ _ _).1 hm; have hb0 := box_t g0; have hb1 := box_t g1; have k0 := ins_t h0; have k1 := ins_f h1; omega)]
        rw [h1] at HI2
        clear g0 g1 hx h0 h1
        go_enter Try.func12, Try.ntmps12
        go_upto_region 1 with fail
        have RA_m111_1 := Lib.hid ((row_last w (w.heap.size) 23 [.int .i64 x0, .int .i64 x1, .int .i64 y0, .int .i64 y1] (by simp)).alloc (.cells #[.int .i64 u0, .int .i64 u1, .int .i64 v0, .int .i64 v1] 23))
        have RB_m111_1 := Lib.hid (row_last (w.alloc (.cells #[.int .i64 x0, .int .i64 x1, .int .i64 y0, .int .i64 y1] 23)) (w.heap.size + 1) 23 [.int .i64 u0, .int .i64 u1, .int .i64 v0, .int .i64 v1] (by simp))
        have B_m111_1 := Lib.hid (((Below.refl w.heap.size w).alloc (Nat.le_refl _) (.cells #[.int .i64 x0, .int .i64 x1, .int .i64 y0, .int .i64 y1] 23)).alloc (by have := Nat.le_refl w.heap.size; simp <;> omega) (.cells #[.int .i64 u0, .int .i64 u1, .int .i64 v0, .int .i64 v1] 23))
        generalize ((w.alloc (.cells #[.int .i64 x0, .int .i64 x1, .int .i64 y0, .int .i64 y1] 23)).alloc (.cells #[.int .i64 u0, .int .i64 u1, .int .i64 v0, .int .i64 v1] 23)) = Vm111_1 at RA_m111_1 RB_m111_1 B_m111_1 ⊢
        have cm111_3_0 := RA_m111_1.out.cell 0
        have cm111_3_1 := RA_m111_1.out.cell 1
        have cm111_3_2 := RA_m111_1.out.cell 2
        have cm111_3_3 := RA_m111_1.out.cell 3
        simp only [List.getElem?_cons_zero, List.getElem?_cons_succ] at cm111_3_0 cm111_3_1 cm111_3_2 cm111_3_3
        go_wp2_with fail
        refine (HA.out _).mono ?_
        rintro e Wm111_2 ⟨rfl, hb⟩
        clear cm111_3_0 cm111_3_1 cm111_3_2 cm111_3_3
        have RA_m111_4 := Lib.hid (RA_m111_1.out.below hb RA_m111_1.out.lt)
        have RB_m111_4 := Lib.hid (RB_m111_1.out.below hb RB_m111_1.out.lt)
        have B_m111_4 := Lib.hid (B_m111_1.out.trans (hb.mono B_m111_1.out.size))
        clear hb RA_m111_1 RB_m111_1 B_m111_1
        have cm111_6_0 := RB_m111_4.out.cell 0
        have cm111_6_1 := RB_m111_4.out.cell 1
        have cm111_6_2 := RB_m111_4.out.cell 2
        have cm111_6_3 := RB_m111_4.out.cell 3
        simp only [List.getElem?_cons_zero, List.getElem?_cons_succ] at cm111_6_0 cm111_6_1 cm111_6_2 cm111_6_3
        go_wp2_with fail
        refine (HB.out _).mono ?_
        rintro e Wm111_5 ⟨rfl, hb⟩
        clear cm111_6_0 cm111_6_1 cm111_6_2 cm111_6_3
        have RA_m111_7 := Lib.hid (RA_m111_4.out.below hb RA_m111_4.out.lt)
        have RB_m111_7 := Lib.hid (RB_m111_4.out.below hb RB_m111_4.out.lt)
        have B_m111_7 := Lib.hid (B_m111_4.out.trans (hb.mono B_m111_4.out.size))
        clear hb RA_m111_4 RB_m111_4 B_m111_4
        go_wp2_with fail
        refine wp_region_held_drew (S := fun w' => Row w' (w.heap.size) 23 [.int .i64 x0, .int .i64 x1, .int .i64 y0, .int .i64 y1]) (by kernel_rfl) RA_m111_7.out.drew (fun hHeld => ?_)
        clear hHeld
        have RA_m111_8 := Lib.hid RA_m111_7.out.drew
        have RB_m111_8 := Lib.hid RB_m111_7.out.drew
        have B_m111_8 := Lib.hid B_m111_7.out.drew
        clear RA_m111_7 RB_m111_7 B_m111_7
        generalize Wm111_5.drew = Dm111_8 at RA_m111_8 RB_m111_8 B_m111_8 ⊢
        refine wpAnyH_take (i := 0) (oi := ⟨some 15, _, _, _, _, _⟩) (v := ?vm111_rm111_8_1) rfl (by kernel_rfl) (by kernel_rfl) (by kernel_rfl) (fun _ _ _ h => h) (Or.inl ⟨by rfl, ?ym111_rm111_8_1⟩) RA_m111_8.out ?rm111_rm111_8_1
        case ym111_rm111_8_1 =>
          rintro w' hSw
          go_simp
          try with_reducible rfl
        try simp only [Act.put, List.setIfInBounds_toArray, List.set_cons_zero, List.set_cons_succ]
        refine wpAnyH_take (i := 1) (oi := ⟨some 16, _, _, _, _, _⟩) (v := ?vm111_rm111_8_2) rfl (by kernel_rfl) (by kernel_rfl) (by kernel_rfl) (fun _ _ _ h => h) (Or.inl ⟨by rfl, ?ym111_rm111_8_2⟩) RA_m111_8.out ?rm111_rm111_8_2
        case ym111_rm111_8_2 =>
          rintro w' hSw
          have k0 := (show Row w' _ _ _ from hSw).cell 0
          have k1 := (show Row w' _ _ _ from hSw).cell 1
          have k2 := (show Row w' _ _ _ from hSw).cell 2
          have k3 := (show Row w' _ _ _ from hSw).cell 3
          simp only [List.getElem?_cons_zero, List.getElem?_cons_succ] at k0 k1 k2 k3
          go_simp
          try with_reducible rfl
        try simp only [Act.put, List.setIfInBounds_toArray, List.set_cons_zero, List.set_cons_succ]
        refine wpAnyH_take (i := 2) (oi := ⟨some 17, _, _, _, _, _⟩) (v := ?vm111_rm111_8_3) rfl (by kernel_rfl) (by kernel_rfl) (by kernel_rfl) (fun _ _ _ h => h) (Or.inl ⟨by rfl, ?ym111_rm111_8_3⟩) RA_m111_8.out ?rm111_rm111_8_3
        case ym111_rm111_8_3 =>
          rintro w' hSw
          go_simp
          try with_reducible rfl
        try simp only [Act.put, List.setIfInBounds_toArray, List.set_cons_zero, List.set_cons_succ]
        refine wpAnyH_take (i := 3) (oi := ⟨some 18, _, _, _, _, _⟩) (v := ?vm111_rm111_8_4) rfl (by kernel_rfl) (by kernel_rfl) (by kernel_rfl) (fun _ _ _ h => h) (Or.inl ⟨by rfl, ?ym111_rm111_8_4⟩) RA_m111_8.out ?rm111_rm111_8_4
        case ym111_rm111_8_4 =>
          rintro w' hSw
          have k0 := (show Row w' _ _ _ from hSw).cell 0
          have k1 := (show Row w' _ _ _ from hSw).cell 1
          have k2 := (show Row w' _ _ _ from hSw).cell 2
          have k3 := (show Row w' _ _ _ from hSw).cell 3
          simp only [List.getElem?_cons_zero, List.getElem?_cons_succ] at k0 k1 k2 k3
          go_simp
          try with_reducible rfl
        try simp only [Act.put, List.setIfInBounds_toArray, List.set_cons_zero, List.set_cons_succ]
        refine wpAnyH_take (i := 4) (oi := ⟨some 5, _, _, _, _, _⟩) (v := ?vm111_rm111_8_5) rfl (by kernel_rfl) (by kernel_rfl) (by kernel_rfl) (fun _ _ _ h => h) (Or.inl ⟨by rfl, ?ym111_rm111_8_5⟩) RA_m111_8.out ?rm111_rm111_8_5
        case ym111_rm111_8_5 =>
          rintro w' hSw
          go_simp
          try with_reducible rfl
        try simp only [Act.put, List.setIfInBounds_toArray, List.set_cons_zero, List.set_cons_succ]
        refine wpAnyH_take (i := 5) (oi := ⟨some 6, _, _, _, _, _⟩) (v := ?vm111_rm111_8_6) rfl (by kernel_rfl) (by kernel_rfl) (by kernel_rfl) (fun _ _ _ h => h) (Or.inl ⟨by rfl, ?ym111_rm111_8_6⟩) RA_m111_8.out ?rm111_rm111_8_6
        case ym111_rm111_8_6 =>
          rintro w' hSw
          go_simp
          try with_reducible rfl
        try simp only [Act.put, List.setIfInBounds_toArray, List.set_cons_zero, List.set_cons_succ]
        refine wpAnyH_done (by kernel_rfl) ?_ _
        have cm111_10_0 := RA_m111_8.out.cell 0
        have cm111_10_1 := RA_m111_8.out.cell 1
        have cm111_10_2 := RA_m111_8.out.cell 2
        have cm111_10_3 := RA_m111_8.out.cell 3
        simp only [List.getElem?_cons_zero, List.getElem?_cons_succ] at cm111_10_0 cm111_10_1 cm111_10_2 cm111_10_3
        have cm111_11_0 := RB_m111_8.out.cell 0
        have cm111_11_1 := RB_m111_8.out.cell 1
        have cm111_11_2 := RB_m111_8.out.cell 2
        have cm111_11_3 := RB_m111_8.out.cell 3
        simp only [List.getElem?_cons_zero, List.getElem?_cons_succ] at cm111_11_0 cm111_11_1 cm111_11_2 cm111_11_3
        go_wp2_with fail
        refine (HI1.out _).mono ?_
        rintro e Wm111_9 ⟨rfl, hb⟩
        clear cm111_10_0 cm111_10_1 cm111_10_2 cm111_10_3 cm111_11_0 cm111_11_1 cm111_11_2 cm111_11_3
        have RA_m111_12 := Lib.hid (RA_m111_8.out.below hb RA_m111_8.out.lt)
        have RB_m111_12 := Lib.hid (RB_m111_8.out.below hb RB_m111_8.out.lt)
        have B_m111_12 := Lib.hid (B_m111_8.out.trans (hb.mono B_m111_8.out.size))
        clear hb RA_m111_8 RB_m111_8 B_m111_8
        have cm111_14_0 := RA_m111_12.out.cell 0
        have cm111_14_1 := RA_m111_12.out.cell 1
        have cm111_14_2 := RA_m111_12.out.cell 2
        have cm111_14_3 := RA_m111_12.out.cell 3
        simp only [List.getElem?_cons_zero, List.getElem?_cons_succ] at cm111_14_0 cm111_14_1 cm111_14_2 cm111_14_3
        have cm111_15_0 := RB_m111_12.out.cell 0
        have cm111_15_1 := RB_m111_12.out.cell 1
        have cm111_15_2 := RB_m111_12.out.cell 2
        have cm111_15_3 := RB_m111_12.out.cell 3
        simp only [List.getElem?_cons_zero, List.getElem?_cons_succ] at cm111_15_0 cm111_15_1 cm111_15_2 cm111_15_3
        go_wp2_with fail
        refine (HI2.out _).mono ?_
        rintro e Wm111_13 ⟨rfl, hb⟩
        clear cm111_14_0 cm111_14_1 cm111_14_2 cm111_14_3 cm111_15_0 cm111_15_1 cm111_15_2 cm111_15_3
        have RA_m111_16 := Lib.hid (RA_m111_12.out.below hb RA_m111_12.out.lt)
        have RB_m111_16 := Lib.hid (RB_m111_12.out.below hb RB_m111_12.out.lt)
        have B_m111_16 := Lib.hid (B_m111_12.out.trans (hb.mono B_m111_12.out.size))
        clear hb RA_m111_12 RB_m111_12 B_m111_12
        go_wp2
        go_ret
        exact ⟨rfl, B_m111_16.out⟩
      rw [h1] at HI2
      cases h2 : insideB y0 y1 v0
      · rw [show meetB x0 x1 y0 y1 u0 u1 v0 v1 = false from Bool.eq_false_iff.2 (fun hm => by have hm := (meet_iff _ _ _ _ _ _ _ _).1 hm; have hb0 := box_t g0; have hb1 := box_t g1; have k0 := ins_t h0; have k1 := ins_t h1; have k2 := ins_f h2; omega)]
        rw [h2] at HI3
        clear g0 g1 hx h0 h1 h2
        go_enter Try.func12, Try.ntmps12
        go_upto_region 1 with fail
        have RA_m112_1 := Lib.hid ((row_last w (w.heap.size) 23 [.int .i64 x0, .int .i64 x1, .int .i64 y0, .int .i64 y1] (by simp)).alloc (.cells #[.int .i64 u0, .int .i64 u1, .int .i64 v0, .int .i64 v1] 23))
        have RB_m112_1 := Lib.hid (row_last (w.alloc (.cells #[.int .i64 x0, .int .i64 x1, .int .i64 y0, .int .i64 y1] 23)) (w.heap.size + 1) 23 [.int .i64 u0, .int .i64 u1, .int .i64 v0, .int .i64 v1] (by simp))
        have B_m112_1 := Lib.hid (((Below.refl w.heap.size w).alloc (Nat.le_refl _) (.cells #[.int .i64 x0, .int .i64 x1, .int .i64 y0, .int .i64 y1] 23)).alloc (by have := Nat.le_refl w.heap.size; simp <;> omega) (.cells #[.int .i64 u0, .int .i64 u1, .int .i64 v0, .int .i64 v1] 23))
        generalize ((w.alloc (.cells #[.int .i64 x0, .int .i64 x1, .int .i64 y0, .int .i64 y1] 23)).alloc (.cells #[.int .i64 u0, .int .i64 u1, .int .i64 v0, .int .i64 v1] 23)) = Vm112_1 at RA_m112_1 RB_m112_1 B_m112_1 ⊢
        have cm112_3_0 := RA_m112_1.out.cell 0
        have cm112_3_1 := RA_m112_1.out.cell 1
        have cm112_3_2 := RA_m112_1.out.cell 2
        have cm112_3_3 := RA_m112_1.out.cell 3
        simp only [List.getElem?_cons_zero, List.getElem?_cons_succ] at cm112_3_0 cm112_3_1 cm112_3_2 cm112_3_3
        go_wp2_with fail
        refine (HA.out _).mono ?_
        rintro e Wm112_2 ⟨rfl, hb⟩
        clear cm112_3_0 cm112_3_1 cm112_3_2 cm112_3_3
        have RA_m112_4 := Lib.hid (RA_m112_1.out.below hb RA_m112_1.out.lt)
        have RB_m112_4 := Lib.hid (RB_m112_1.out.below hb RB_m112_1.out.lt)
        have B_m112_4 := Lib.hid (B_m112_1.out.trans (hb.mono B_m112_1.out.size))
        clear hb RA_m112_1 RB_m112_1 B_m112_1
        have cm112_6_0 := RB_m112_4.out.cell 0
        have cm112_6_1 := RB_m112_4.out.cell 1
        have cm112_6_2 := RB_m112_4.out.cell 2
        have cm112_6_3 := RB_m112_4.out.cell 3
        simp only [List.getElem?_cons_zero, List.getElem?_cons_succ] at cm112_6_0 cm112_6_1 cm112_6_2 cm112_6_3
        go_wp2_with fail
        refine (HB.out _).mono ?_
        rintro e Wm112_5 ⟨rfl, hb⟩
        clear cm112_6_0 cm112_6_1 cm112_6_2 cm112_6_3
        have RA_m112_7 := Lib.hid (RA_m112_4.out.below hb RA_m112_4.out.lt)
        have RB_m112_7 := Lib.hid (RB_m112_4.out.below hb RB_m112_4.out.lt)
        have B_m112_7 := Lib.hid (B_m112_4.out.trans (hb.mono B_m112_4.out.size))
        clear hb RA_m112_4 RB_m112_4 B_m112_4
        go_wp2_with fail
        refine wp_region_held_drew (S := fun w' => Row w' (w.heap.size) 23 [.int .i64 x0, .int .i64 x1, .int .i64 y0, .int .i64 y1]) (by kernel_rfl) RA_m112_7.out.drew (fun hHeld => ?_)
        clear hHeld
        have RA_m112_8 := Lib.hid RA_m112_7.out.drew
        have RB_m112_8 := Lib.hid RB_m112_7.out.drew
        have B_m112_8 := Lib.hid B_m112_7.out.drew
        clear RA_m112_7 RB_m112_7 B_m112_7
        generalize Wm112_5.drew = Dm112_8 at RA_m112_8 RB_m112_8 B_m112_8 ⊢
        refine wpAnyH_take (i := 0) (oi := ⟨some 15, _, _, _, _, _⟩) (v := ?vm112_rm112_8_1) rfl (by kernel_rfl) (by kernel_rfl) (by kernel_rfl) (fun _ _ _ h => h) (Or.inl ⟨by rfl, ?ym112_rm112_8_1⟩) RA_m112_8.out ?rm112_rm112_8_1
        case ym112_rm112_8_1 =>
          rintro w' hSw
          go_simp
          try with_reducible rfl
        try simp only [Act.put, List.setIfInBounds_toArray, List.set_cons_zero, List.set_cons_succ]
        refine wpAnyH_take (i := 1) (oi := ⟨some 16, _, _, _, _, _⟩) (v := ?vm112_rm112_8_2) rfl (by kernel_rfl) (by kernel_rfl) (by kernel_rfl) (fun _ _ _ h => h) (Or.inl ⟨by rfl, ?ym112_rm112_8_2⟩) RA_m112_8.out ?rm112_rm112_8_2
        case ym112_rm112_8_2 =>
          rintro w' hSw
          have k0 := (show Row w' _ _ _ from hSw).cell 0
          have k1 := (show Row w' _ _ _ from hSw).cell 1
          have k2 := (show Row w' _ _ _ from hSw).cell 2
          have k3 := (show Row w' _ _ _ from hSw).cell 3
          simp only [List.getElem?_cons_zero, List.getElem?_cons_succ] at k0 k1 k2 k3
          go_simp
          try with_reducible rfl
        try simp only [Act.put, List.setIfInBounds_toArray, List.set_cons_zero, List.set_cons_succ]
        refine wpAnyH_take (i := 2) (oi := ⟨some 17, _, _, _, _, _⟩) (v := ?vm112_rm112_8_3) rfl (by kernel_rfl) (by kernel_rfl) (by kernel_rfl) (fun _ _ _ h => h) (Or.inl ⟨by rfl, ?ym112_rm112_8_3⟩) RA_m112_8.out ?rm112_rm112_8_3
        case ym112_rm112_8_3 =>
          rintro w' hSw
          go_simp
          try with_reducible rfl
        try simp only [Act.put, List.setIfInBounds_toArray, List.set_cons_zero, List.set_cons_succ]
        refine wpAnyH_take (i := 3) (oi := ⟨some 18, _, _, _, _, _⟩) (v := ?vm112_rm112_8_4) rfl (by kernel_rfl) (by kernel_rfl) (by kernel_rfl) (fun _ _ _ h => h) (Or.inl ⟨by rfl, ?ym112_rm112_8_4⟩) RA_m112_8.out ?rm112_rm112_8_4
        case ym112_rm112_8_4 =>
          rintro w' hSw
          have k0 := (show Row w' _ _ _ from hSw).cell 0
          have k1 := (show Row w' _ _ _ from hSw).cell 1
          have k2 := (show Row w' _ _ _ from hSw).cell 2
          have k3 := (show Row w' _ _ _ from hSw).cell 3
          simp only [List.getElem?_cons_zero, List.getElem?_cons_succ] at k0 k1 k2 k3
          go_simp
          try with_reducible rfl
        try simp only [Act.put, List.setIfInBounds_toArray, List.set_cons_zero, List.set_cons_succ]
        refine wpAnyH_take (i := 4) (oi := ⟨some 5, _, _, _, _, _⟩) (v := ?vm112_rm112_8_5) rfl (by kernel_rfl) (by kernel_rfl) (by kernel_rfl) (fun _ _ _ h => h) (Or.inl ⟨by rfl, ?ym112_rm112_8_5⟩) RA_m112_8.out ?rm112_rm112_8_5
        case ym112_rm112_8_5 =>
          rintro w' hSw
          go_simp
          try with_reducible rfl
        try simp only [Act.put, List.setIfInBounds_toArray, List.set_cons_zero, List.set_cons_succ]
        refine wpAnyH_take (i := 5) (oi := ⟨some 6, _, _, _, _, _⟩) (v := ?vm112_rm112_8_6) rfl (by kernel_rfl) (by kernel_rfl) (by kernel_rfl) (fun _ _ _ h => h) (Or.inl ⟨by rfl, ?ym112_rm112_8_6⟩) RA_m112_8.out ?rm112_rm112_8_6
        case ym112_rm112_8_6 =>
          rintro w' hSw
          go_simp
          try with_reducible rfl
        try simp only [Act.put, List.setIfInBounds_toArray, List.set_cons_zero, List.set_cons_succ]
        refine wpAnyH_done (by kernel_rfl) ?_ _
        have cm112_10_0 := RA_m112_8.out.cell 0
        have cm112_10_1 := RA_m112_8.out.cell 1
        have cm112_10_2 := RA_m112_8.out.cell 2
        have cm112_10_3 := RA_m112_8.out.cell 3
        simp only [List.getElem?_cons_zero, List.getElem?_cons_succ] at cm112_10_0 cm112_10_1 cm112_10_2 cm112_10_3
        have cm112_11_0 := RB_m112_8.out.cell 0
        have cm112_11_1 := RB_m112_8.out.cell 1
        have cm112_11_2 := RB_m112_8.out.cell 2
        have cm112_11_3 := RB_m112_8.out.cell 3
        simp only [List.getElem?_cons_zero, List.getElem?_cons_succ] at cm112_11_0 cm112_11_1 cm112_11_2 cm112_11_3
        go_wp2_with fail
        refine (HI1.out _).mono ?_
        rintro e Wm112_9 ⟨rfl, hb⟩
        clear cm112_10_0 cm112_10_1 cm112_10_2 cm112_10_3 cm112_11_0 cm112_11_1 cm112_11_2 cm112_11_3
        have RA_m112_12 := Lib.hid (RA_m112_8.out.below hb RA_m112_8.out.lt)
        have RB_m112_12 := Lib.hid (RB_m112_8.out.below hb RB_m112_8.out.lt)
        have B_m112_12 := Lib.hid (B_m112_8.out.trans (hb.mono B_m112_8.out.size))
        clear hb RA_m112_8 RB_m112_8 B_m112_8
        have cm112_14_0 := RA_m112_12.out.cell 0
        have cm112_14_1 := RA_m112_12.out.cell 1
        have cm112_14_2 := RA_m112_12.out.cell 2
        have cm112_14_3 := RA_m112_12.out.cell 3
        simp only [List.getElem?_cons_zero, List.getElem?_cons_succ] at cm112_14_0 cm112_14_1 cm112_14_2 cm112_14_3
        have cm112_15_0 := RB_m112_12.out.cell 0
        have cm112_15_1 := RB_m112_12.out.cell 1
        have cm112_15_2 := RB_m112_12.out.cell 2
        have cm112_15_3 := RB_m112_12.out.cell 3
        simp only [List.getElem?_cons_zero, List.getElem?_cons_succ] at cm112_15_0 cm112_15_1 cm112_15_2 cm112_15_3
        go_wp2_with fail
        refine (HI2.out _).mono ?_
        rintro e Wm112_13 ⟨rfl, hb⟩
        clear cm112_14_0 cm112_14_1 cm112_14_2 cm112_14_3 cm112_15_0 cm112_15_1 cm112_15_2 cm112_15_3
        have RA_m112_16 := Lib.hid (RA_m112_12.out.below hb RA_m112_12.out.lt)
        have RB_m112_16 := Lib.hid (RB_m112_12.out.below hb RB_m112_12.out.lt)
        have B_m112_16 := Lib.hid (B_m112_12.out.trans (hb.mono B_m112_12.out.size))
        clear hb RA_m112_12 RB_m112_12 B_m112_12
        have cm112_18_0 := RA_m112_16.out.cell 0
        have cm112_18_1 := RA_m112_16.out.cell 1
        have cm112_18_2 := RA_m112_16.out.cell 2
        have cm112_18_3 := RA_m112_16.out.cell 3
        simp only [List.getElem?_cons_zero, List.getElem?_cons_succ] at cm112_18_0 cm112_18_1 cm112_18_2 cm112_18_3
        have cm112_19_0 := RB_m112_16.out.cell 0
        have cm112_19_1 := RB_m112_16.out.cell 1
        have cm112_19_2 := RB_m112_16.out.cell 2
        have cm112_19_3 := RB_m112_16.out.cell 3
        simp only [List.getElem?_cons_zero, List.getElem?_cons_succ] at cm112_19_0 cm112_19_1 cm112_19_2 cm112_19_3
        go_wp2_with fail
        refine (HI3.out _).mono ?_
        rintro e Wm112_17 ⟨rfl, hb⟩
        clear cm112_18_0 cm112_18_1 cm112_18_2 cm112_18_3 cm112_19_0 cm112_19_1 cm112_19_2 cm112_19_3
        have RA_m112_20 := Lib.hid (RA_m112_16.out.below hb RA_m112_16.out.lt)
        have RB_m112_20 := Lib.hid (RB_m112_16.out.below hb RB_m112_16.out.lt)
        have B_m112_20 := Lib.hid (B_m112_16.out.trans (hb.mono B_m112_16.out.size))
        clear hb RA_m112_16 RB_m112_16 B_m112_16
        go_wp2
        go_ret
        exact ⟨rfl, B_m112_20.out⟩
      rw [h2] at HI3
      cases h3 : insideB v0 v1 v0
      · rw [show meetB x0 x1 y0 y1 u0 u1 v0 v1 = false from Bool.eq_false_iff.2 (fun hm => by have hm := (meet_iff _ _ _ _ _ _ _ _).1 hm; have hb0 := box_t g0; have hb1 := box_t g1; have k0 := ins_t h0; have k1 := ins_t h1; have k2 := ins_t h2; have k3 := ins_f h3; omega)]
        rw [h3] at HI4
        clear g0 g1 hx h0 h1 h2 h3
        go_enter Try.func12, Try.ntmps12
        go_upto_region 1 with fail
        have RA_m113_1 := Lib.hid ((row_last w (w.heap.size) 23 [.int .i64 x0, .int .i64 x1, .int .i64 y0, .int .i64 y1] (by simp)).alloc (.cells #[.int .i64 u0, .int .i64 u1, .int .i64 v0, .int .i64 v1] 23))
        have RB_m113_1 := Lib.hid (row_last (w.alloc (.cells #[.int .i64 x0, .int .i64 x1, .int .i64 y0, .int .i64 y1] 23)) (w.heap.size + 1) 23 [.int .i64 u0, .int .i64 u1, .int .i64 v0, .int .i64 v1] (by simp))
        have B_m113_1 := Lib.hid (((Below.refl w.heap.size w).alloc (Nat.le_refl _) (.cells #[.int .i64 x0, .int .i64 x1, .int .i64 y0, .int .i64 y1] 23)).alloc (by have := Nat.le_refl w.heap.size; simp <;> omega) (.cells #[.int .i64 u0, .int .i64 u1, .int .i64 v0, .int .i64 v1] 23))
        generalize ((w.alloc (.cells #[.int .i64 x0, .int .i64 x1, .int .i64 y0, .int .i64 y1] 23)).alloc (.cells #[.int .i64 u0, .int .i64 u1, .int .i64 v0, .int .i64 v1] 23)) = Vm113_1 at RA_m113_1 RB_m113_1 B_m113_1 ⊢
        have cm113_3_0 := RA_m113_1.out.cell 0
        have cm113_3_1 := RA_m113_1.out.cell 1
        have cm113_3_2 := RA_m113_1.out.cell 2
        have cm113_3_3 := RA_m113_1.out.cell 3
        simp only [List.getElem?_cons_zero, List.getElem?_cons_succ] at cm113_3_0 cm113_3_1 cm113_3_2 cm113_3_3
        go_wp2_with fail
        refine (HA.out _).mono ?_
        rintro e Wm113_2 ⟨rfl, hb⟩
        clear cm113_3_0 cm113_3_1 cm113_3_2 cm113_3_3
        have RA_m113_4 := Lib.hid (RA_m113_1.out.below hb RA_m113_1.out.lt)
        have RB_m113_4 := Lib.hid (RB_m113_1.out.below hb RB_m113_1.out.lt)
        have B_m113_4 := Lib.hid (B_m113_1.out.trans (hb.mono B_m113_1.out.size))
        clear hb RA_m113_1 RB_m113_1 B_m113_1
        have cm113_6_0 := RB_m113_4.out.cell 0
        have cm113_6_1 := RB_m113_4.out.cell 1
        have cm113_6_2 := RB_m113_4.out.cell 2
        have cm113_6_3 := RB_m113_4.out.cell 3
        simp only [List.getElem?_cons_zero, List.getElem?_cons_succ] at cm113_6_0 cm113_6_1 cm113_6_2 cm113_6_3
        go_wp2_with fail
        refine (HB.out _).mono ?_
        rintro e Wm113_5 ⟨rfl, hb⟩
        clear cm113_6_0 cm113_6_1 cm113_6_2 cm113_6_3
        have RA_m113_7 := Lib.hid (RA_m113_4.out.below hb RA_m113_4.out.lt)
        have RB_m113_7 := Lib.hid (RB_m113_4.out.below hb RB_m113_4.out.lt)
        have B_m113_7 := Lib.hid (B_m113_4.out.trans (hb.mono B_m113_4.out.size))
        clear hb RA_m113_4 RB_m113_4 B_m113_4
        go_wp2_with fail
        refine wp_region_held_drew (S := fun w' => Row w' (w.heap.size) 23 [.int .i64 x0, .int .i64 x1, .int .i64 y0, .int .i64 y1]) (by kernel_rfl) RA_m113_7.out.drew (fun hHeld => ?_)
        clear hHeld
        have RA_m113_8 := Lib.hid RA_m113_7.out.drew
        have RB_m113_8 := Lib.hid RB_m113_7.out.drew
        have B_m113_8 := Lib.hid B_m113_7.out.drew
        clear RA_m113_7 RB_m113_7 B_m113_7
        generalize Wm113_5.drew = Dm113_8 at RA_m113_8 RB_m113_8 B_m113_8 ⊢
        refine wpAnyH_take (i := 0) (oi := ⟨some 15, _, _, _, _, _⟩) (v := ?vm113_rm113_8_1) rfl (by kernel_rfl) (by kernel_rfl) (by kernel_rfl) (fun _ _ _ h => h) (Or.inl ⟨by rfl, ?ym113_rm113_8_1⟩) RA_m113_8.out ?rm113_rm113_8_1
        case ym113_rm113_8_1 =>
          rintro w' hSw
          go_simp
          try with_reducible rfl
        try simp only [Act.put, List.setIfInBounds_toArray, List.set_cons_zero, List.set_cons_succ]
        refine wpAnyH_take (i := 1) (oi := ⟨some 16, _, _, _, _, _⟩) (v := ?vm113_rm113_8_2) rfl (by kernel_rfl) (by kernel_rfl) (by kernel_rfl) (fun _ _ _ h => h) (Or.inl ⟨by rfl, ?ym113_rm113_8_2⟩) RA_m113_8.out ?rm113_rm113_8_2
        case ym113_rm113_8_2 =>
          rintro w' hSw
          have k0 := (show Row w' _ _ _ from hSw).cell 0
          have k1 := (show Row w' _ _ _ from hSw).cell 1
          have k2 := (show Row w' _ _ _ from hSw).cell 2
          have k3 := (show Row w' _ _ _ from hSw).cell 3
          simp only [List.getElem?_cons_zero, List.getElem?_cons_succ] at k0 k1 k2 k3
          go_simp
          try with_reducible rfl
        try simp only [Act.put, List.setIfInBounds_toArray, List.set_cons_zero, List.set_cons_succ]
        refine wpAnyH_take (i := 2) (oi := ⟨some 17, _, _, _, _, _⟩) (v := ?vm113_rm113_8_3) rfl (by kernel_rfl) (by kernel_rfl) (by kernel_rfl) (fun _ _ _ h => h) (Or.inl ⟨by rfl, ?ym113_rm113_8_3⟩) RA_m113_8.out ?rm113_rm113_8_3
        case ym113_rm113_8_3 =>
          rintro w' hSw
          go_simp
          try with_reducible rfl
        try simp only [Act.put, List.setIfInBounds_toArray, List.set_cons_zero, List.set_cons_succ]
        refine wpAnyH_take (i := 3) (oi := ⟨some 18, _, _, _, _, _⟩) (v := ?vm113_rm113_8_4) rfl (by kernel_rfl) (by kernel_rfl) (by kernel_rfl) (fun _ _ _ h => h) (Or.inl ⟨by rfl, ?ym113_rm113_8_4⟩) RA_m113_8.out ?rm113_rm113_8_4
        case ym113_rm113_8_4 =>
          rintro w' hSw
          have k0 := (show Row w' _ _ _ from hSw).cell 0
          have k1 := (show Row w' _ _ _ from hSw).cell 1
          have k2 := (show Row w' _ _ _ from hSw).cell 2
          have k3 := (show Row w' _ _ _ from hSw).cell 3
          simp only [List.getElem?_cons_zero, List.getElem?_cons_succ] at k0 k1 k2 k3
          go_simp
          try with_reducible rfl
        try simp only [Act.put, List.setIfInBounds_toArray, List.set_cons_zero, List.set_cons_succ]
        refine wpAnyH_take (i := 4) (oi := ⟨some 5, _, _, _, _, _⟩) (v := ?vm113_rm113_8_5) rfl (by kernel_rfl) (by kernel_rfl) (by kernel_rfl) (fun _ _ _ h => h) (Or.inl ⟨by rfl, ?ym113_rm113_8_5⟩) RA_m113_8.out ?rm113_rm113_8_5
        case ym113_rm113_8_5 =>
          rintro w' hSw
          go_simp
          try with_reducible rfl
        try simp only [Act.put, List.setIfInBounds_toArray, List.set_cons_zero, List.set_cons_succ]
        refine wpAnyH_take (i := 5) (oi := ⟨some 6, _, _, _, _, _⟩) (v := ?vm113_rm113_8_6) rfl (by kernel_rfl) (by kernel_rfl) (by kernel_rfl) (fun _ _ _ h => h) (Or.inl ⟨by rfl, ?ym113_rm113_8_6⟩) RA_m113_8.out ?rm113_rm113_8_6
        case ym113_rm113_8_6 =>
          rintro w' hSw
          go_simp
          try with_reducible rfl
        try simp only [Act.put, List.setIfInBounds_toArray, List.set_cons_zero, List.set_cons_succ]
        refine wpAnyH_done (by kernel_rfl) ?_ _
        have cm113_10_0 := RA_m113_8.out.cell 0
        have cm113_10_1 := RA_m113_8.out.cell 1
        have cm113_10_2 := RA_m113_8.out.cell 2
        have cm113_10_3 := RA_m113_8.out.cell 3
        simp only [List.getElem?_cons_zero, List.getElem?_cons_succ] at cm113_10_0 cm113_10_1 cm113_10_2 cm113_10_3
        have cm113_11_0 := RB_m113_8.out.cell 0
        have cm113_11_1 := RB_m113_8.out.cell 1
        have cm113_11_2 := RB_m113_8.out.cell 2
        have cm113_11_3 := RB_m113_8.out.cell 3
        simp only [List.getElem?_cons_zero, List.getElem?_cons_succ] at cm113_11_0 cm113_11_1 cm113_11_2 cm113_11_3
        go_wp2_with fail
        refine (HI1.out _).mono ?_
        rintro e Wm113_9 ⟨rfl, hb⟩
        clear cm113_10_0 cm113_10_1 cm113_10_2 cm113_10_3 cm113_11_0 cm113_11_1 cm113_11_2 cm113_11_3
        have RA_m113_12 := Lib.hid (RA_m113_8.out.below hb RA_m113_8.out.lt)
        have RB_m113_12 := Lib.hid (RB_m113_8.out.below hb RB_m113_8.out.lt)
        have B_m113_12 := Lib.hid (B_m113_8.out.trans (hb.mono B_m113_8.out.size))
        clear hb RA_m113_8 RB_m113_8 B_m113_8
        have cm113_14_0 := RA_m113_12.out.cell 0
        have cm113_14_1 := RA_m113_12.out.cell 1
        have cm113_14_2 := RA_m113_12.out.cell 2
        have cm113_14_3 := RA_m113_12.out.cell 3
        simp only [List.getElem?_cons_zero, List.getElem?_cons_succ] at cm113_14_0 cm113_14_1 cm113_14_2 cm113_14_3
        have cm113_15_0 := RB_m113_12.out.cell 0
        have cm113_15_1 := RB_m113_12.out.cell 1
        have cm113_15_2 := RB_m113_12.out.cell 2
        have cm113_15_3 := RB_m113_12.out.cell 3
        simp only [List.getElem?_cons_zero, List.getElem?_cons_succ] at cm113_15_0 cm113_15_1 cm113_15_2 cm113_15_3
        go_wp2_with fail
        refine (HI2.out _).mono ?_
        rintro e Wm113_13 ⟨rfl, hb⟩
        clear cm113_14_0 cm113_14_1 cm113_14_2 cm113_14_3 cm113_15_0 cm113_15_1 cm113_15_2 cm113_15_3
        have RA_m113_16 := Lib.hid (RA_m113_12.out.below hb RA_m113_12.out.lt)
        have RB_m113_16 := Lib.hid (RB_m113_12.out.below hb RB_m113_12.out.lt)
        have B_m113_16 := Lib.hid (B_m113_12.out.trans (hb.mono B_m113_12.out.size))
        clear hb RA_m113_12 RB_m113_12 B_m113_12
        have cm113_18_0 := RA_m113_16.out.cell 0
        have cm113_18_1 := RA_m113_16.out.cell 1
        have cm113_18_2 := RA_m113_16.out.cell 2
        have cm113_18_3 := RA_m113_16.out.cell 3
        simp only [List.getElem?_cons_zero, List.getElem?_cons_succ] at cm113_18_0 cm113_18_1 cm113_18_2 cm113_18_3
        have cm113_19_0 := RB_m113_16.out.cell 0
        have cm113_19_1 := RB_m113_16.out.cell 1
        have cm113_19_2 := RB_m113_16.out.cell 2
        have cm113_19_3 := RB_m113_16.out.cell 3
        simp only [List.getElem?_cons_zero, List.getElem?_cons_succ] at cm113_19_0 cm113_19_1 cm113_19_2 cm113_19_3
        go_wp2_with fail
        refine (HI3.out _).mono ?_
        rintro e Wm113_17 ⟨rfl, hb⟩
        clear cm113_18_0 cm113_18_1 cm113_18_2 cm113_18_3 cm113_19_0 cm113_19_1 cm113_19_2 cm113_19_3
        have RA_m113_20 := Lib.hid (RA_m113_16.out.below hb RA_m113_16.out.lt)
        have RB_m113_20 := Lib.hid (RB_m113_16.out.below hb RB_m113_16.out.lt)
        have B_m113_20 := Lib.hid (B_m113_16.out.trans (hb.mono B_m113_16.out.size))
        clear hb RA_m113_16 RB_m113_16 B_m113_16
        have cm113_22_0 := RA_m113_20.out.cell 0
        have cm113_22_1 := RA_m113_20.out.cell 1
        have cm113_22_2 := RA_m113_20.out.cell 2
        have cm113_22_3 := RA_m113_20.out.cell 3
        simp only [List.getElem?_cons_zero, List.getElem?_cons_succ] at cm113_22_0 cm113_22_1 cm113_22_2 cm113_22_3
        have cm113_23_0 := RB_m113_20.out.cell 0
        have cm113_23_1 := RB_m113_20.out.cell 1
        have cm113_23_2 := RB_m113_20.out.cell 2
        have cm113_23_3 := RB_m113_20.out.cell 3
        simp only [List.getElem?_cons_zero, List.getElem?_cons_succ] at cm113_23_0 cm113_23_1 cm113_23_2 cm113_23_3
        go_wp2_with fail
        refine (HI4.out _).mono ?_
        rintro e Wm113_21 ⟨rfl, hb⟩
        clear cm113_22_0 cm113_22_1 cm113_22_2 cm113_22_3 cm113_23_0 cm113_23_1 cm113_23_2 cm113_23_3
        have RA_m113_24 := Lib.hid (RA_m113_20.out.below hb RA_m113_20.out.lt)
        have RB_m113_24 := Lib.hid (RB_m113_20.out.below hb RB_m113_20.out.lt)
        have B_m113_24 := Lib.hid (B_m113_20.out.trans (hb.mono B_m113_20.out.size))
        clear hb RA_m113_20 RB_m113_20 B_m113_20
        go_wp2
        go_ret
        exact ⟨rfl, B_m113_24.out⟩
      rw [h3] at HI4
      rw [show meetB x0 x1 y0 y1 u0 u1 v0 v1 = true from (meet_iff _ _ _ _ _ _ _ _).2 (by have hb0 := box_t g0; have hb1 := box_t g1; have k0 := ins_t h0; have k1 := ins_t h1; have k2 := ins_t h2; have k3 := ins_t h3; omega)]
      clear h0 h1 h2 h3 g0 g1 hx
      go_enter Try.func12, Try.ntmps12
      go_upto_region 1 with fail
      have RA_m114_1 := Lib.hid ((row_last w (w.heap.size) 23 [.int .i64 x0, .int .i64 x1, .int .i64 y0, .int .i64 y1] (by simp)).alloc (.cells #[.int .i64 u0, .int .i64 u1, .int .i64 v0, .int .i64 v1] 23))
      have RB_m114_1 := Lib.hid (row_last (w.alloc (.cells #[.int .i64 x0, .int .i64 x1, .int .i64 y0, .int .i64 y1] 23)) (w.heap.size + 1) 23 [.int .i64 u0, .int .i64 u1, .int .i64 v0, .int .i64 v1] (by simp))
      have B_m114_1 := Lib.hid (((Below.refl w.heap.size w).alloc (Nat.le_refl _) (.cells #[.int .i64 x0, .int .i64 x1, .int .i64 y0, .int .i64 y1] 23)).alloc (by have := Nat.le_refl w.heap.size; simp <;> omega) (.cells #[.int .i64 u0, .int .i64 u1, .int .i64 v0, .int .i64 v1] 23))
      generalize ((w.alloc (.cells #[.int .i64 x0, .int .i64 x1, .int .i64 y0, .int .i64 y1] 23)).alloc (.cells #[.int .i64 u0, .int .i64 u1, .int .i64 v0, .int .i64 v1] 23)) = Vm114_1 at RA_m114_1 RB_m114_1 B_m114_1 ⊢
      have cm114_3_0 := RA_m114_1.out.cell 0
      have cm114_3_1 := RA_m114_1.out.cell 1
      have cm114_3_2 := RA_m114_1.out.cell 2
      have cm114_3_3 := RA_m114_1.out.cell 3
      simp only [List.getElem?_cons_zero, List.getElem?_cons_succ] at cm114_3_0 cm114_3_1 cm114_3_2 cm114_3_3
      go_wp2_with fail
      refine (HA.out _).mono ?_
      rintro e Wm114_2 ⟨rfl, hb⟩
      clear cm114_3_0 cm114_3_1 cm114_3_2 cm114_3_3
      have RA_m114_4 := Lib.hid (RA_m114_1.out.below hb RA_m114_1.out.lt)
      have RB_m114_4 := Lib.hid (RB_m114_1.out.below hb RB_m114_1.out.lt)
      have B_m114_4 := Lib.hid (B_m114_1.out.trans (hb.mono B_m114_1.out.size))
      clear hb RA_m114_1 RB_m114_1 B_m114_1
      have cm114_6_0 := RB_m114_4.out.cell 0
      have cm114_6_1 := RB_m114_4.out.cell 1
      have cm114_6_2 := RB_m114_4.out.cell 2
      have cm114_6_3 := RB_m114_4.out.cell 3
      simp only [List.getElem?_cons_zero, List.getElem?_cons_succ] at cm114_6_0 cm114_6_1 cm114_6_2 cm114_6_3
      go_wp2_with fail
      refine (HB.out _).mono ?_
      rintro e Wm114_5 ⟨rfl, hb⟩
      clear cm114_6_0 cm114_6_1 cm114_6_2 cm114_6_3
      have RA_m114_7 := Lib.hid (RA_m114_4.out.below hb RA_m114_4.out.lt)
      have RB_m114_7 := Lib.hid (RB_m114_4.out.below hb RB_m114_4.out.lt)
      have B_m114_7 := Lib.hid (B_m114_4.out.trans (hb.mono B_m114_4.out.size))
      clear hb RA_m114_4 RB_m114_4 B_m114_4
      go_wp2_with fail
      refine wp_region_held_drew (S := fun w' => Row w' (w.heap.size) 23 [.int .i64 x0, .int .i64 x1, .int .i64 y0, .int .i64 y1]) (by kernel_rfl) RA_m114_7.out.drew (fun hHeld => ?_)
      clear hHeld
      have RA_m114_8 := Lib.hid RA_m114_7.out.drew
      have RB_m114_8 := Lib.hid RB_m114_7.out.drew
      have B_m114_8 := Lib.hid B_m114_7.out.drew
      clear RA_m114_7 RB_m114_7 B_m114_7
      generalize Wm114_5.drew = Dm114_8 at RA_m114_8 RB_m114_8 B_m114_8 ⊢
      refine wpAnyH_take (i := 0) (oi := ⟨some 15, _, _, _, _, _⟩) (v := ?vm114_rm114_8_1) rfl (by kernel_rfl) (by kernel_rfl) (by kernel_rfl) (fun _ _ _ h => h) (Or.inl ⟨by rfl, ?ym114_rm114_8_1⟩) RA_m114_8.out ?rm114_rm114_8_1
      case ym114_rm114_8_1 =>
        rintro w' hSw
        go_simp
        try with_reducible rfl
      try simp only [Act.put, List.setIfInBounds_toArray, List.set_cons_zero, List.set_cons_succ]
      refine wpAnyH_take (i := 1) (oi := ⟨some 16, _, _, _, _, _⟩) (v := ?vm114_rm114_8_2) rfl (by kernel_rfl) (by kernel_rfl) (by kernel_rfl) (fun _ _ _ h => h) (Or.inl ⟨by rfl, ?ym114_rm114_8_2⟩) RA_m114_8.out ?rm114_rm114_8_2
      case ym114_rm114_8_2 =>
        rintro w' hSw
        have k0 := (show Row w' _ _ _ from hSw).cell 0
        have k1 := (show Row w' _ _ _ from hSw).cell 1
        have k2 := (show Row w' _ _ _ from hSw).cell 2
        have k3 := (show Row w' _ _ _ from hSw).cell 3
        simp only [List.getElem?_cons_zero, List.getElem?_cons_succ] at k0 k1 k2 k3
        go_simp
        try with_reducible rfl
      try simp only [Act.put, List.setIfInBounds_toArray, List.set_cons_zero, List.set_cons_succ]
      refine wpAnyH_take (i := 2) (oi := ⟨some 17, _, _, _, _, _⟩) (v := ?vm114_rm114_8_3) rfl (by kernel_rfl) (by kernel_rfl) (by kernel_rfl) (fun _ _ _ h => h) (Or.inl ⟨by rfl, ?ym114_rm114_8_3⟩) RA_m114_8.out ?rm114_rm114_8_3
      case ym114_rm114_8_3 =>
        rintro w' hSw
        go_simp
        try with_reducible rfl
      try simp only [Act.put, List.setIfInBounds_toArray, List.set_cons_zero, List.set_cons_succ]
      refine wpAnyH_take (i := 3) (oi := ⟨some 18, _, _, _, _, _⟩) (v := ?vm114_rm114_8_4) rfl (by kernel_rfl) (by kernel_rfl) (by kernel_rfl) (fun _ _ _ h => h) (Or.inl ⟨by rfl, ?ym114_rm114_8_4⟩) RA_m114_8.out ?rm114_rm114_8_4
      case ym114_rm114_8_4 =>
        rintro w' hSw
        have k0 := (show Row w' _ _ _ from hSw).cell 0
        have k1 := (show Row w' _ _ _ from hSw).cell 1
        have k2 := (show Row w' _ _ _ from hSw).cell 2
        have k3 := (show Row w' _ _ _ from hSw).cell 3
        simp only [List.getElem?_cons_zero, List.getElem?_cons_succ] at k0 k1 k2 k3
        go_simp
        try with_reducible rfl
      try simp only [Act.put, List.setIfInBounds_toArray, List.set_cons_zero, List.set_cons_succ]
      refine wpAnyH_take (i := 4) (oi := ⟨some 5, _, _, _, _, _⟩) (v := ?vm114_rm114_8_5) rfl (by kernel_rfl) (by kernel_rfl) (by kernel_rfl) (fun _ _ _ h => h) (Or.inl ⟨by rfl, ?ym114_rm114_8_5⟩) RA_m114_8.out ?rm114_rm114_8_5
      case ym114_rm114_8_5 =>
        rintro w' hSw
        go_simp
        try with_reducible rfl
      try simp only [Act.put, List.setIfInBounds_toArray, List.set_cons_zero, List.set_cons_succ]
      refine wpAnyH_take (i := 5) (oi := ⟨some 6, _, _, _, _, _⟩) (v := ?vm114_rm114_8_6) rfl (by kernel_rfl) (by kernel_rfl) (by kernel_rfl) (fun _ _ _ h => h) (Or.inl ⟨by rfl, ?ym114_rm114_8_6⟩) RA_m114_8.out ?rm114_rm114_8_6
      case ym114_rm114_8_6 =>
        rintro w' hSw
        go_simp
        try with_reducible rfl
      try simp only [Act.put, List.setIfInBounds_toArray, List.set_cons_zero, List.set_cons_succ]
      refine wpAnyH_done (by kernel_rfl) ?_ _
      have cm114_10_0 := RA_m114_8.out.cell 0
      have cm114_10_1 := RA_m114_8.out.cell 1
      have cm114_10_2 := RA_m114_8.out.cell 2
      have cm114_10_3 := RA_m114_8.out.cell 3
      simp only [List.getElem?_cons_zero, List.getElem?_cons_succ] at cm114_10_0 cm114_10_1 cm114_10_2 cm114_10_3
      have cm114_11_0 := RB_m114_8.out.cell 0
      have cm114_11_1 := RB_m114_8.out.cell 1
      have cm114_11_2 := RB_m114_8.out.cell 2
      have cm114_11_3 := RB_m114_8.out.cell 3
      simp only [List.getElem?_cons_zero, List.getElem?_cons_succ] at cm114_11_0 cm114_11_1 cm114_11_2 cm114_11_3
      go_wp2_with fail
      refine (HI1.out _).mono ?_
      rintro e Wm114_9 ⟨rfl, hb⟩
      clear cm114_10_0 cm114_10_1 cm114_10_2 cm114_10_3 cm114_11_0 cm114_11_1 cm114_11_2 cm114_11_3
      have RA_m114_12 := Lib.hid (RA_m114_8.out.below hb RA_m114_8.out.lt)
      have RB_m114_12 := Lib.hid (RB_m114_8.out.below hb RB_m114_8.out.lt)
      have B_m114_12 := Lib.hid (B_m114_8.out.trans (hb.mono B_m114_8.out.size))
      clear hb RA_m114_8 RB_m114_8 B_m114_8
      have cm114_14_0 := RA_m114_12.out.cell 0
      have cm114_14_1 := RA_m114_12.out.cell 1
      have cm114_14_2 := RA_m114_12.out.cell 2
      have cm114_14_3 := RA_m114_12.out.cell 3
      simp only [List.getElem?_cons_zero, List.getElem?_cons_succ] at cm114_14_0 cm114_14_1 cm114_14_2 cm114_14_3
      have cm114_15_0 := RB_m114_12.out.cell 0
      have cm114_15_1 := RB_m114_12.out.cell 1
      have cm114_15_2 := RB_m114_12.out.cell 2
      have cm114_15_3 := RB_m114_12.out.cell 3
      simp only [List.getElem?_cons_zero, List.getElem?_cons_succ] at cm114_15_0 cm114_15_1 cm114_15_2 cm114_15_3
      go_wp2_with fail
      refine (HI2.out _).mono ?_
      rintro e Wm114_13 ⟨rfl, hb⟩
      clear cm114_14_0 cm114_14_1 cm114_14_2 cm114_14_3 cm114_15_0 cm114_15_1 cm114_15_2 cm114_15_3
      have RA_m114_16 := Lib.hid (RA_m114_12.out.below hb RA_m114_12.out.lt)
      have RB_m114_16 := Lib.hid (RB_m114_12.out.below hb RB_m114_12.out.lt)
      have B_m114_16 := Lib.hid (B_m114_12.out.trans (hb.mono B_m114_12.out.size))
      clear hb RA_m114_12 RB_m114_12 B_m114_12
      have cm114_18_0 := RA_m114_16.out.cell 0
      have cm114_18_1 := RA_m114_16.out.cell 1
      have cm114_18_2 := RA_m114_16.out.cell 2
      have cm114_18_3 := RA_m114_16.out.cell 3
      simp only [List.getElem?_cons_zero, List.getElem?_cons_succ] at cm114_18_0 cm114_18_1 cm114_18_2 cm114_18_3
      have cm114_19_0 := RB_m114_16.out.cell 0
      have cm114_19_1 := RB_m114_16.out.cell 1
      have cm114_19_2 := RB_m114_16.out.cell 2
      have cm114_19_3 := RB_m114_16.out.cell 3
      simp only [List.getElem?_cons_zero, List.getElem?_cons_succ] at cm114_19_0 cm114_19_1 cm114_19_2 cm114_19_3
      go_wp2_with fail
      refine (HI3.out _).mono ?_
      rintro e Wm114_17 ⟨rfl, hb⟩
      clear cm114_18_0 cm114_18_1 cm114_18_2 cm114_18_3 cm114_19_0 cm114_19_1 cm114_19_2 cm114_19_3
      have RA_m114_20 := Lib.hid (RA_m114_16.out.below hb RA_m114_16.out.lt)
      have RB_m114_20 := Lib.hid (RB_m114_16.out.below hb RB_m114_16.out.lt)
      have B_m114_20 := Lib.hid (B_m114_16.out.trans (hb.mono B_m114_16.out.size))
      clear hb RA_m114_16 RB_m114_16 B_m114_16
      have cm114_22_0 := RA_m114_20.out.cell 0
      have cm114_22_1 := RA_m114_20.out.cell 1
      have cm114_22_2 := RA_m114_20.out.cell 2
      have cm114_22_3 := RA_m114_20.out.cell 3
      simp only [List.getElem?_cons_zero, List.getElem?_cons_succ] at cm114_22_0 cm114_22_1 cm114_22_2 cm114_22_3
      have cm114_23_0 := RB_m114_20.out.cell 0
      have cm114_23_1 := RB_m114_20.out.cell 1
      have cm114_23_2 := RB_m114_20.out.cell 2
      have cm114_23_3 := RB_m114_20.out.cell 3
      simp only [List.getElem?_cons_zero, List.getElem?_cons_succ] at cm114_23_0 cm114_23_1 cm114_23_2 cm114_23_3
      go_wp2_with fail
      refine (HI4.out _).mono ?_
      rintro e Wm114_21 ⟨rfl, hb⟩
      clear cm114_22_0 cm114_22_1 cm114_22_2 cm114_22_3 cm114_23_0 cm114_23_1 cm114_23_2 cm114_23_3
      have RA_m114_24 := Lib.hid (RA_m114_20.out.below hb RA_m114_20.out.lt)
      have RB_m114_24 := Lib.hid (RB_m114_20.out.below hb RB_m114_20.out.lt)
      have B_m114_24 := Lib.hid (B_m114_20.out.trans (hb.mono B_m114_20.out.size))
      clear hb RA_m114_20 RB_m114_20 B_m114_20
      go_wp2
      go_ret
      exact ⟨rfl, B_m114_24.out⟩
    · have HI1 := Lib.hid (inside_bel x0 x1 u0)
      have HI2 := Lib.hid (inside_bel u0 u1 u0)
      have HI3 := Lib.hid (inside_bel y0 y1 y0)
      have HI4 := Lib.hid (inside_bel v0 v1 y0)
      cases h0 : insideB x0 x1 u0
      · rw [show meetB x0 x1 y0 y1 u0 u1 v0 v1 = false from Bool.eq_false_iff.2 (fun hm => by have hm := (meet_iff _ _ _ _ _ _ _ _).1 hm; have hb0 := box_t g0; have hb1 := box_t g1; have k0 := ins_f h0; omega)]
        rw [h0] at HI1
        clear g0 g1 hx h0
        go_enter Try.func12, Try.ntmps12
        go_upto_region 1 with fail
        have RA_m100_1 := Lib.hid ((row_last w (w.heap.size) 23 [.int .i64 x0, .int .i64 x1, .int .i64 y0, .int .i64 y1] (by simp)).alloc (.cells #[.int .i64 u0, .int .i64 u1, .int .i64 v0, .int .i64 v1] 23))
        have RB_m100_1 := Lib.hid (row_last (w.alloc (.cells #[.int .i64 x0, .int .i64 x1, .int .i64 y0, .int .i64 y1] 23)) (w.heap.size + 1) 23 [.int .i64 u0, .int .i64 u1, .int .i64 v0, .int .i64 v1] (by simp))
        have B_m100_1 := Lib.hid (((Below.refl w.heap.size w).alloc (Nat.le_refl _) (.cells #[.int .i64 x0, .int .i64 x1, .int .i64 y0, .int .i64 y1] 23)).alloc (by have := Nat.le_refl w.heap.size; simp <;> omega) (.cells #[.int .i64 u0, .int .i64 u1, .int .i64 v0, .int .i64 v1] 23))
        generalize ((w.alloc (.cells #[.int .i64 x0, .int .i64 x1, .int .i64 y0, .int .i64 y1] 23)).alloc (.cells #[.int .i64 u0, .int .i64 u1, .int .i64 v0, .int .i64 v1] 23)) = Vm100_1 at RA_m100_1 RB_m100_1 B_m100_1 ⊢
        have cm100_3_0 := RA_m100_1.out.cell 0
        have cm100_3_1 := RA_m100_1.out.cell 1
        have cm100_3_2 := RA_m100_1.out.cell 2
        have cm100_3_3 := RA_m100_1.out.cell 3
        simp only [List.getElem?_cons_zero, List.getElem?_cons_succ] at cm100_3_0 cm100_3_1 cm100_3_2 cm100_3_3
        go_wp2_with fail
        refine (HA.out _).mono ?_
        rintro e Wm100_2 ⟨rfl, hb⟩
        clear cm100_3_0 cm100_3_1 cm100_3_2 cm100_3_3
        have RA_m100_4 := Lib.hid (RA_m100_1.out.below hb RA_m100_1.out.lt)
        have RB_m100_4 := Lib.hid (RB_m100_1.out.below hb RB_m100_1.out.lt)
        have B_m100_4 := Lib.hid (B_m100_1.out.trans (hb.mono B_m100_1.out.size))
        clear hb RA_m100_1 RB_m100_1 B_m100_1
        have cm100_6_0 := RB_m100_4.out.cell 0
        have cm100_6_1 := RB_m100_4.out.cell 1
        have cm100_6_2 := RB_m100_4.out.cell 2
        have cm100_6_3 := RB_m100_4.out.cell 3
        simp only [List.getElem?_cons_zero, List.getElem?_cons_succ] at cm100_6_0 cm100_6_1 cm100_6_2 cm100_6_3
        go_wp2_with fail
        refine (HB.out _).mono ?_
        rintro e Wm100_5 ⟨rfl, hb⟩
        clear cm100_6_0 cm100_6_1 cm100_6_2 cm100_6_3
        have RA_m100_7 := Lib.hid (RA_m100_4.out.below hb RA_m100_4.out.lt)
        have RB_m100_7 := Lib.hid (RB_m100_4.out.below hb RB_m100_4.out.lt)
        have B_m100_7 := Lib.hid (B_m100_4.out.trans (hb.mono B_m100_4.out.size))
        clear hb RA_m100_4 RB_m100_4 B_m100_4
        go_wp2_with fail
        refine wp_region_held_drew (S := fun w' => Row w' (w.heap.size) 23 [.int .i64 x0, .int .i64 x1, .int .i64 y0, .int .i64 y1]) (by kernel_rfl) RA_m100_7.out.drew (fun hHeld => ?_)
        clear hHeld
        have RA_m100_8 := Lib.hid RA_m100_7.out.drew
        have RB_m100_8 := Lib.hid RB_m100_7.out.drew
        have B_m100_8 := Lib.hid B_m100_7.out.drew
        clear RA_m100_7 RB_m100_7 B_m100_7
        generalize Wm100_5.drew = Dm100_8 at RA_m100_8 RB_m100_8 B_m100_8 ⊢
        refine wpAnyH_take (i := 0) (oi := ⟨some 15, _, _, _, _, _⟩) (v := ?vm100_rm100_8_1) rfl (by kernel_rfl) (by kernel_rfl) (by kernel_rfl) (fun _ _ _ h => h) (Or.inl ⟨by rfl, ?ym100_rm100_8_1⟩) RA_m100_8.out ?rm100_rm100_8_1
        case ym100_rm100_8_1 =>
          rintro w' hSw
          go_simp
          try with_reducible rfl
        try simp only [Act.put, List.setIfInBounds_toArray, List.set_cons_zero, List.set_cons_succ]
        refine wpAnyH_take (i := 1) (oi := ⟨some 16, _, _, _, _, _⟩) (v := ?vm100_rm100_8_2) rfl (by kernel_rfl) (by kernel_rfl) (by kernel_rfl) (fun _ _ _ h => h) (Or.inl ⟨by rfl, ?ym100_rm100_8_2⟩) RA_m100_8.out ?rm100_rm100_8_2
        case ym100_rm100_8_2 =>
          rintro w' hSw
          have k0 := (show Row w' _ _ _ from hSw).cell 0
          have k1 := (show Row w' _ _ _ from hSw).cell 1
          have k2 := (show Row w' _ _ _ from hSw).cell 2
          have k3 := (show Row w' _ _ _ from hSw).cell 3
          simp only [List.getElem?_cons_zero, List.getElem?_cons_succ] at k0 k1 k2 k3
          go_simp
          try with_reducible rfl
        try simp only [Act.put, List.setIfInBounds_toArray, List.set_cons_zero, List.set_cons_succ]
        refine wpAnyH_take (i := 2) (oi := ⟨some 17, _, _, _, _, _⟩) (v := ?vm100_rm100_8_3) rfl (by kernel_rfl) (by kernel_rfl) (by kernel_rfl) (fun _ _ _ h => h) (Or.inl ⟨by rfl, ?ym100_rm100_8_3⟩) RA_m100_8.out ?rm100_rm100_8_3
        case ym100_rm100_8_3 =>
          rintro w' hSw
          go_simp
          try with_reducible rfl
        try simp only [Act.put, List.setIfInBounds_toArray, List.set_cons_zero, List.set_cons_succ]
        refine wpAnyH_take (i := 3) (oi := ⟨some 18, _, _, _, _, _⟩) (v := ?vm100_rm100_8_4) rfl (by kernel_rfl) (by kernel_rfl) (by kernel_rfl) (fun _ _ _ h => h) (Or.inl ⟨by rfl, ?ym100_rm100_8_4⟩) RA_m100_8.out ?rm100_rm100_8_4
        case ym100_rm100_8_4 =>
          rintro w' hSw
          have k0 := (show Row w' _ _ _ from hSw).cell 0
          have k1 := (show Row w' _ _ _ from hSw).cell 1
          have k2 := (show Row w' _ _ _ from hSw).cell 2
          have k3 := (show Row w' _ _ _ from hSw).cell 3
          simp only [List.getElem?_cons_zero, List.getElem?_cons_succ] at k0 k1 k2 k3
          go_simp
          try with_reducible rfl
        try simp only [Act.put, List.setIfInBounds_toArray, List.set_cons_zero, List.set_cons_succ]
        refine wpAnyH_take (i := 4) (oi := ⟨some 5, _, _, _, _, _⟩) (v := ?vm100_rm100_8_5) rfl (by kernel_rfl) (by kernel_rfl) (by kernel_rfl) (fun _ _ _ h => h) (Or.inl ⟨by rfl, ?ym100_rm100_8_5⟩) RA_m100_8.out ?rm100_rm100_8_5
        case ym100_rm100_8_5 =>
          rintro w' hSw
          go_simp
          try with_reducible rfl
        try simp only [Act.put, List.setIfInBounds_toArray, List.set_cons_zero, List.set_cons_succ]
        refine wpAnyH_take (i := 5) (oi := ⟨some 6, _, _, _, _, _⟩) (v := ?vm100_rm100_8_6) rfl (by kernel_rfl) (by kernel_rfl) (by kernel_rfl) (fun _ _ _ h => h) (Or.inl ⟨by rfl, ?ym100_rm100_8_6⟩) RA_m100_8.out ?rm100_rm100_8_6
        case ym100_rm100_8_6 =>
          rintro w' hSw
          go_simp
          try with_reducible rfl
        try simp only [Act.put, List.setIfInBounds_toArray, List.set_cons_zero, List.set_cons_succ]
        refine wpAnyH_done (by kernel_rfl) ?_ _
        have cm100_10_0 := RA_m100_8.out.cell 0
        have cm100_10_1 := RA_m100_8.out.cell 1
        have cm100_10_2 := RA_m100_8.out.cell 2
        have cm100_10_3 := RA_m100_8.out.cell 3
        simp only [List.getElem?_cons_zero, List.getElem?_cons_succ] at cm100_10_0 cm100_10_1 cm100_10_2 cm100_10_3
        have cm100_11_0 := RB_m100_8.out.cell 0
        have cm100_11_1 := RB_m100_8.out.cell 1
        have cm100_11_2 := RB_m100_8.out.cell 2
        have cm100_11_3 := RB_m100_8.out.cell 3
        simp only [List.getElem?_cons_zero, List.getElem?_cons_succ] at cm100_11_0 cm100_11_1 cm100_11_2 cm100_11_3
        go_wp2_with fail
        refine (HI1.out _).mono ?_
        rintro e Wm100_9 ⟨rfl, hb⟩
        clear cm100_10_0 cm100_10_1 cm100_10_2 cm100_10_3 cm100_11_0 cm100_11_1 cm100_11_2 cm100_11_3
        have RA_m100_12 := Lib.hid (RA_m100_8.out.below hb RA_m100_8.out.lt)
        have RB_m100_12 := Lib.hid (RB_m100_8.out.below hb RB_m100_8.out.lt)
        have B_m100_12 := Lib.hid (B_m100_8.out.trans (hb.mono B_m100_8.out.size))
        clear hb RA_m100_8 RB_m100_8 B_m100_8
        go_wp2
        go_ret
        exact ⟨rfl, B_m100_12.out⟩
      rw [h0] at HI1
      cases h1 : insideB u0 u1 u0
      · rw [show meetB x0 x1 y0 y1 u0 u1 v0 v1 = false from Bool.eq_false_iff.2 (fun hm => by have hm := (meet_iff _ _ _ _ _ _ _ _).1 hm; have hb0 := box_t g0; have hb1 := box_t g1; have k0 := ins_t h0; have k1 := ins_f h1; omega)]
        rw [h1] at HI2
        clear g0 g1 hx h0 h1
        go_enter Try.func12, Try.ntmps12
        go_upto_region 1 with fail
        have RA_m101_1 := Lib.hid ((row_last w (w.heap.size) 23 [.int .i64 x0, .int .i64 x1, .int .i64 y0, .int .i64 y1] (by simp)).alloc (.cells #[.int .i64 u0, .int .i64 u1, .int .i64 v0, .int .i64 v1] 23))
        have RB_m101_1 := Lib.hid (row_last (w.alloc (.cells #[.int .i64 x0, .int .i64 x1, .int .i64 y0, .int .i64 y1] 23)) (w.heap.size + 1) 23 [.int .i64 u0, .int .i64 u1, .int .i64 v0, .int .i64 v1] (by simp))
        have B_m101_1 := Lib.hid (((Below.refl w.heap.size w).alloc (Nat.le_refl _) (.cells #[.int .i64 x0, .int .i64 x1, .int .i64 y0, .int .i64 y1] 23)).alloc (by have := Nat.le_refl w.heap.size; simp <;> omega) (.cells #[.int .i64 u0, .int .i64 u1, .int .i64 v0, .int .i64 v1] 23))
        generalize ((w.alloc (.cells #[.int .i64 x0, .int .i64 x1, .int .i64 y0, .int .i64 y1] 23)).alloc (.cells #[.int .i64 u0, .int .i64 u1, .int .i64 v0, .int .i64 v1] 23)) = Vm101_1 at RA_m101_1 RB_m101_1 B_m101_1 ⊢
        have cm101_3_0 := RA_m101_1.out.cell 0
        have cm101_3_1 := RA_m101_1.out.cell 1
        have cm101_3_2 := RA_m101_1.out.cell 2
        have cm101_3_3 := RA_m101_1.out.cell 3
        simp only [List.getElem?_cons_zero, List.getElem?_cons_succ] at cm101_3_0 cm101_3_1 cm101_3_2 cm101_3_3
        go_wp2_with fail
        refine (HA.out _).mono ?_
        rintro e Wm101_2 ⟨rfl, hb⟩
        clear cm101_3_0 cm101_3_1 cm101_3_2 cm101_3_3
        have RA_m101_4 := Lib.hid (RA_m101_1.out.below hb RA_m101_1.out.lt)
        have RB_m101_4 := Lib.hid (RB_m101_1.out.below hb RB_m101_1.out.lt)
        have B_m101_4 := Lib.hid (B_m101_1.out.trans (hb.mono B_m101_1.out.size))
        clear hb RA_m101_1 RB_m101_1 B_m101_1
        have cm101_6_0 := RB_m101_4.out.cell 0
        have cm101_6_1 := RB_m101_4.out.cell 1
        have cm101_6_2 := RB_m101_4.out.cell 2
        have cm101_6_3 := RB_m101_4.out.cell 3
        simp only [List.getElem?_cons_zero, List.getElem?_cons_succ] at cm101_6_0 cm101_6_1 cm101_6_2 cm101_6_3
        go_wp2_with fail
        refine (HB.out _).mono ?_
        rintro e Wm101_5 ⟨rfl, hb⟩
        clear cm101_6_0 cm101_6_1 cm101_6_2 cm101_6_3
        have RA_m101_7 := Lib.hid (RA_m101_4.out.below hb RA_m101_4.out.lt)
        have RB_m101_7 := Lib.hid (RB_m101_4.out.below hb RB_m101_4.out.lt)
        have B_m101_7 := Lib.hid (B_m101_4.out.trans (hb.mono B_m101_4.out.size))
        clear hb RA_m101_4 RB_m101_4 B_m101_4
        go_wp2_with fail
        refine wp_region_held_drew (S := fun w' => Row w' (w.heap.size) 23 [.int .i64 x0, .int .i64 x1, .int .i64 y0, .int .i64 y1]) (by kernel_rfl) RA_m101_7.out.drew (fun hHeld => ?_)
        clear hHeld
        have RA_m101_8 := Lib.hid RA_m101_7.out.drew
        have RB_m101_8 := Lib.hid RB_m101_7.out.drew
        have B_m101_8 := Lib.hid B_m101_7.out.drew
        clear RA_m101_7 RB_m101_7 B_m101_7
        generalize Wm101_5.drew = Dm101_8 at RA_m101_8 RB_m101_8 B_m101_8 ⊢
        refine wpAnyH_take (i := 0) (oi := ⟨some 15, _, _, _, _, _⟩) (v := ?vm101_rm101_8_1) rfl (by kernel_rfl) (by kernel_rfl) (by kernel_rfl) (fun _ _ _ h => h) (Or.inl ⟨by rfl, ?ym101_rm101_8_1⟩) RA_m101_8.out ?rm101_rm101_8_1
        case ym101_rm101_8_1 =>
          rintro w' hSw
          go_simp
          try with_reducible rfl
        try simp only [Act.put, List.setIfInBounds_toArray, List.set_cons_zero, List.set_cons_succ]
        refine wpAnyH_take (i := 1) (oi := ⟨some 16, _, _, _, _, _⟩) (v := ?vm101_rm101_8_2) rfl (by kernel_rfl) (by kernel_rfl) (by kernel_rfl) (fun _ _ _ h => h) (Or.inl ⟨by rfl, ?ym101_rm101_8_2⟩) RA_m101_8.out ?rm101_rm101_8_2
        case ym101_rm101_8_2 =>
          rintro w' hSw
          have k0 := (show Row w' _ _ _ from hSw).cell 0
          have k1 := (show Row w' _ _ _ from hSw).cell 1
          have k2 := (show Row w' _ _ _ from hSw).cell 2
          have k3 := (show Row w' _ _ _ from hSw).cell 3
          simp only [List.getElem?_cons_zero, List.getElem?_cons_succ] at k0 k1 k2 k3
          go_simp
          try with_reducible rfl
        try simp only [Act.put, List.setIfInBounds_toArray, List.set_cons_zero, List.set_cons_succ]
        refine wpAnyH_take (i := 2) (oi := ⟨some 17, _, _, _, _, _⟩) (v := ?vm101_rm101_8_3) rfl (by kernel_rfl) (by kernel_rfl) (by kernel_rfl) (fun _ _ _ h => h) (Or.inl ⟨by rfl, ?ym101_rm101_8_3⟩) RA_m101_8.out ?rm101_rm101_8_3
        case ym101_rm101_8_3 =>
          rintro w' hSw
          go_simp
          try with_reducible rfl
        try simp only [Act.put, List.setIfInBounds_toArray, List.set_cons_zero, List.set_cons_succ]
        refine wpAnyH_take (i := 3) (oi := ⟨some 18, _, _, _, _, _⟩) (v := ?vm101_rm101_8_4) rfl (by kernel_rfl) (by kernel_rfl) (by kernel_rfl) (fun _ _ _ h => h) (Or.inl ⟨by rfl, ?ym101_rm101_8_4⟩) RA_m101_8.out ?rm101_rm101_8_4
        case ym101_rm101_8_4 =>
          rintro w' hSw
          have k0 := (show Row w' _ _ _ from hSw).cell 0
          have k1 := (show Row w' _ _ _ from hSw).cell 1
          have k2 := (show Row w' _ _ _ from hSw).cell 2
          have k3 := (show Row w' _ _ _ from hSw).cell 3
          simp only [List.getElem?_cons_zero, List.getElem?_cons_succ] at k0 k1 k2 k3
          go_simp
          try with_reducible rfl
        try simp only [Act.put, List.setIfInBounds_toArray, List.set_cons_zero, List.set_cons_succ]
        refine wpAnyH_take (i := 4) (oi := ⟨some 5, _, _, _, _, _⟩) (v := ?vm101_rm101_8_5) rfl (by kernel_rfl) (by kernel_rfl) (by kernel_rfl) (fun _ _ _ h => h) (Or.inl ⟨by rfl, ?ym101_rm101_8_5⟩) RA_m101_8.out ?rm101_rm101_8_5
        case ym101_rm101_8_5 =>
          rintro w' hSw
          go_simp
          try with_reducible rfl
        try simp only [Act.put, List.setIfInBounds_toArray, List.set_cons_zero, List.set_cons_succ]
        refine wpAnyH_take (i := 5) (oi := ⟨some 6, _, _, _, _, _⟩) (v := ?vm101_rm101_8_6) rfl (by kernel_rfl) (by kernel_rfl) (by kernel_rfl) (fun _ _ _ h => h) (Or.inl ⟨by rfl, ?ym101_rm101_8_6⟩) RA_m101_8.out ?rm101_rm101_8_6
        case ym101_rm101_8_6 =>
          rintro w' hSw
          go_simp
          try with_reducible rfl
        try simp only [Act.put, List.setIfInBounds_toArray, List.set_cons_zero, List.set_cons_succ]
        refine wpAnyH_done (by kernel_rfl) ?_ _
        have cm101_10_0 := RA_m101_8.out.cell 0
        have cm101_10_1 := RA_m101_8.out.cell 1
        have cm101_10_2 := RA_m101_8.out.cell 2
        have cm101_10_3 := RA_m101_8.out.cell 3
        simp only [List.getElem?_cons_zero, List.getElem?_cons_succ] at cm101_10_0 cm101_10_1 cm101_10_2 cm101_10_3
        have cm101_11_0 := RB_m101_8.out.cell 0
        have cm101_11_1 := RB_m101_8.out.cell 1
        have cm101_11_2 := RB_m101_8.out.cell 2
        have cm101_11_3 := RB_m101_8.out.cell 3
        simp only [List.getElem?_cons_zero, List.getElem?_cons_succ] at cm101_11_0 cm101_11_1 cm101_11_2 cm101_11_3
        go_wp2_with fail
        refine (HI1.out _).mono ?_
        rintro e Wm101_9 ⟨rfl, hb⟩
        clear cm101_10_0 cm101_10_1 cm101_10_2 cm101_10_3 cm101_11_0 cm101_11_1 cm101_11_2 cm101_11_3
        have RA_m101_12 := Lib.hid (RA_m101_8.out.below hb RA_m101_8.out.lt)
        have RB_m101_12 := Lib.hid (RB_m101_8.out.below hb RB_m101_8.out.lt)
        have B_m101_12 := Lib.hid (B_m101_8.out.trans (hb.mono B_m101_8.out.size))
        clear hb RA_m101_8 RB_m101_8 B_m101_8
        have cm101_14_0 := RA_m101_12.out.cell 0
        have cm101_14_1 := RA_m101_12.out.cell 1
        have cm101_14_2 := RA_m101_12.out.cell 2
        have cm101_14_3 := RA_m101_12.out.cell 3
        simp only [List.getElem?_cons_zero, List.getElem?_cons_succ] at cm101_14_0 cm101_14_1 cm101_14_2 cm101_14_3
        have cm101_15_0 := RB_m101_12.out.cell 0
        have cm101_15_1 := RB_m101_12.out.cell 1
        have cm101_15_2 := RB_m101_12.out.cell 2
        have cm101_15_3 := RB_m101_12.out.cell 3
        simp only [List.getElem?_cons_zero, List.getElem?_cons_succ] at cm101_15_0 cm101_15_1 cm101_15_2 cm101_15_3
        go_wp2_with fail
        refine (HI2.out _).mono ?_
        rintro e Wm101_13 ⟨rfl, hb⟩
        clear cm101_14_0 cm101_14_1 cm101_14_2 cm101_14_3 cm101_15_0 cm101_15_1 cm101_15_2 cm101_15_3
        have RA_m101_16 := Lib.hid (RA_m101_12.out.below hb RA_m101_12.out.lt)
        have RB_m101_16 := Lib.hid (RB_m101_12.out.below hb RB_m101_12.out.lt)
        have B_m101_16 := Lib.hid (B_m101_12.out.trans (hb.mono B_m101_12.out.size))
        clear hb RA_m101_12 RB_m101_12 B_m101_12
        go_wp2
        go_ret
        exact ⟨rfl, B_m101_16.out⟩
      rw [h1] at HI2
      cases h2 : insideB y0 y1 y0
      · rw [show meetB x0 x1 y0 y1 u0 u1 v0 v1 = false from Bool.eq_false_iff.2 (fun hm => by have hm := (meet_iff _ _ _ _ _ _ _ _).1 hm; have hb0 := box_t g0; have hb1 := box_t g1; have k0 := ins_t h0; have k1 := ins_t h1; have k2 := ins_f h2; omega)]
        rw [h2] at HI3
        clear g0 g1 hx h0 h1 h2
        go_enter Try.func12, Try.ntmps12
        go_upto_region 1 with fail
        have RA_m102_1 := Lib.hid ((row_last w (w.heap.size) 23 [.int .i64 x0, .int .i64 x1, .int .i64 y0, .int .i64 y1] (by simp)).alloc (.cells #[.int .i64 u0, .int .i64 u1, .int .i64 v0, .int .i64 v1] 23))
        have RB_m102_1 := Lib.hid (row_last (w.alloc (.cells #[.int .i64 x0, .int .i64 x1, .int .i64 y0, .int .i64 y1] 23)) (w.heap.size + 1) 23 [.int .i64 u0, .int .i64 u1, .int .i64 v0, .int .i64 v1] (by simp))
        have B_m102_1 := Lib.hid (((Below.refl w.heap.size w).alloc (Nat.le_refl _) (.cells #[.int .i64 x0, .int .i64 x1, .int .i64 y0, .int .i64 y1] 23)).alloc (by have := Nat.le_refl w.heap.size; simp <;> omega) (.cells #[.int .i64 u0, .int .i64 u1, .int .i64 v0, .int .i64 v1] 23))
        generalize ((w.alloc (.cells #[.int .i64 x0, .int .i64 x1, .int .i64 y0, .int .i64 y1] 23)).alloc (.cells #[.int .i64 u0, .int .i64 u1, .int .i64 v0, .int .i64 v1] 23)) = Vm102_1 at RA_m102_1 RB_m102_1 B_m102_1 ⊢
        have cm102_3_0 := RA_m102_1.out.cell 0
        have cm102_3_1 := RA_m102_1.out.cell 1
        have cm102_3_2 := RA_m102_1.out.cell 2
        have cm102_3_3 := RA_m102_1.out.cell 3
        simp only [List.getElem?_cons_zero, List.getElem?_cons_succ] at cm102_3_0 cm102_3_1 cm102_3_2 cm102_3_3
        go_wp2_with fail
        refine (HA.out _).mono ?_
        rintro e Wm102_2 ⟨rfl, hb⟩
        clear cm102_3_0 cm102_3_1 cm102_3_2 cm102_3_3
        have RA_m102_4 := Lib.hid (RA_m102_1.out.below hb RA_m102_1.out.lt)
        have RB_m102_4 := Lib.hid (RB_m102_1.out.below hb RB_m102_1.out.lt)
        have B_m102_4 := Lib.hid (B_m102_1.out.trans (hb.mono B_m102_1.out.size))
        clear hb RA_m102_1 RB_m102_1 B_m102_1
        have cm102_6_0 := RB_m102_4.out.cell 0
        have cm102_6_1 := RB_m102_4.out.cell 1
        have cm102_6_2 := RB_m102_4.out.cell 2
        have cm102_6_3 := RB_m102_4.out.cell 3
        simp only [List.getElem?_cons_zero, List.getElem?_cons_succ] at cm102_6_0 cm102_6_1 cm102_6_2 cm102_6_3
        go_wp2_with fail
        refine (HB.out _).mono ?_
        rintro e Wm102_5 ⟨rfl, hb⟩
        clear cm102_6_0 cm102_6_1 cm102_6_2 cm102_6_3
        have RA_m102_7 := Lib.hid (RA_m102_4.out.below hb RA_m102_4.out.lt)
        have RB_m102_7 := Lib.hid (RB_m102_4.out.below hb RB_m102_4.out.lt)
        have B_m102_7 := Lib.hid (B_m102_4.out.trans (hb.mono B_m102_4.out.size))
        clear hb RA_m102_4 RB_m102_4 B_m102_4
        go_wp2_with fail
        refine wp_region_held_drew (S := fun w' => Row w' (w.heap.size) 23 [.int .i64 x0, .int .i64 x1, .int .i64 y0, .int .i64 y1]) (by kernel_rfl) RA_m102_7.out.drew (fun hHeld => ?_)
        clear hHeld
        have RA_m102_8 := Lib.hid RA_m102_7.out.drew
        have RB_m102_8 := Lib.hid RB_m102_7.out.drew
        have B_m102_8 := Lib.hid B_m102_7.out.drew
        clear RA_m102_7 RB_m102_7 B_m102_7
        generalize Wm102_5.drew = Dm102_8 at RA_m102_8 RB_m102_8 B_m102_8 ⊢
        refine wpAnyH_take (i := 0) (oi := ⟨some 15, _, _, _, _, _⟩) (v := ?vm102_rm102_8_1) rfl (by kernel_rfl) (by kernel_rfl) (by kernel_rfl) (fun _ _ _ h => h) (Or.inl ⟨by rfl, ?ym102_rm102_8_1⟩) RA_m102_8.out ?rm102_rm102_8_1
        case ym102_rm102_8_1 =>
          rintro w' hSw
          go_simp
          try with_reducible rfl
        try simp only [Act.put, List.setIfInBounds_toArray, List.set_cons_zero, List.set_cons_succ]
        refine wpAnyH_take (i := 1) (oi := ⟨some 16, _, _, _, _, _⟩) (v := ?vm102_rm102_8_2) rfl (by kernel_rfl) (by kernel_rfl) (by kernel_rfl) (fun _ _ _ h => h) (Or.inl ⟨by rfl, ?ym102_rm102_8_2⟩) RA_m102_8.out ?rm102_rm102_8_2
        case ym102_rm102_8_2 =>
          rintro w' hSw
          have k0 := (show Row w' _ _ _ from hSw).cell 0
          have k1 := (show Row w' _ _ _ from hSw).cell 1
          have k2 := (show Row w' _ _ _ from hSw).cell 2
          have k3 := (show Row w' _ _ _ from hSw).cell 3
          simp only [List.getElem?_cons_zero, List.getElem?_cons_succ] at k0 k1 k2 k3
          go_simp
          try with_reducible rfl
        try simp only [Act.put, List.setIfInBounds_toArray, List.set_cons_zero, List.set_cons_succ]
        refine wpAnyH_take (i := 2) (oi := ⟨some 17, _, _, _, _, _⟩) (v := ?vm102_rm102_8_3) rfl (by kernel_rfl) (by kernel_rfl) (by kernel_rfl) (fun _ _ _ h => h) (Or.inl ⟨by rfl, ?ym102_rm102_8_3⟩) RA_m102_8.out ?rm102_rm102_8_3
        case ym102_rm102_8_3 =>
          rintro w' hSw
          go_simp
          try with_reducible rfl
        try simp only [Act.put, List.setIfInBounds_toArray, List.set_cons_zero, List.set_cons_succ]
        refine wpAnyH_take (i := 3) (oi := ⟨some 18, _, _, _, _, _⟩) (v := ?vm102_rm102_8_4) rfl (by kernel_rfl) (by kernel_rfl) (by kernel_rfl) (fun _ _ _ h => h) (Or.inl ⟨by rfl, ?ym102_rm102_8_4⟩) RA_m102_8.out ?rm102_rm102_8_4
        case ym102_rm102_8_4 =>
          rintro w' hSw
          have k0 := (show Row w' _ _ _ from hSw).cell 0
          have k1 := (show Row w' _ _ _ from hSw).cell 1
          have k2 := (show Row w' _ _ _ from hSw).cell 2
          have k3 := (show Row w' _ _ _ from hSw).cell 3
          simp only [List.getElem?_cons_zero, List.getElem?_cons_succ] at k0 k1 k2 k3
          go_simp
          try with_reducible rfl
        try simp only [Act.put, List.setIfInBounds_toArray, List.set_cons_zero, List.set_cons_succ]
        refine wpAnyH_take (i := 4) (oi := ⟨some 5, _, _, _, _, _⟩) (v := ?vm102_rm102_8_5) rfl (by kernel_rfl) (by kernel_rfl) (by kernel_rfl) (fun _ _ _ h => h) (Or.inl ⟨by rfl, ?ym102_rm102_8_5⟩) RA_m102_8.out ?rm102_rm102_8_5
        case ym102_rm102_8_5 =>
          rintro w' hSw
          go_simp
          try with_reducible rfl
        try simp only [Act.put, List.setIfInBounds_toArray, List.set_cons_zero, List.set_cons_succ]
        refine wpAnyH_take (i := 5) (oi := ⟨some 6, _, _, _, _, _⟩) (v := ?vm102_rm102_8_6) rfl (by kernel_rfl) (by kernel_rfl) (by kernel_rfl) (fun _ _ _ h => h) (Or.inl ⟨by rfl, ?ym102_rm102_8_6⟩) RA_m102_8.out ?rm102_rm102_8_6
        case ym102_rm102_8_6 =>
          rintro w' hSw
          go_simp
          try with_reducible rfl
        try simp only [Act.put, List.setIfInBounds_toArray, List.set_cons_zero, List.set_cons_succ]
        refine wpAnyH_done (by kernel_rfl) ?_ _
        have cm102_10_0 := RA_m102_8.out.cell 0
        have cm102_10_1 := RA_m102_8.out.cell 1
        have cm102_10_2 := RA_m102_8.out.cell 2
        have cm102_10_3 := RA_m102_8.out.cell 3
        simp only [List.getElem?_cons_zero, List.getElem?_cons_succ] at cm102_10_0 cm102_10_1 cm102_10_2 cm102_10_3
        have cm102_11_0 := RB_m102_8.out.cell 0
        have cm102_11_1 := RB_m102_8.out.cell 1
        have cm102_11_2 := RB_m102_8.out.cell 2
        have cm102_11_3 := RB_m102_8.out.cell 3
        simp only [List.getElem?_cons_zero, List.getElem?_cons_succ] at cm102_11_0 cm102_11_1 cm102_11_2 cm102_11_3
        go_wp2_with fail
        refine (HI1.out _).mono ?_
        rintro e Wm102_9 ⟨rfl, hb⟩
        clear cm102_10_0 cm102_10_1 cm102_10_2 cm102_10_3 cm102_11_0 cm102_11_1 cm102_11_2 cm102_11_3
        have RA_m102_12 := Lib.hid (RA_m102_8.out.below hb RA_m102_8.out.lt)
        have RB_m102_12 := Lib.hid (RB_m102_8.out.below hb RB_m102_8.out.lt)
        have B_m102_12 := Lib.hid (B_m102_8.out.trans (hb.mono B_m102_8.out.size))
        clear hb RA_m102_8 RB_m102_8 B_m102_8
        have cm102_14_0 := RA_m102_12.out.cell 0
        have cm102_14_1 := RA_m102_12.out.cell 1
        have cm102_14_2 := RA_m102_12.out.cell 2
        have cm102_14_3 := RA_m102_12.out.cell 3
        simp only [List.getElem?_cons_zero, List.getElem?_cons_succ] at cm102_14_0 cm102_14_1 cm102_14_2 cm102_14_3
        have cm102_15_0 := RB_m102_12.out.cell 0
        have cm102_15_1 := RB_m102_12.out.cell 1
        have cm102_15_2 := RB_m102_12.out.cell 2
        have cm102_15_3 := RB_m102_12.out.cell 3
        simp only [List.getElem?_cons_zero, List.getElem?_cons_succ] at cm102_15_0 cm102_15_1 cm102_15_2 cm102_15_3
        go_wp2_with fail
        refine (HI2.out _).mono ?_
        rintro e Wm102_13 ⟨rfl, hb⟩
        clear cm102_14_0 cm102_14_1 cm102_14_2 cm102_14_3 cm102_15_0 cm102_15_1 cm102_15_2 cm102_15_3
        have RA_m102_16 := Lib.hid (RA_m102_12.out.below hb RA_m102_12.out.lt)
        have RB_m102_16 := Lib.hid (RB_m102_12.out.below hb RB_m102_12.out.lt)
        have B_m102_16 := Lib.hid (B_m102_12.out.trans (hb.mono B_m102_12.out.size))
        clear hb RA_m102_12 RB_m102_12 B_m102_12
        have cm102_18_0 := RA_m102_16.out.cell 0
        have cm102_18_1 := RA_m102_16.out.cell 1
        have cm102_18_2 := RA_m102_16.out.cell 2
        have cm102_18_3 := RA_m102_16.out.cell 3
        simp only [List.getElem?_cons_zero, List.getElem?_cons_succ] at cm102_18_0 cm102_18_1 cm102_18_2 cm102_18_3
        have cm102_19_0 := RB_m102_16.out.cell 0
        have cm102_19_1 := RB_m102_16.out.cell 1
        have cm102_19_2 := RB_m102_16.out.cell 2
        have cm102_19_3 := RB_m102_16.out.cell 3
        simp only [List.getElem?_cons_zero, List.getElem?_cons_succ] at cm102_19_0 cm102_19_1 cm102_19_2 cm102_19_3
        go_wp2_with fail
        refine (HI3.out _).mono ?_
        rintro e Wm102_17 ⟨rfl, hb⟩
        clear cm102_18_0 cm102_18_1 cm102_18_2 cm102_18_3 cm102_19_0 cm102_19_1 cm102_19_2 cm102_19_3
        have RA_m102_20 := Lib.hid (RA_m102_16.out.below hb RA_m102_16.out.lt)
        have RB_m102_20 := Lib.hid (RB_m102_16.out.below hb RB_m102_16.out.lt)
        have B_m102_20 := Lib.hid (B_m102_16.out.trans (hb.mono B_m102_16.out.size))
        clear hb RA_m102_16 RB_m102_16 B_m102_16
        go_wp2
        go_ret
        exact ⟨rfl, B_m102_20.out⟩
      rw [h2] at HI3
      cases h3 : insideB v0 v1 y0
      · rw [show meetB x0 x1 y0 y1 u0 u1 v0 v1 = false from Bool.eq_false_iff.2 (fun hm => by have hm := (meet_iff _ _ _ _ _ _ _ _).1 hm; have hb0 := box_t g0; have hb1 := box_t g1; have k0 := ins_t h0; have k1 := ins_t h1; have k2 := ins_t h2; have k3 := ins_f h3; omega)]
        rw [h3] at HI4
        clear g0 g1 hx h0 h1 h2 h3
        go_enter Try.func12, Try.ntmps12
        go_upto_region 1 with fail
        have RA_m103_1 := Lib.hid ((row_last w (w.heap.size) 23 [.int .i64 x0, .int .i64 x1, .int .i64 y0, .int .i64 y1] (by simp)).alloc (.cells #[.int .i64 u0, .int .i64 u1, .int .i64 v0, .int .i64 v1] 23))
        have RB_m103_1 := Lib.hid (row_last (w.alloc (.cells #[.int .i64 x0, .int .i64 x1, .int .i64 y0, .int .i64 y1] 23)) (w.heap.size + 1) 23 [.int .i64 u0, .int .i64 u1, .int .i64 v0, .int .i64 v1] (by simp))
        have B_m103_1 := Lib.hid (((Below.refl w.heap.size w).alloc (Nat.le_refl _) (.cells #[.int .i64 x0, .int .i64 x1, .int .i64 y0, .int .i64 y1] 23)).alloc (by have := Nat.le_refl w.heap.size; simp <;> omega) (.cells #[.int .i64 u0, .int .i64 u1, .int .i64 v0, .int .i64 v1] 23))
        generalize ((w.alloc (.cells #[.int .i64 x0, .int .i64 x1, .int .i64 y0, .int .i64 y1] 23)).alloc (.cells #[.int .i64 u0, .int .i64 u1, .int .i64 v0, .int .i64 v1] 23)) = Vm103_1 at RA_m103_1 RB_m103_1 B_m103_1 ⊢
        have cm103_3_0 := RA_m103_1.out.cell 0
        have cm103_3_1 := RA_m103_1.out.cell 1
        have cm103_3_2 := RA_m103_1.out.cell 2
        have cm103_3_3 := RA_m103_1.out.cell 3
        simp only [List.getElem?_cons_zero, List.getElem?_cons_succ] at cm103_3_0 cm103_3_1 cm103_3_2 cm103_3_3
        go_wp2_with fail
        refine (HA.out _).mono ?_
        rintro e Wm103_2 ⟨rfl, hb⟩
        clear cm103_3_0 cm103_3_1 cm103_3_2 cm103_3_3
        have RA_m103_4 := Lib.hid (RA_m103_1.out.below hb RA_m103_1.out.lt)
        have RB_m103_4 := Lib.hid (RB_m103_1.out.below hb RB_m103_1.out.lt)
        have B_m103_4 := Lib.hid (B_m103_1.out.trans (hb.mono B_m103_1.out.size))
        clear hb RA_m103_1 RB_m103_1 B_m103_1
        have cm103_6_0 := RB_m103_4.out.cell 0
        have cm103_6_1 := RB_m103_4.out.cell 1
        have cm103_6_2 := RB_m103_4.out.cell 2
        have cm103_6_3 := RB_m103_4.out.cell 3
        simp only [List.getElem?_cons_zero, List.getElem?_cons_succ] at cm103_6_0 cm103_6_1 cm103_6_2 cm103_6_3
        go_wp2_with fail
        refine (HB.out _).mono ?_
        rintro e Wm103_5 ⟨rfl, hb⟩
        clear cm103_6_0 cm103_6_1 cm103_6_2 cm103_6_3
        have RA_m103_7 := Lib.hid (RA_m103_4.out.below hb RA_m103_4.out.lt)
        have RB_m103_7 := Lib.hid (RB_m103_4.out.below hb RB_m103_4.out.lt)
        have B_m103_7 := Lib.hid (B_m103_4.out.trans (hb.mono B_m103_4.out.size))
        clear hb RA_m103_4 RB_m103_4 B_m103_4
        go_wp2_with fail
        refine wp_region_held_drew (S := fun w' => Row w' (w.heap.size) 23 [.int .i64 x0, .int .i64 x1, .int .i64 y0, .int .i64 y1]) (by kernel_rfl) RA_m103_7.out.drew (fun hHeld => ?_)
        clear hHeld
        have RA_m103_8 := Lib.hid RA_m103_7.out.drew
        have RB_m103_8 := Lib.hid RB_m103_7.out.drew
        have B_m103_8 := Lib.hid B_m103_7.out.drew
        clear RA_m103_7 RB_m103_7 B_m103_7
        generalize Wm103_5.drew = Dm103_8 at RA_m103_8 RB_m103_8 B_m103_8 ⊢
        refine wpAnyH_take (i := 0) (oi := ⟨some 15, _, _, _, _, _⟩) (v := ?vm103_rm103_8_1) rfl (by kernel_rfl) (by kernel_rfl) (by kernel_rfl) (fun _ _ _ h => h) (Or.inl ⟨by rfl, ?ym103_rm103_8_1⟩) RA_m103_8.out ?rm103_rm103_8_1
        case ym103_rm103_8_1 =>
          rintro w' hSw
          go_simp
          try with_reducible rfl
        try simp only [Act.put, List.setIfInBounds_toArray, List.set_cons_zero, List.set_cons_succ]
        refine wpAnyH_take (i := 1) (oi := ⟨some 16, _, _, _, _, _⟩) (v := ?vm103_rm103_8_2) rfl (by kernel_rfl) (by kernel_rfl) (by kernel_rfl) (fun _ _ _ h => h) (Or.inl ⟨by rfl, ?ym103_rm103_8_2⟩) RA_m103_8.out ?rm103_rm103_8_2
        case ym103_rm103_8_2 =>
          rintro w' hSw
          have k0 := (show Row w' _ _ _ from hSw).cell 0
          have k1 := (show Row w' _ _ _ from hSw).cell 1
          have k2 := (show Row w' _ _ _ from hSw).cell 2
          have k3 := (show Row w' _ _ _ from hSw).cell 3
          simp only [List.getElem?_cons_zero, List.getElem?_cons_succ] at k0 k1 k2 k3
          go_simp
          try with_reducible rfl
        try simp only [Act.put, List.setIfInBounds_toArray, List.set_cons_zero, List.set_cons_succ]
        refine wpAnyH_take (i := 2) (oi := ⟨some 17, _, _, _, _, _⟩) (v := ?vm103_rm103_8_3) rfl (by kernel_rfl) (by kernel_rfl) (by kernel_rfl) (fun _ _ _ h => h) (Or.inl ⟨by rfl, ?ym103_rm103_8_3⟩) RA_m103_8.out ?rm103_rm103_8_3
        case ym103_rm103_8_3 =>
          rintro w' hSw
          go_simp
          try with_reducible rfl
        try simp only [Act.put, List.setIfInBounds_toArray, List.set_cons_zero, List.set_cons_succ]
        refine wpAnyH_take (i := 3) (oi := ⟨some 18, _, _, _, _, _⟩) (v := ?vm103_rm103_8_4) rfl (by kernel_rfl) (by kernel_rfl) (by kernel_rfl) (fun _ _ _ h => h) (Or.inl ⟨by rfl, ?ym103_rm103_8_4⟩) RA_m103_8.out ?rm103_rm103_8_4
        case ym103_rm103_8_4 =>
          rintro w' hSw
          have k0 := (show Row w' _ _ _ from hSw).cell 0
          have k1 := (show Row w' _ _ _ from hSw).cell 1
          have k2 := (show Row w' _ _ _ from hSw).cell 2
          have k3 := (show Row w' _ _ _ from hSw).cell 3
          simp only [List.getElem?_cons_zero, List.getElem?_cons_succ] at k0 k1 k2 k3
          go_simp
          try with_reducible rfl
        try simp only [Act.put, List.setIfInBounds_toArray, List.set_cons_zero, List.set_cons_succ]
        refine wpAnyH_take (i := 4) (oi := ⟨some 5, _, _, _, _, _⟩) (v := ?vm103_rm103_8_5) rfl (by kernel_rfl) (by kernel_rfl) (by kernel_rfl) (fun _ _ _ h => h) (Or.inl ⟨by rfl, ?ym103_rm103_8_5⟩) RA_m103_8.out ?rm103_rm103_8_5
        case ym103_rm103_8_5 =>
          rintro w' hSw
          go_simp
          try with_reducible rfl
        try simp only [Act.put, List.setIfInBounds_toArray, List.set_cons_zero, List.set_cons_succ]
        refine wpAnyH_take (i := 5) (oi := ⟨some 6, _, _, _, _, _⟩) (v := ?vm103_rm103_8_6) rfl (by kernel_rfl) (by kernel_rfl) (by kernel_rfl) (fun _ _ _ h => h) (Or.inl ⟨by rfl, ?ym103_rm103_8_6⟩) RA_m103_8.out ?rm103_rm103_8_6
        case ym103_rm103_8_6 =>
          rintro w' hSw
          go_simp
          try with_reducible rfl
        try simp only [Act.put, List.setIfInBounds_toArray, List.set_cons_zero, List.set_cons_succ]
        refine wpAnyH_done (by kernel_rfl) ?_ _
        have cm103_10_0 := RA_m103_8.out.cell 0
        have cm103_10_1 := RA_m103_8.out.cell 1
        have cm103_10_2 := RA_m103_8.out.cell 2
        have cm103_10_3 := RA_m103_8.out.cell 3
        simp only [List.getElem?_cons_zero, List.getElem?_cons_succ] at cm103_10_0 cm103_10_1 cm103_10_2 cm103_10_3
        have cm103_11_0 := RB_m103_8.out.cell 0
        have cm103_11_1 := RB_m103_8.out.cell 1
        have cm103_11_2 := RB_m103_8.out.cell 2
        have cm103_11_3 := RB_m103_8.out.cell 3
        simp only [List.getElem?_cons_zero, List.getElem?_cons_succ] at cm103_11_0 cm103_11_1 cm103_11_2 cm103_11_3
        go_wp2_with fail
        refine (HI1.out _).mono ?_
        rintro e Wm103_9 ⟨rfl, hb⟩
        clear cm103_10_0 cm103_10_1 cm103_10_2 cm103_10_3 cm103_11_0 cm103_11_1 cm103_11_2 cm103_11_3
        have RA_m103_12 := Lib.hid (RA_m103_8.out.below hb RA_m103_8.out.lt)
        have RB_m103_12 := Lib.hid (RB_m103_8.out.below hb RB_m103_8.out.lt)
        have B_m103_12 := Lib.hid (B_m103_8.out.trans (hb.mono B_m103_8.out.size))
        clear hb RA_m103_8 RB_m103_8 B_m103_8
        have cm103_14_0 := RA_m103_12.out.cell 0
        have cm103_14_1 := RA_m103_12.out.cell 1
        have cm103_14_2 := RA_m103_12.out.cell 2
        have cm103_14_3 := RA_m103_12.out.cell 3
        simp only [List.getElem?_cons_zero, List.getElem?_cons_succ] at cm103_14_0 cm103_14_1 cm103_14_2 cm103_14_3
        have cm103_15_0 := RB_m103_12.out.cell 0
        have cm103_15_1 := RB_m103_12.out.cell 1
        have cm103_15_2 := RB_m103_12.out.cell 2
        have cm103_15_3 := RB_m103_12.out.cell 3
        simp only [List.getElem?_cons_zero, List.getElem?_cons_succ] at cm103_15_0 cm103_15_1 cm103_15_2 cm103_15_3
        go_wp2_with fail
        refine (HI2.out _).mono ?_
        rintro e Wm103_13 ⟨rfl, hb⟩
        clear cm103_14_0 cm103_14_1 cm103_14_2 cm103_14_3 cm103_15_0 cm103_15_1 cm103_15_2 cm103_15_3
        have RA_m103_16 := Lib.hid (RA_m103_12.out.below hb RA_m103_12.out.lt)
        have RB_m103_16 := Lib.hid (RB_m103_12.out.below hb RB_m103_12.out.lt)
        have B_m103_16 := Lib.hid (B_m103_12.out.trans (hb.mono B_m103_12.out.size))
        clear hb RA_m103_12 RB_m103_12 B_m103_12
        have cm103_18_0 := RA_m103_16.out.cell 0
        have cm103_18_1 := RA_m103_16.out.cell 1
        have cm103_18_2 := RA_m103_16.out.cell 2
        have cm103_18_3 := RA_m103_16.out.cell 3
        simp only [List.getElem?_cons_zero, List.getElem?_cons_succ] at cm103_18_0 cm103_18_1 cm103_18_2 cm103_18_3
        have cm103_19_0 := RB_m103_16.out.cell 0
        have cm103_19_1 := RB_m103_16.out.cell 1
        have cm103_19_2 := RB_m103_16.out.cell 2
        have cm103_19_3 := RB_m103_16.out.cell 3
        simp only [List.getElem?_cons_zero, List.getElem?_cons_succ] at cm103_19_0 cm103_19_1 cm103_19_2 cm103_19_3
        go_wp2_with fail
        refine (HI3.out _).mono ?_
        rintro e Wm103_17 ⟨rfl, hb⟩
        clear cm103_18_0 cm103_18_1 cm103_18_2 cm103_18_3 cm103_19_0 cm103_19_1 cm103_19_2 cm103_19_3
        have RA_m103_20 := Lib.hid (RA_m103_16.out.below hb RA_m103_16.out.lt)
        have RB_m103_20 := Lib.hid (RB_m103_16.out.below hb RB_m103_16.out.lt)
        have B_m103_20 := Lib.hid (B_m103_16.out.trans (hb.mono B_m103_16.out.size))
        clear hb RA_m103_16 RB_m103_16 B_m103_16
        have cm103_22_0 := RA_m103_20.out.cell 0
        have cm103_22_1 := RA_m103_20.out.cell 1
        have cm103_22_2 := RA_m103_20.out.cell 2
        have cm103_22_3 := RA_m103_20.out.cell 3
        simp only [List.getElem?_cons_zero, List.getElem?_cons_succ] at cm103_22_0 cm103_22_1 cm103_22_2 cm103_22_3
        have cm103_23_0 := RB_m103_20.out.cell 0
        have cm103_23_1 := RB_m103_20.out.cell 1
        have cm103_23_2 := RB_m103_20.out.cell 2
        have cm103_23_3 := RB_m103_20.out.cell 3
        simp only [List.getElem?_cons_zero, List.getElem?_cons_succ] at cm103_23_0 cm103_23_1 cm103_23_2 cm103_23_3
        go_wp2_with fail
        refine (HI4.out _).mono ?_
        rintro e Wm103_21 ⟨rfl, hb⟩
        clear cm103_22_0 cm103_22_1 cm103_22_2 cm103_22_3 cm103_23_0 cm103_23_1 cm103_23_2 cm103_23_3
        have RA_m103_24 := Lib.hid (RA_m103_20.out.below hb RA_m103_20.out.lt)
        have RB_m103_24 := Lib.hid (RB_m103_20.out.below hb RB_m103_20.out.lt)
        have B_m103_24 := Lib.hid (B_m103_20.out.trans (hb.mono B_m103_20.out.size))
        clear hb RA_m103_20 RB_m103_20 B_m103_20
        go_wp2
        go_ret
        exact ⟨rfl, B_m103_24.out⟩
      rw [h3] at HI4
      rw [show meetB x0 x1 y0 y1 u0 u1 v0 v1 = true from (meet_iff _ _ _ _ _ _ _ _).2 (by have hb0 := box_t g0; have hb1 := box_t g1; have k0 := ins_t h0; have k1 := ins_t h1; have k2 := ins_t h2; have k3 := ins_t h3; omega)]
      clear h0 h1 h2 h3 g0 g1 hx
      go_enter Try.func12, Try.ntmps12
      go_upto_region 1 with fail
      have RA_m104_1 := Lib.hid ((row_last w (w.heap.size) 23 [.int .i64 x0, .int .i64 x1, .int .i64 y0, .int .i64 y1] (by simp)).alloc (.cells #[.int .i64 u0, .int .i64 u1, .int .i64 v0, .int .i64 v1] 23))
      have RB_m104_1 := Lib.hid (row_last (w.alloc (.cells #[.int .i64 x0, .int .i64 x1, .int .i64 y0, .int .i64 y1] 23)) (w.heap.size + 1) 23 [.int .i64 u0, .int .i64 u1, .int .i64 v0, .int .i64 v1] (by simp))
      have B_m104_1 := Lib.hid (((Below.refl w.heap.size w).alloc (Nat.le_refl _) (.cells #[.int .i64 x0, .int .i64 x1, .int .i64 y0, .int .i64 y1] 23)).alloc (by have := Nat.le_refl w.heap.size; simp <;> omega) (.cells #[.int .i64 u0, .int .i64 u1, .int .i64 v0, .int .i64 v1] 23))
      generalize ((w.alloc (.cells #[.int .i64 x0, .int .i64 x1, .int .i64 y0, .int .i64 y1] 23)).alloc (.cells #[.int .i64 u0, .int .i64 u1, .int .i64 v0, .int .i64 v1] 23)) = Vm104_1 at RA_m104_1 RB_m104_1 B_m104_1 ⊢
      have cm104_3_0 := RA_m104_1.out.cell 0
      have cm104_3_1 := RA_m104_1.out.cell 1
      have cm104_3_2 := RA_m104_1.out.cell 2
      have cm104_3_3 := RA_m104_1.out.cell 3
      simp only [List.getElem?_cons_zero, List.getElem?_cons_succ] at cm104_3_0 cm104_3_1 cm104_3_2 cm104_3_3
      go_wp2_with fail
      refine (HA.out _).mono ?_
      rintro e Wm104_2 ⟨rfl, hb⟩
      clear cm104_3_0 cm104_3_1 cm104_3_2 cm104_3_3
      have RA_m104_4 := Lib.hid (RA_m104_1.out.below hb RA_m104_1.out.lt)
      have RB_m104_4 := Lib.hid (RB_m104_1.out.below hb RB_m104_1.out.lt)
      have B_m104_4 := Lib.hid (B_m104_1.out.trans (hb.mono B_m104_1.out.size))
      clear hb RA_m104_1 RB_m104_1 B_m104_1
      have cm104_6_0 := RB_m104_4.out.cell 0
      have cm104_6_1 := RB_m104_4.out.cell 1
      have cm104_6_2 := RB_m104_4.out.cell 2
      have cm104_6_3 := RB_m104_4.out.cell 3
      simp only [List.getElem?_cons_zero, List.getElem?_cons_succ] at cm104_6_0 cm104_6_1 cm104_6_2 cm104_6_3
      go_wp2_with fail
      refine (HB.out _).mono ?_
      rintro e Wm104_5 ⟨rfl, hb⟩
      clear cm104_6_0 cm104_6_1 cm104_6_2 cm104_6_3
      have RA_m104_7 := Lib.hid (RA_m104_4.out.below hb RA_m104_4.out.lt)
      have RB_m104_7 := Lib.hid (RB_m104_4.out.below hb RB_m104_4.out.lt)
      have B_m104_7 := Lib.hid (B_m104_4.out.trans (hb.mono B_m104_4.out.size))
      clear hb RA_m104_4 RB_m104_4 B_m104_4
      go_wp2_with fail
      refine wp_region_held_drew (S := fun w' => Row w' (w.heap.size) 23 [.int .i64 x0, .int .i64 x1, .int .i64 y0, .int .i64 y1]) (by kernel_rfl) RA_m104_7.out.drew (fun hHeld => ?_)
      clear hHeld
      have RA_m104_8 := Lib.hid RA_m104_7.out.drew
      have RB_m104_8 := Lib.hid RB_m104_7.out.drew
      have B_m104_8 := Lib.hid B_m104_7.out.drew
      clear RA_m104_7 RB_m104_7 B_m104_7
      generalize Wm104_5.drew = Dm104_8 at RA_m104_8 RB_m104_8 B_m104_8 ⊢
      refine wpAnyH_take (i := 0) (oi := ⟨some 15, _, _, _, _, _⟩) (v := ?vm104_rm104_8_1) rfl (by kernel_rfl) (by kernel_rfl) (by kernel_rfl) (fun _ _ _ h => h) (Or.inl ⟨by rfl, ?ym104_rm104_8_1⟩) RA_m104_8.out ?rm104_rm104_8_1
      case ym104_rm104_8_1 =>
        rintro w' hSw
        go_simp
        try with_reducible rfl
      try simp only [Act.put, List.setIfInBounds_toArray, List.set_cons_zero, List.set_cons_succ]
      refine wpAnyH_take (i := 1) (oi := ⟨some 16, _, _, _, _, _⟩) (v := ?vm104_rm104_8_2) rfl (by kernel_rfl) (by kernel_rfl) (by kernel_rfl) (fun _ _ _ h => h) (Or.inl ⟨by rfl, ?ym104_rm104_8_2⟩) RA_m104_8.out ?rm104_rm104_8_2
      case ym104_rm104_8_2 =>
        rintro w' hSw
        have k0 := (show Row w' _ _ _ from hSw).cell 0
        have k1 := (show Row w' _ _ _ from hSw).cell 1
        have k2 := (show Row w' _ _ _ from hSw).cell 2
        have k3 := (show Row w' _ _ _ from hSw).cell 3
        simp only [List.getElem?_cons_zero, List.getElem?_cons_succ] at k0 k1 k2 k3
        go_simp
        try with_reducible rfl
      try simp only [Act.put, List.setIfInBounds_toArray, List.set_cons_zero, List.set_cons_succ]
      refine wpAnyH_take (i := 2) (oi := ⟨some 17, _, _, _, _, _⟩) (v := ?vm104_rm104_8_3) rfl (by kernel_rfl) (by kernel_rfl) (by kernel_rfl) (fun _ _ _ h => h) (Or.inl ⟨by rfl, ?ym104_rm104_8_3⟩) RA_m104_8.out ?rm104_rm104_8_3
      case ym104_rm104_8_3 =>
        rintro w' hSw
        go_simp
        try with_reducible rfl
      try simp only [Act.put, List.setIfInBounds_toArray, List.set_cons_zero, List.set_cons_succ]
      refine wpAnyH_take (i := 3) (oi := ⟨some 18, _, _, _, _, _⟩) (v := ?vm104_rm104_8_4) rfl (by kernel_rfl) (by kernel_rfl) (by kernel_rfl) (fun _ _ _ h => h) (Or.inl ⟨by rfl, ?ym104_rm104_8_4⟩) RA_m104_8.out ?rm104_rm104_8_4
      case ym104_rm104_8_4 =>
        rintro w' hSw
        have k0 := (show Row w' _ _ _ from hSw).cell 0
        have k1 := (show Row w' _ _ _ from hSw).cell 1
        have k2 := (show Row w' _ _ _ from hSw).cell 2
        have k3 := (show Row w' _ _ _ from hSw).cell 3
        simp only [List.getElem?_cons_zero, List.getElem?_cons_succ] at k0 k1 k2 k3
        go_simp
        try with_reducible rfl
      try simp only [Act.put, List.setIfInBounds_toArray, List.set_cons_zero, List.set_cons_succ]
      refine wpAnyH_take (i := 4) (oi := ⟨some 5, _, _, _, _, _⟩) (v := ?vm104_rm104_8_5) rfl (by kernel_rfl) (by kernel_rfl) (by kernel_rfl) (fun _ _ _ h => h) (Or.inl ⟨by rfl, ?ym104_rm104_8_5⟩) RA_m104_8.out ?rm104_rm104_8_5
      case ym104_rm104_8_5 =>
        rintro w' hSw
        go_simp
        try with_reducible rfl
      try simp only [Act.put, List.setIfInBounds_toArray, List.set_cons_zero, List.set_cons_succ]
      refine wpAnyH_take (i := 5) (oi := ⟨some 6, _, _, _, _, _⟩) (v := ?vm104_rm104_8_6) rfl (by kernel_rfl) (by kernel_rfl) (by kernel_rfl) (fun _ _ _ h => h) (Or.inl ⟨by rfl, ?ym104_rm104_8_6⟩) RA_m104_8.out ?rm104_rm104_8_6
      case ym104_rm104_8_6 =>
        rintro w' hSw
        go_simp
        try with_reducible rfl
      try simp only [Act.put, List.setIfInBounds_toArray, List.set_cons_zero, List.set_cons_succ]
      refine wpAnyH_done (by kernel_rfl) ?_ _
      have cm104_10_0 := RA_m104_8.out.cell 0
      have cm104_10_1 := RA_m104_8.out.cell 1
      have cm104_10_2 := RA_m104_8.out.cell 2
      have cm104_10_3 := RA_m104_8.out.cell 3
      simp only [List.getElem?_cons_zero, List.getElem?_cons_succ] at cm104_10_0 cm104_10_1 cm104_10_2 cm104_10_3
      have cm104_11_0 := RB_m104_8.out.cell 0
      have cm104_11_1 := RB_m104_8.out.cell 1
      have cm104_11_2 := RB_m104_8.out.cell 2
      have cm104_11_3 := RB_m104_8.out.cell 3
      simp only [List.getElem?_cons_zero, List.getElem?_cons_succ] at cm104_11_0 cm104_11_1 cm104_11_2 cm104_11_3
      go_wp2_with fail
      refine (HI1.out _).mono ?_
      rintro e Wm104_9 ⟨rfl, hb⟩
      clear cm104_10_0 cm104_10_1 cm104_10_2 cm104_10_3 cm104_11_0 cm104_11_1 cm104_11_2 cm104_11_3
      have RA_m104_12 := Lib.hid (RA_m104_8.out.below hb RA_m104_8.out.lt)
      have RB_m104_12 := Lib.hid (RB_m104_8.out.below hb RB_m104_8.out.lt)
      have B_m104_12 := Lib.hid (B_m104_8.out.trans (hb.mono B_m104_8.out.size))
      clear hb RA_m104_8 RB_m104_8 B_m104_8
      have cm104_14_0 := RA_m104_12.out.cell 0
      have cm104_14_1 := RA_m104_12.out.cell 1
      have cm104_14_2 := RA_m104_12.out.cell 2
      have cm104_14_3 := RA_m104_12.out.cell 3
      simp only [List.getElem?_cons_zero, List.getElem?_cons_succ] at cm104_14_0 cm104_14_1 cm104_14_2 cm104_14_3
      have cm104_15_0 := RB_m104_12.out.cell 0
      have cm104_15_1 := RB_m104_12.out.cell 1
      have cm104_15_2 := RB_m104_12.out.cell 2
      have cm104_15_3 := RB_m104_12.out.cell 3
      simp only [List.getElem?_cons_zero, List.getElem?_cons_succ] at cm104_15_0 cm104_15_1 cm104_15_2 cm104_15_3
      go_wp2_with fail
      refine (HI2.out _).mono ?_
      rintro e Wm104_13 ⟨rfl, hb⟩
      clear cm104_14_0 cm104_14_1 cm104_14_2 cm104_14_3 cm104_15_0 cm104_15_1 cm104_15_2 cm104_15_3
      have RA_m104_16 := Lib.hid (RA_m104_12.out.below hb RA_m104_12.out.lt)
      have RB_m104_16 := Lib.hid (RB_m104_12.out.below hb RB_m104_12.out.lt)
      have B_m104_16 := Lib.hid (B_m104_12.out.trans (hb.mono B_m104_12.out.size))
      clear hb RA_m104_12 RB_m104_12 B_m104_12
      have cm104_18_0 := RA_m104_16.out.cell 0
      have cm104_18_1 := RA_m104_16.out.cell 1
      have cm104_18_2 := RA_m104_16.out.cell 2
      have cm104_18_3 := RA_m104_16.out.cell 3
      simp only [List.getElem?_cons_zero, List.getElem?_cons_succ] at cm104_18_0 cm104_18_1 cm104_18_2 cm104_18_3
      have cm104_19_0 := RB_m104_16.out.cell 0
      have cm104_19_1 := RB_m104_16.out.cell 1
      have cm104_19_2 := RB_m104_16.out.cell 2
      have cm104_19_3 := RB_m104_16.out.cell 3
      simp only [List.getElem?_cons_zero, List.getElem?_cons_succ] at cm104_19_0 cm104_19_1 cm104_19_2 cm104_19_3
      go_wp2_with fail
      refine (HI3.out _).mono ?_
      rintro e Wm104_17 ⟨rfl, hb⟩
      clear cm104_18_0 cm104_18_1 cm104_18_2 cm104_18_3 cm104_19_0 cm104_19_1 cm104_19_2 cm104_19_3
      have RA_m104_20 := Lib.hid (RA_m104_16.out.below hb RA_m104_16.out.lt)
      have RB_m104_20 := Lib.hid (RB_m104_16.out.below hb RB_m104_16.out.lt)
      have B_m104_20 := Lib.hid (B_m104_16.out.trans (hb.mono B_m104_16.out.size))
      clear hb RA_m104_16 RB_m104_16 B_m104_16
      have cm104_22_0 := RA_m104_20.out.cell 0
      have cm104_22_1 := RA_m104_20.out.cell 1
      have cm104_22_2 := RA_m104_20.out.cell 2
      have cm104_22_3 := RA_m104_20.out.cell 3
      simp only [List.getElem?_cons_zero, List.getElem?_cons_succ] at cm104_22_0 cm104_22_1 cm104_22_2 cm104_22_3
      have cm104_23_0 := RB_m104_20.out.cell 0
      have cm104_23_1 := RB_m104_20.out.cell 1
      have cm104_23_2 := RB_m104_20.out.cell 2
      have cm104_23_3 := RB_m104_20.out.cell 3
      simp only [List.getElem?_cons_zero, List.getElem?_cons_succ] at cm104_23_0 cm104_23_1 cm104_23_2 cm104_23_3
      go_wp2_with fail
      refine (HI4.out _).mono ?_
      rintro e Wm104_21 ⟨rfl, hb⟩
      clear cm104_22_0 cm104_22_1 cm104_22_2 cm104_22_3 cm104_23_0 cm104_23_1 cm104_23_2 cm104_23_3
      have RA_m104_24 := Lib.hid (RA_m104_20.out.below hb RA_m104_20.out.lt)
      have RB_m104_24 := Lib.hid (RB_m104_20.out.below hb RB_m104_20.out.lt)
      have B_m104_24 := Lib.hid (B_m104_20.out.trans (hb.mono B_m104_20.out.size))
      clear hb RA_m104_20 RB_m104_20 B_m104_20
      go_wp2
      go_ret
      exact ⟨rfl, B_m104_24.out⟩
  · by_cases hY : y0 < v0
    · have HI1 := Lib.hid (inside_bel x0 x1 x0)
      have HI2 := Lib.hid (inside_bel u0 u1 x0)
      have HI3 := Lib.hid (inside_bel y0 y1 v0)
      have HI4 := Lib.hid (inside_bel v0 v1 v0)
      cases h0 : insideB x0 x1 x0
      · rw [show meetB x0 x1 y0 y1 u0 u1 v0 v1 = false from Bool.eq_false_iff.2 (fun hm => by have hm := (meet_iff _ _ _ _ _ _ _ _).1 hm; have hb0 := box_t g0; have hb1 := box_t g1; have k0 := ins_f h0; omega)]
        rw [h0] at HI1
        clear g0 g1 hx h0
        go_enter Try.func12, Try.ntmps12
        go_upto_region 1 with fail
        have RA_m010_1 := Lib.hid ((row_last w (w.heap.size) 23 [.int .i64 x0, .int .i64 x1, .int .i64 y0, .int .i64 y1] (by simp)).alloc (.cells #[.int .i64 u0, .int .i64 u1, .int .i64 v0, .int .i64 v1] 23))
        have RB_m010_1 := Lib.hid (row_last (w.alloc (.cells #[.int .i64 x0, .int .i64 x1, .int .i64 y0, .int .i64 y1] 23)) (w.heap.size + 1) 23 [.int .i64 u0, .int .i64 u1, .int .i64 v0, .int .i64 v1] (by simp))
        have B_m010_1 := Lib.hid (((Below.refl w.heap.size w).alloc (Nat.le_refl _) (.cells #[.int .i64 x0, .int .i64 x1, .int .i64 y0, .int .i64 y1] 23)).alloc (by have := Nat.le_refl w.heap.size; simp <;> omega) (.cells #[.int .i64 u0, .int .i64 u1, .int .i64 v0, .int .i64 v1] 23))
        generalize ((w.alloc (.cells #[.int .i64 x0, .int .i64 x1, .int .i64 y0, .int .i64 y1] 23)).alloc (.cells #[.int .i64 u0, .int .i64 u1, .int .i64 v0, .int .i64 v1] 23)) = Vm010_1 at RA_m010_1 RB_m010_1 B_m010_1 ⊢
        have cm010_3_0 := RA_m010_1.out.cell 0
        have cm010_3_1 := RA_m010_1.out.cell 1
        have cm010_3_2 := RA_m010_1.out.cell 2
        have cm010_3_3 := RA_m010_1.out.cell 3
        simp only [List.getElem?_cons_zero, List.getElem?_cons_succ] at cm010_3_0 cm010_3_1 cm010_3_2 cm010_3_3
        go_wp2_with fail
        refine (HA.out _).mono ?_
        rintro e Wm010_2 ⟨rfl, hb⟩
        clear cm010_3_0 cm010_3_1 cm010_3_2 cm010_3_3
        have RA_m010_4 := Lib.hid (RA_m010_1.out.below hb RA_m010_1.out.lt)
        have RB_m010_4 := Lib.hid (RB_m010_1.out.below hb RB_m010_1.out.lt)
        have B_m010_4 := Lib.hid (B_m010_1.out.trans (hb.mono B_m010_1.out.size))
        clear hb RA_m010_1 RB_m010_1 B_m010_1
        have cm010_6_0 := RB_m010_4.out.cell 0
        have cm010_6_1 := RB_m010_4.out.cell 1
        have cm010_6_2 := RB_m010_4.out.cell 2
        have cm010_6_3 := RB_m010_4.out.cell 3
        simp only [List.getElem?_cons_zero, List.getElem?_cons_succ] at cm010_6_0 cm010_6_1 cm010_6_2 cm010_6_3
        go_wp2_with fail
        refine (HB.out _).mono ?_
        rintro e Wm010_5 ⟨rfl, hb⟩
        clear cm010_6_0 cm010_6_1 cm010_6_2 cm010_6_3
        have RA_m010_7 := Lib.hid (RA_m010_4.out.below hb RA_m010_4.out.lt)
        have RB_m010_7 := Lib.hid (RB_m010_4.out.below hb RB_m010_4.out.lt)
        have B_m010_7 := Lib.hid (B_m010_4.out.trans (hb.mono B_m010_4.out.size))
        clear hb RA_m010_4 RB_m010_4 B_m010_4
        go_wp2_with fail
        refine wp_region_held_drew (S := fun w' => Row w' (w.heap.size) 23 [.int .i64 x0, .int .i64 x1, .int .i64 y0, .int .i64 y1]) (by kernel_rfl) RA_m010_7.out.drew (fun hHeld => ?_)
        clear hHeld
        have RA_m010_8 := Lib.hid RA_m010_7.out.drew
        have RB_m010_8 := Lib.hid RB_m010_7.out.drew
        have B_m010_8 := Lib.hid B_m010_7.out.drew
        clear RA_m010_7 RB_m010_7 B_m010_7
        generalize Wm010_5.drew = Dm010_8 at RA_m010_8 RB_m010_8 B_m010_8 ⊢
        refine wpAnyH_take (i := 0) (oi := ⟨some 15, _, _, _, _, _⟩) (v := ?vm010_rm010_8_1) rfl (by kernel_rfl) (by kernel_rfl) (by kernel_rfl) (fun _ _ _ h => h) (Or.inl ⟨by rfl, ?ym010_rm010_8_1⟩) RA_m010_8.out ?rm010_rm010_8_1
        case ym010_rm010_8_1 =>
          rintro w' hSw
          go_simp
          try with_reducible rfl
        try simp only [Act.put, List.setIfInBounds_toArray, List.set_cons_zero, List.set_cons_succ]
        refine wpAnyH_take (i := 1) (oi := ⟨some 16, _, _, _, _, _⟩) (v := ?vm010_rm010_8_2) rfl (by kernel_rfl) (by kernel_rfl) (by kernel_rfl) (fun _ _ _ h => h) (Or.inl ⟨by rfl, ?ym010_rm010_8_2⟩) RA_m010_8.out ?rm010_rm010_8_2
        case ym010_rm010_8_2 =>
          rintro w' hSw
          have k0 := (show Row w' _ _ _ from hSw).cell 0
          have k1 := (show Row w' _ _ _ from hSw).cell 1
          have k2 := (show Row w' _ _ _ from hSw).cell 2
          have k3 := (show Row w' _ _ _ from hSw).cell 3
          simp only [List.getElem?_cons_zero, List.getElem?_cons_succ] at k0 k1 k2 k3
          go_simp
          try with_reducible rfl
        try simp only [Act.put, List.setIfInBounds_toArray, List.set_cons_zero, List.set_cons_succ]
        refine wpAnyH_take (i := 2) (oi := ⟨some 17, _, _, _, _, _⟩) (v := ?vm010_rm010_8_3) rfl (by kernel_rfl) (by kernel_rfl) (by kernel_rfl) (fun _ _ _ h => h) (Or.inl ⟨by rfl, ?ym010_rm010_8_3⟩) RA_m010_8.out ?rm010_rm010_8_3
        case ym010_rm010_8_3 =>
          rintro w' hSw
          go_simp
          try with_reducible rfl
        try simp only [Act.put, List.setIfInBounds_toArray, List.set_cons_zero, List.set_cons_succ]
        refine wpAnyH_take (i := 3) (oi := ⟨some 18, _, _, _, _, _⟩) (v := ?vm010_rm010_8_4) rfl (by kernel_rfl) (by kernel_rfl) (by kernel_rfl) (fun _ _ _ h => h) (Or.inl ⟨by rfl, ?ym010_rm010_8_4⟩) RA_m010_8.out ?rm010_rm010_8_4
        case ym010_rm010_8_4 =>
          rintro w' hSw
          have k0 := (show Row w' _ _ _ from hSw).cell 0
          have k1 := (show Row w' _ _ _ from hSw).cell 1
          have k2 := (show Row w' _ _ _ from hSw).cell 2
          have k3 := (show Row w' _ _ _ from hSw).cell 3
          simp only [List.getElem?_cons_zero, List.getElem?_cons_succ] at k0 k1 k2 k3
          go_simp
          try with_reducible rfl
        try simp only [Act.put, List.setIfInBounds_toArray, List.set_cons_zero, List.set_cons_succ]
        refine wpAnyH_take (i := 4) (oi := ⟨some 5, _, _, _, _, _⟩) (v := ?vm010_rm010_8_5) rfl (by kernel_rfl) (by kernel_rfl) (by kernel_rfl) (fun _ _ _ h => h) (Or.inl ⟨by rfl, ?ym010_rm010_8_5⟩) RA_m010_8.out ?rm010_rm010_8_5
        case ym010_rm010_8_5 =>
          rintro w' hSw
          go_simp
          try with_reducible rfl
        try simp only [Act.put, List.setIfInBounds_toArray, List.set_cons_zero, List.set_cons_succ]
        refine wpAnyH_take (i := 5) (oi := ⟨some 6, _, _, _, _, _⟩) (v := ?vm010_rm010_8_6) rfl (by kernel_rfl) (by kernel_rfl) (by kernel_rfl) (fun _ _ _ h => h) (Or.inl ⟨by rfl, ?ym010_rm010_8_6⟩) RA_m010_8.out ?rm010_rm010_8_6
        case ym010_rm010_8_6 =>
          rintro w' hSw
          go_simp
          try with_reducible rfl
        try simp only [Act.put, List.setIfInBounds_toArray, List.set_cons_zero, List.set_cons_succ]
        refine wpAnyH_done (by kernel_rfl) ?_ _
        have cm010_10_0 := RA_m010_8.out.cell 0
        have cm010_10_1 := RA_m010_8.out.cell 1
        have cm010_10_2 := RA_m010_8.out.cell 2
        have cm010_10_3 := RA_m010_8.out.cell 3
        simp only [List.getElem?_cons_zero, List.getElem?_cons_succ] at cm010_10_0 cm010_10_1 cm010_10_2 cm010_10_3
        have cm010_11_0 := RB_m010_8.out.cell 0
        have cm010_11_1 := RB_m010_8.out.cell 1
        have cm010_11_2 := RB_m010_8.out.cell 2
        have cm010_11_3 := RB_m010_8.out.cell 3
        simp only [List.getElem?_cons_zero, List.getElem?_cons_succ] at cm010_11_0 cm010_11_1 cm010_11_2 cm010_11_3
        go_wp2_with fail
        refine (HI1.out _).mono ?_
        rintro e Wm010_9 ⟨rfl, hb⟩
        clear cm010_10_0 cm010_10_1 cm010_10_2 cm010_10_3 cm010_11_0 cm010_11_1 cm010_11_2 cm010_11_3
        have RA_m010_12 := Lib.hid (RA_m010_8.out.below hb RA_m010_8.out.lt)
        have RB_m010_12 := Lib.hid (RB_m010_8.out.below hb RB_m010_8.out.lt)
        have B_m010_12 := Lib.hid (B_m010_8.out.trans (hb.mono B_m010_8.out.size))
        clear hb RA_m010_8 RB_m010_8 B_m010_8
        go_wp2
        go_ret
        exact ⟨rfl, B_m010_12.out⟩
      rw [h0] at HI1
      cases h1 : insideB u0 u1 x0
      · rw [show meetB x0 x1 y0 y1 u0 u1 v0 v1 = false from Bool.eq_false_iff.2 (fun hm => by have hm := (meet_iff _ _ _ _ _ _ _ _).1 hm; have hb0 := box_t g0; have hb1 := box_t g1; have k0 := ins_t h0; have k1 := ins_f h1; omega)]
        rw [h1] at HI2
        clear g0 g1 hx h0 h1
        go_enter Try.func12, Try.ntmps12
        go_upto_region 1 with fail
        have RA_m011_1 := Lib.hid ((row_last w (w.heap.size) 23 [.int .i64 x0, .int .i64 x1, .int .i64 y0, .int .i64 y1] (by simp)).alloc (.cells #[.int .i64 u0, .int .i64 u1, .int .i64 v0, .int .i64 v1] 23))
        have RB_m011_1 := Lib.hid (row_last (w.alloc (.cells #[.int .i64 x0, .int .i64 x1, .int .i64 y0, .int .i64 y1] 23)) (w.heap.size + 1) 23 [.int .i64 u0, .int .i64 u1, .int .i64 v0, .int .i64 v1] (by simp))
        have B_m011_1 := Lib.hid (((Below.refl w.heap.size w).alloc (Nat.le_refl _) (.cells #[.int .i64 x0, .int .i64 x1, .int .i64 y0, .int .i64 y1] 23)).alloc (by have := Nat.le_refl w.heap.size; simp <;> omega) (.cells #[.int .i64 u0, .int .i64 u1, .int .i64 v0, .int .i64 v1] 23))
        generalize ((w.alloc (.cells #[.int .i64 x0, .int .i64 x1, .int .i64 y0, .int .i64 y1] 23)).alloc (.cells #[.int .i64 u0, .int .i64 u1, .int .i64 v0, .int .i64 v1] 23)) = Vm011_1 at RA_m011_1 RB_m011_1 B_m011_1 ⊢
        have cm011_3_0 := RA_m011_1.out.cell 0
        have cm011_3_1 := RA_m011_1.out.cell 1
        have cm011_3_2 := RA_m011_1.out.cell 2
        have cm011_3_3 := RA_m011_1.out.cell 3
        simp only [List.getElem?_cons_zero, List.getElem?_cons_succ] at cm011_3_0 cm011_3_1 cm011_3_2 cm011_3_3
        go_wp2_with fail
        refine (HA.out _).mono ?_
        rintro e Wm011_2 ⟨rfl, hb⟩
        clear cm011_3_0 cm011_3_1 cm011_3_2 cm011_3_3
        have RA_m011_4 := Lib.hid (RA_m011_1.out.below hb RA_m011_1.out.lt)
        have RB_m011_4 := Lib.hid (RB_m011_1.out.below hb RB_m011_1.out.lt)
        have B_m011_4 := Lib.hid (B_m011_1.out.trans (hb.mono B_m011_1.out.size))
        clear hb RA_m011_1 RB_m011_1 B_m011_1
        have cm011_6_0 := RB_m011_4.out.cell 0
        have cm011_6_1 := RB_m011_4.out.cell 1
        have cm011_6_2 := RB_m011_4.out.cell 2
        have cm011_6_3 := RB_m011_4.out.cell 3
        simp only [List.getElem?_cons_zero, List.getElem?_cons_succ] at cm011_6_0 cm011_6_1 cm011_6_2 cm011_6_3
        go_wp2_with fail
        refine (HB.out _).mono ?_
        rintro e Wm011_5 ⟨rfl, hb⟩
        clear cm011_6_0 cm011_6_1 cm011_6_2 cm011_6_3
        have RA_m011_7 := Lib.hid (RA_m011_4.out.below hb RA_m011_4.out.lt)
        have RB_m011_7 := Lib.hid (RB_m011_4.out.below hb RB_m011_4.out.lt)
        have B_m011_7 := Lib.hid (B_m011_4.out.trans (hb.mono B_m011_4.out.size))
        clear hb RA_m011_4 RB_m011_4 B_m011_4
        go_wp2_with fail
        refine wp_region_held_drew (S := fun w' => Row w' (w.heap.size) 23 [.int .i64 x0, .int .i64 x1, .int .i64 y0, .int .i64 y1]) (by kernel_rfl) RA_m011_7.out.drew (fun hHeld => ?_)
        clear hHeld
        have RA_m011_8 := Lib.hid RA_m011_7.out.drew
        have RB_m011_8 := Lib.hid RB_m011_7.out.drew
        have B_m011_8 := Lib.hid B_m011_7.out.drew
        clear RA_m011_7 RB_m011_7 B_m011_7
        generalize Wm011_5.drew = Dm011_8 at RA_m011_8 RB_m011_8 B_m011_8 ⊢
        refine wpAnyH_take (i := 0) (oi := ⟨some 15, _, _, _, _, _⟩) (v := ?vm011_rm011_8_1) rfl (by kernel_rfl) (by kernel_rfl) (by kernel_rfl) (fun _ _ _ h => h) (Or.inl ⟨by rfl, ?ym011_rm011_8_1⟩) RA_m011_8.out ?rm011_rm011_8_1
        case ym011_rm011_8_1 =>
          rintro w' hSw
          go_simp
          try with_reducible rfl
        try simp only [Act.put, List.setIfInBounds_toArray, List.set_cons_zero, List.set_cons_succ]
        refine wpAnyH_take (i := 1) (oi := ⟨some 16, _, _, _, _, _⟩) (v := ?vm011_rm011_8_2) rfl (by kernel_rfl) (by kernel_rfl) (by kernel_rfl) (fun _ _ _ h => h) (Or.inl ⟨by rfl, ?ym011_rm011_8_2⟩) RA_m011_8.out ?rm011_rm011_8_2
        case ym011_rm011_8_2 =>
          rintro w' hSw
          have k0 := (show Row w' _ _ _ from hSw).cell 0
          have k1 := (show Row w' _ _ _ from hSw).cell 1
          have k2 := (show Row w' _ _ _ from hSw).cell 2
          have k3 := (show Row w' _ _ _ from hSw).cell 3
          simp only [List.getElem?_cons_zero, List.getElem?_cons_succ] at k0 k1 k2 k3
          go_simp
          try with_reducible rfl
        try simp only [Act.put, List.setIfInBounds_toArray, List.set_cons_zero, List.set_cons_succ]
        refine wpAnyH_take (i := 2) (oi := ⟨some 17, _, _, _, _, _⟩) (v := ?vm011_rm011_8_3) rfl (by kernel_rfl) (by kernel_rfl) (by kernel_rfl) (fun _ _ _ h => h) (Or.inl ⟨by rfl, ?ym011_rm011_8_3⟩) RA_m011_8.out ?rm011_rm011_8_3
        case ym011_rm011_8_3 =>
          rintro w' hSw
          go_simp
          try with_reducible rfl
        try simp only [Act.put, List.setIfInBounds_toArray, List.set_cons_zero, List.set_cons_succ]
        refine wpAnyH_take (i := 3) (oi := ⟨some 18, _, _, _, _, _⟩) (v := ?vm011_rm011_8_4) rfl (by kernel_rfl) (by kernel_rfl) (by kernel_rfl) (fun _ _ _ h => h) (Or.inl ⟨by rfl, ?ym011_rm011_8_4⟩) RA_m011_8.out ?rm011_rm011_8_4
        case ym011_rm011_8_4 =>
          rintro w' hSw
          have k0 := (show Row w' _ _ _ from hSw).cell 0
          have k1 := (show Row w' _ _ _ from hSw).cell 1
          have k2 := (show Row w' _ _ _ from hSw).cell 2
          have k3 := (show Row w' _ _ _ from hSw).cell 3
          simp only [List.getElem?_cons_zero, List.getElem?_cons_succ] at k0 k1 k2 k3
          go_simp
          try with_reducible rfl
        try simp only [Act.put, List.setIfInBounds_toArray, List.set_cons_zero, List.set_cons_succ]
        refine wpAnyH_take (i := 4) (oi := ⟨some 5, _, _, _, _, _⟩) (v := ?vm011_rm011_8_5) rfl (by kernel_rfl) (by kernel_rfl) (by kernel_rfl) (fun _ _ _ h => h) (Or.inl ⟨by rfl, ?ym011_rm011_8_5⟩) RA_m011_8.out ?rm011_rm011_8_5
        case ym011_rm011_8_5 =>
          rintro w' hSw
          go_simp
          try with_reducible rfl
        try simp only [Act.put, List.setIfInBounds_toArray, List.set_cons_zero, List.set_cons_succ]
        refine wpAnyH_take (i := 5) (oi := ⟨some 6, _, _, _, _, _⟩) (v := ?vm011_rm011_8_6) rfl (by kernel_rfl) (by kernel_rfl) (by kernel_rfl) (fun _ _ _ h => h) (Or.inl ⟨by rfl, ?ym011_rm011_8_6⟩) RA_m011_8.out ?rm011_rm011_8_6
        case ym011_rm011_8_6 =>
          rintro w' hSw
          go_simp
          try with_reducible rfl
        try simp only [Act.put, List.setIfInBounds_toArray, List.set_cons_zero, List.set_cons_succ]
        refine wpAnyH_done (by kernel_rfl) ?_ _
        have cm011_10_0 := RA_m011_8.out.cell 0
        have cm011_10_1 := RA_m011_8.out.cell 1
        have cm011_10_2 := RA_m011_8.out.cell 2
        have cm011_10_3 := RA_m011_8.out.cell 3
        simp only [List.getElem?_cons_zero, List.getElem?_cons_succ] at cm011_10_0 cm011_10_1 cm011_10_2 cm011_10_3
        have cm011_11_0 := RB_m011_8.out.cell 0
        have cm011_11_1 := RB_m011_8.out.cell 1
        have cm011_11_2 := RB_m011_8.out.cell 2
        have cm011_11_3 := RB_m011_8.out.cell 3
        simp only [List.getElem?_cons_zero, List.getElem?_cons_succ] at cm011_11_0 cm011_11_1 cm011_11_2 cm011_11_3
        go_wp2_with fail
        refine (HI1.out _).mono ?_
        rintro e Wm011_9 ⟨rfl, hb⟩
        clear cm011_10_0 cm011_10_1 cm011_10_2 cm011_10_3 cm011_11_0 cm011_11_1 cm011_11_2 cm011_11_3
        have RA_m011_12 := Lib.hid (RA_m011_8.out.below hb RA_m011_8.out.lt)
        have RB_m011_12 := Lib.hid (RB_m011_8.out.below hb RB_m011_8.out.lt)
        have B_m011_12 := Lib.hid (B_m011_8.out.trans (hb.mono B_m011_8.out.size))
        clear hb RA_m011_8 RB_m011_8 B_m011_8
        have cm011_14_0 := RA_m011_12.out.cell 0
        have cm011_14_1 := RA_m011_12.out.cell 1
        have cm011_14_2 := RA_m011_12.out.cell 2
        have cm011_14_3 := RA_m011_12.out.cell 3
        simp only [List.getElem?_cons_zero, List.getElem?_cons_succ] at cm011_14_0 cm011_14_1 cm011_14_2 cm011_14_3
        have cm011_15_0 := RB_m011_12.out.cell 0
        have cm011_15_1 := RB_m011_12.out.cell 1
        have cm011_15_2 := RB_m011_12.out.cell 2
        have cm011_15_3 := RB_m011_12.out.cell 3
        simp only [List.getElem?_cons_zero, List.getElem?_cons_succ] at cm011_15_0 cm011_15_1 cm011_15_2 cm011_15_3
        go_wp2_with fail
        refine (HI2.out _).mono ?_
        rintro e Wm011_13 ⟨rfl, hb⟩
        clear cm011_14_0 cm011_14_1 cm011_14_2 cm011_14_3 cm011_15_0 cm011_15_1 cm011_15_2 cm011_15_3
        have RA_m011_16 := Lib.hid (RA_m011_12.out.below hb RA_m011_12.out.lt)
        have RB_m011_16 := Lib.hid (RB_m011_12.out.below hb RB_m011_12.out.lt)
        have B_m011_16 := Lib.hid (B_m011_12.out.trans (hb.mono B_m011_12.out.size))
        clear hb RA_m011_12 RB_m011_12 B_m011_12
        go_wp2
        go_ret
        exact ⟨rfl, B_m011_16.out⟩
      rw [h1] at HI2
      cases h2 : insideB y0 y1 v0
      · rw [show meetB x0 x1 y0 y1 u0 u1 v0 v1 = false from Bool.eq_false_iff.2 (fun hm => by have hm := (meet_iff _ _ _ _ _ _ _ _).1 hm; have hb0 := box_t g0; have hb1 := box_t g1; have k0 := ins_t h0; have k1 := ins_t h1; have k2 := ins_f h2; omega)]
        rw [h2] at HI3
        clear g0 g1 hx h0 h1 h2
        go_enter Try.func12, Try.ntmps12
        go_upto_region 1 with fail
        have RA_m012_1 := Lib.hid ((row_last w (w.heap.size) 23 [.int .i64 x0, .int .i64 x1, .int .i64 y0, .int .i64 y1] (by simp)).alloc (.cells #[.int .i64 u0, .int .i64 u1, .int .i64 v0, .int .i64 v1] 23))
        have RB_m012_1 := Lib.hid (row_last (w.alloc (.cells #[.int .i64 x0, .int .i64 x1, .int .i64 y0, .int .i64 y1] 23)) (w.heap.size + 1) 23 [.int .i64 u0, .int .i64 u1, .int .i64 v0, .int .i64 v1] (by simp))
        have B_m012_1 := Lib.hid (((Below.refl w.heap.size w).alloc (Nat.le_refl _) (.cells #[.int .i64 x0, .int .i64 x1, .int .i64 y0, .int .i64 y1] 23)).alloc (by have := Nat.le_refl w.heap.size; simp <;> omega) (.cells #[.int .i64 u0, .int .i64 u1, .int .i64 v0, .int .i64 v1] 23))
        generalize ((w.alloc (.cells #[.int .i64 x0, .int .i64 x1, .int .i64 y0, .int .i64 y1] 23)).alloc (.cells #[.int .i64 u0, .int .i64 u1, .int .i64 v0, .int .i64 v1] 23)) = Vm012_1 at RA_m012_1 RB_m012_1 B_m012_1 ⊢
        have cm012_3_0 := RA_m012_1.out.cell 0
        have cm012_3_1 := RA_m012_1.out.cell 1
        have cm012_3_2 := RA_m012_1.out.cell 2
        have cm012_3_3 := RA_m012_1.out.cell 3
        simp only [List.getElem?_cons_zero, List.getElem?_cons_succ] at cm012_3_0 cm012_3_1 cm012_3_2 cm012_3_3
        go_wp2_with fail
        refine (HA.out _).mono ?_
        rintro e Wm012_2 ⟨rfl, hb⟩
        clear cm012_3_0 cm012_3_1 cm012_3_2 cm012_3_3
        have RA_m012_4 := Lib.hid (RA_m012_1.out.below hb RA_m012_1.out.lt)
        have RB_m012_4 := Lib.hid (RB_m012_1.out.below hb RB_m012_1.out.lt)
        have B_m012_4 := Lib.hid (B_m012_1.out.trans (hb.mono B_m012_1.out.size))
        clear hb RA_m012_1 RB_m012_1 B_m012_1
        have cm012_6_0 := RB_m012_4.out.cell 0
        have cm012_6_1 := RB_m012_4.out.cell 1
        have cm012_6_2 := RB_m012_4.out.cell 2
        have cm012_6_3 := RB_m012_4.out.cell 3
        simp only [List.getElem?_cons_zero, List.getElem?_cons_succ] at cm012_6_0 cm012_6_1 cm012_6_2 cm012_6_3
        go_wp2_with fail
        refine (HB.out _).mono ?_
        rintro e Wm012_5 ⟨rfl, hb⟩
        clear cm012_6_0 cm012_6_1 cm012_6_2 cm012_6_3
        have RA_m012_7 := Lib.hid (RA_m012_4.out.below hb RA_m012_4.out.lt)
        have RB_m012_7 := Lib.hid (RB_m012_4.out.below hb RB_m012_4.out.lt)
        have B_m012_7 := Lib.hid (B_m012_4.out.trans (hb.mono B_m012_4.out.size))
        clear hb RA_m012_4 RB_m012_4 B_m012_4
        go_wp2_with fail
        refine wp_region_held_drew (S := fun w' => Row w' (w.heap.size) 23 [.int .i64 x0, .int .i64 x1, .int .i64 y0, .int .i64 y1]) (by kernel_rfl) RA_m012_7.out.drew (fun hHeld => ?_)
        clear hHeld
        have RA_m012_8 := Lib.hid RA_m012_7.out.drew
        have RB_m012_8 := Lib.hid RB_m012_7.out.drew
        have B_m012_8 := Lib.hid B_m012_7.out.drew
        clear RA_m012_7 RB_m012_7 B_m012_7
        generalize Wm012_5.drew = Dm012_8 at RA_m012_8 RB_m012_8 B_m012_8 ⊢
        refine wpAnyH_take (i := 0) (oi := ⟨some 15, _, _, _, _, _⟩) (v := ?vm012_rm012_8_1) rfl (by kernel_rfl) (by kernel_rfl) (by kernel_rfl) (fun _ _ _ h => h) (Or.inl ⟨by rfl, ?ym012_rm012_8_1⟩) RA_m012_8.out ?rm012_rm012_8_1
        case ym012_rm012_8_1 =>
          rintro w' hSw
          go_simp
          try with_reducible rfl
        try simp only [Act.put, List.setIfInBounds_toArray, List.set_cons_zero, List.set_cons_succ]
        refine wpAnyH_take (i := 1) (oi := ⟨some 16, _, _, _, _, _⟩) (v := ?vm012_rm012_8_2) rfl (by kernel_rfl) (by kernel_rfl) (by kernel_rfl) (fun _ _ _ h => h) (Or.inl ⟨by rfl, ?ym012_rm012_8_2⟩) RA_m012_8.out ?rm012_rm012_8_2
        case ym012_rm012_8_2 =>
          rintro w' hSw
          have k0 := (show Row w' _ _ _ from hSw).cell 0
          have k1 := (show Row w' _ _ _ from hSw).cell 1
          have k2 := (show Row w' _ _ _ from hSw).cell 2
          have k3 := (show Row w' _ _ _ from hSw).cell 3
          simp only [List.getElem?_cons_zero, List.getElem?_cons_succ] at k0 k1 k2 k3
          go_simp
          try with_reducible rfl
        try simp only [Act.put, List.setIfInBounds_toArray, List.set_cons_zero, List.set_cons_succ]
        refine wpAnyH_take (i := 2) (oi := ⟨some 17, _, _, _, _, _⟩) (v := ?vm012_rm012_8_3) rfl (by kernel_rfl) (by kernel_rfl) (by kernel_rfl) (fun _ _ _ h => h) (Or.inl ⟨by rfl, ?ym012_rm012_8_3⟩) RA_m012_8.out ?rm012_rm012_8_3
        case ym012_rm012_8_3 =>
          rintro w' hSw
          go_simp
          try with_reducible rfl
        try simp only [Act.put, List.setIfInBounds_toArray, List.set_cons_zero, List.set_cons_succ]
        refine wpAnyH_take (i := 3) (oi := ⟨some 18, _, _, _, _, _⟩) (v := ?vm012_rm012_8_4) rfl (by kernel_rfl) (by kernel_rfl) (by kernel_rfl) (fun _ _ _ h => h) (Or.inl ⟨by rfl, ?ym012_rm012_8_4⟩) RA_m012_8.out ?rm012_rm012_8_4
        case ym012_rm012_8_4 =>
          rintro w' hSw
          have k0 := (show Row w' _ _ _ from hSw).cell 0
          have k1 := (show Row w' _ _ _ from hSw).cell 1
          have k2 := (show Row w' _ _ _ from hSw).cell 2
          have k3 := (show Row w' _ _ _ from hSw).cell 3
          simp only [List.getElem?_cons_zero, List.getElem?_cons_succ] at k0 k1 k2 k3
          go_simp
          try with_reducible rfl
        try simp only [Act.put, List.setIfInBounds_toArray, List.set_cons_zero, List.set_cons_succ]
        refine wpAnyH_take (i := 4) (oi := ⟨some 5, _, _, _, _, _⟩) (v := ?vm012_rm012_8_5) rfl (by kernel_rfl) (by kernel_rfl) (by kernel_rfl) (fun _ _ _ h => h) (Or.inl ⟨by rfl, ?ym012_rm012_8_5⟩) RA_m012_8.out ?rm012_rm012_8_5
        case ym012_rm012_8_5 =>
          rintro w' hSw
          go_simp
          try with_reducible rfl
        try simp only [Act.put, List.setIfInBounds_toArray, List.set_cons_zero, List.set_cons_succ]
        refine wpAnyH_take (i := 5) (oi := ⟨some 6, _, _, _, _, _⟩) (v := ?vm012_rm012_8_6) rfl (by kernel_rfl) (by kernel_rfl) (by kernel_rfl) (fun _ _ _ h => h) (Or.inl ⟨by rfl, ?ym012_rm012_8_6⟩) RA_m012_8.out ?rm012_rm012_8_6
        case ym012_rm012_8_6 =>
          rintro w' hSw
          go_simp
          try with_reducible rfl
        try simp only [Act.put, List.setIfInBounds_toArray, List.set_cons_zero, List.set_cons_succ]
        refine wpAnyH_done (by kernel_rfl) ?_ _
        have cm012_10_0 := RA_m012_8.out.cell 0
        have cm012_10_1 := RA_m012_8.out.cell 1
        have cm012_10_2 := RA_m012_8.out.cell 2
        have cm012_10_3 := RA_m012_8.out.cell 3
        simp only [List.getElem?_cons_zero, List.getElem?_cons_succ] at cm012_10_0 cm012_10_1 cm012_10_2 cm012_10_3
        have cm012_11_0 := RB_m012_8.out.cell 0
        have cm012_11_1 := RB_m012_8.out.cell 1
        have cm012_11_2 := RB_m012_8.out.cell 2
        have cm012_11_3 := RB_m012_8.out.cell 3
        simp only [List.getElem?_cons_zero, List.getElem?_cons_succ] at cm012_11_0 cm012_11_1 cm012_11_2 cm012_11_3
        go_wp2_with fail
        refine (HI1.out _).mono ?_
        rintro e Wm012_9 ⟨rfl, hb⟩
        clear cm012_10_0 cm012_10_1 cm012_10_2 cm012_10_3 cm012_11_0 cm012_11_1 cm012_11_2 cm012_11_3
        have RA_m012_12 := Lib.hid (RA_m012_8.out.below hb RA_m012_8.out.lt)
        have RB_m012_12 := Lib.hid (RB_m012_8.out.below hb RB_m012_8.out.lt)
        have B_m012_12 := Lib.hid (B_m012_8.out.trans (hb.mono B_m012_8.out.size))
        clear hb RA_m012_8 RB_m012_8 B_m012_8
        have cm012_14_0 := RA_m012_12.out.cell 0
        have cm012_14_1 := RA_m012_12.out.cell 1
        have cm012_14_2 := RA_m012_12.out.cell 2
        have cm012_14_3 := RA_m012_12.out.cell 3
        simp only [List.getElem?_cons_zero, List.getElem?_cons_succ] at cm012_14_0 cm012_14_1 cm012_14_2 cm012_14_3
        have cm012_15_0 := RB_m012_12.out.cell 0
        have cm012_15_1 := RB_m012_12.out.cell 1
        have cm012_15_2 := RB_m012_12.out.cell 2
        have cm012_15_3 := RB_m012_12.out.cell 3
        simp only [List.getElem?_cons_zero, List.getElem?_cons_succ] at cm012_15_0 cm012_15_1 cm012_15_2 cm012_15_3
        go_wp2_with fail
        refine (HI2.out _).mono ?_
        rintro e Wm012_13 ⟨rfl, hb⟩
        clear cm012_14_0 cm012_14_1 cm012_14_2 cm012_14_3 cm012_15_0 cm012_15_1 cm012_15_2 cm012_15_3
        have RA_m012_16 := Lib.hid (RA_m012_12.out.below hb RA_m012_12.out.lt)
        have RB_m012_16 := Lib.hid (RB_m012_12.out.below hb RB_m012_12.out.lt)
        have B_m012_16 := Lib.hid (B_m012_12.out.trans (hb.mono B_m012_12.out.size))
        clear hb RA_m012_12 RB_m012_12 B_m012_12
        have cm012_18_0 := RA_m012_16.out.cell 0
        have cm012_18_1 := RA_m012_16.out.cell 1
        have cm012_18_2 := RA_m012_16.out.cell 2
        have cm012_18_3 := RA_m012_16.out.cell 3
        simp only [List.getElem?_cons_zero, List.getElem?_cons_succ] at cm012_18_0 cm012_18_1 cm012_18_2 cm012_18_3
        have cm012_19_0 := RB_m012_16.out.cell 0
        have cm012_19_1 := RB_m012_16.out.cell 1
        have cm012_19_2 := RB_m012_16.out.cell 2
        have cm012_19_3 := RB_m012_16.out.cell 3
        simp only [List.getElem?_cons_zero, List.getElem?_cons_succ] at cm012_19_0 cm012_19_1 cm012_19_2 cm012_19_3
        go_wp2_with fail
        refine (HI3.out _).mono ?_
        rintro e Wm012_17 ⟨rfl, hb⟩
        clear cm012_18_0 cm012_18_1 cm012_18_2 cm012_18_3 cm012_19_0 cm012_19_1 cm012_19_2 cm012_19_3
        have RA_m012_20 := Lib.hid (RA_m012_16.out.below hb RA_m012_16.out.lt)
        have RB_m012_20 := Lib.hid (RB_m012_16.out.below hb RB_m012_16.out.lt)
        have B_m012_20 := Lib.hid (B_m012_16.out.trans (hb.mono B_m012_16.out.size))
        clear hb RA_m012_16 RB_m012_16 B_m012_16
        go_wp2
        go_ret
        exact ⟨rfl, B_m012_20.out⟩
      rw [h2] at HI3
      cases h3 : insideB v0 v1 v0
      · rw [show meetB x0 x1 y0 y1 u0 u1 v0 v1 = false from Bool.eq_false_iff.2 (fun hm => by have hm := (meet_iff _ _ _ _ _ _ _ _).1 hm; have hb0 := box_t g0; have hb1 := box_t g1; have k0 := ins_t h0; have k1 := ins_t h1; have k2 := ins_t h2; have k3 := ins_f h3; omega)]
        rw [h3] at HI4
        clear g0 g1 hx h0 h1 h2 h3
        go_enter Try.func12, Try.ntmps12
        go_upto_region 1 with fail
        have RA_m013_1 := Lib.hid ((row_last w (w.heap.size) 23 [.int .i64 x0, .int .i64 x1, .int .i64 y0, .int .i64 y1] (by simp)).alloc (.cells #[.int .i64 u0, .int .i64 u1, .int .i64 v0, .int .i64 v1] 23))
        have RB_m013_1 := Lib.hid (row_last (w.alloc (.cells #[.int .i64 x0, .int .i64 x1, .int .i64 y0, .int .i64 y1] 23)) (w.heap.size + 1) 23 [.int .i64 u0, .int .i64 u1, .int .i64 v0, .int .i64 v1] (by simp))
        have B_m013_1 := Lib.hid (((Below.refl w.heap.size w).alloc (Nat.le_refl _) (.cells #[.int .i64 x0, .int .i64 x1, .int .i64 y0, .int .i64 y1] 23)).alloc (by have := Nat.le_refl w.heap.size; simp <;> omega) (.cells #[.int .i64 u0, .int .i64 u1, .int .i64 v0, .int .i64 v1] 23))
        generalize ((w.alloc (.cells #[.int .i64 x0, .int .i64 x1, .int .i64 y0, .int .i64 y1] 23)).alloc (.cells #[.int .i64 u0, .int .i64 u1, .int .i64 v0, .int .i64 v1] 23)) = Vm013_1 at RA_m013_1 RB_m013_1 B_m013_1 ⊢
        have cm013_3_0 := RA_m013_1.out.cell 0
        have cm013_3_1 := RA_m013_1.out.cell 1
        have cm013_3_2 := RA_m013_1.out.cell 2
        have cm013_3_3 := RA_m013_1.out.cell 3
        simp only [List.getElem?_cons_zero, List.getElem?_cons_succ] at cm013_3_0 cm013_3_1 cm013_3_2 cm013_3_3
        go_wp2_with fail
        refine (HA.out _).mono ?_
        rintro e Wm013_2 ⟨rfl, hb⟩
        clear cm013_3_0 cm013_3_1 cm013_3_2 cm013_3_3
        have RA_m013_4 := Lib.hid (RA_m013_1.out.below hb RA_m013_1.out.lt)
        have RB_m013_4 := Lib.hid (RB_m013_1.out.below hb RB_m013_1.out.lt)
        have B_m013_4 := Lib.hid (B_m013_1.out.trans (hb.mono B_m013_1.out.size))
        clear hb RA_m013_1 RB_m013_1 B_m013_1
        have cm013_6_0 := RB_m013_4.out.cell 0
        have cm013_6_1 := RB_m013_4.out.cell 1
        have cm013_6_2 := RB_m013_4.out.cell 2
        have cm013_6_3 := RB_m013_4.out.cell 3
        simp only [List.getElem?_cons_zero, List.getElem?_cons_succ] at cm013_6_0 cm013_6_1 cm013_6_2 cm013_6_3
        go_wp2_with fail
        refine (HB.out _).mono ?_
        rintro e Wm013_5 ⟨rfl, hb⟩
        clear cm013_6_0 cm013_6_1 cm013_6_2 cm013_6_3
        have RA_m013_7 := Lib.hid (RA_m013_4.out.below hb RA_m013_4.out.lt)
        have RB_m013_7 := Lib.hid (RB_m013_4.out.below hb RB_m013_4.out.lt)
        have B_m013_7 := Lib.hid (B_m013_4.out.trans (hb.mono B_m013_4.out.size))
        clear hb RA_m013_4 RB_m013_4 B_m013_4
        go_wp2_with fail
        refine wp_region_held_drew (S := fun w' => Row w' (w.heap.size) 23 [.int .i64 x0, .int .i64 x1, .int .i64 y0, .int .i64 y1]) (by kernel_rfl) RA_m013_7.out.drew (fun hHeld => ?_)
        clear hHeld
        have RA_m013_8 := Lib.hid RA_m013_7.out.drew
        have RB_m013_8 := Lib.hid RB_m013_7.out.drew
        have B_m013_8 := Lib.hid B_m013_7.out.drew
        clear RA_m013_7 RB_m013_7 B_m013_7
        generalize Wm013_5.drew = Dm013_8 at RA_m013_8 RB_m013_8 B_m013_8 ⊢
        refine wpAnyH_take (i := 0) (oi := ⟨some 15, _, _, _, _, _⟩) (v := ?vm013_rm013_8_1) rfl (by kernel_rfl) (by kernel_rfl) (by kernel_rfl) (fun _ _ _ h => h) (Or.inl ⟨by rfl, ?ym013_rm013_8_1⟩) RA_m013_8.out ?rm013_rm013_8_1
        case ym013_rm013_8_1 =>
          rintro w' hSw
          go_simp
          try with_reducible rfl
        try simp only [Act.put, List.setIfInBounds_toArray, List.set_cons_zero, List.set_cons_succ]
        refine wpAnyH_take (i := 1) (oi := ⟨some 16, _, _, _, _, _⟩) (v := ?vm013_rm013_8_2) rfl (by kernel_rfl) (by kernel_rfl) (by kernel_rfl) (fun _ _ _ h => h) (Or.inl ⟨by rfl, ?ym013_rm013_8_2⟩) RA_m013_8.out ?rm013_rm013_8_2
        case ym013_rm013_8_2 =>
          rintro w' hSw
          have k0 := (show Row w' _ _ _ from hSw).cell 0
          have k1 := (show Row w' _ _ _ from hSw).cell 1
          have k2 := (show Row w' _ _ _ from hSw).cell 2
          have k3 := (show Row w' _ _ _ from hSw).cell 3
          simp only [List.getElem?_cons_zero, List.getElem?_cons_succ] at k0 k1 k2 k3
          go_simp
          try with_reducible rfl
        try simp only [Act.put, List.setIfInBounds_toArray, List.set_cons_zero, List.set_cons_succ]
        refine wpAnyH_take (i := 2) (oi := ⟨some 17, _, _, _, _, _⟩) (v := ?vm013_rm013_8_3) rfl (by kernel_rfl) (by kernel_rfl) (by kernel_rfl) (fun _ _ _ h => h) (Or.inl ⟨by rfl, ?ym013_rm013_8_3⟩) RA_m013_8.out ?rm013_rm013_8_3
        case ym013_rm013_8_3 =>
          rintro w' hSw
          go_simp
          try with_reducible rfl
        try simp only [Act.put, List.setIfInBounds_toArray, List.set_cons_zero, List.set_cons_succ]
        refine wpAnyH_take (i := 3) (oi := ⟨some 18, _, _, _, _, _⟩) (v := ?vm013_rm013_8_4) rfl (by kernel_rfl) (by kernel_rfl) (by kernel_rfl) (fun _ _ _ h => h) (Or.inl ⟨by rfl, ?ym013_rm013_8_4⟩) RA_m013_8.out ?rm013_rm013_8_4
        case ym013_rm013_8_4 =>
          rintro w' hSw
          have k0 := (show Row w' _ _ _ from hSw).cell 0
          have k1 := (show Row w' _ _ _ from hSw).cell 1
          have k2 := (show Row w' _ _ _ from hSw).cell 2
          have k3 := (show Row w' _ _ _ from hSw).cell 3
          simp only [List.getElem?_cons_zero, List.getElem?_cons_succ] at k0 k1 k2 k3
          go_simp
          try with_reducible rfl
        try simp only [Act.put, List.setIfInBounds_toArray, List.set_cons_zero, List.set_cons_succ]
        refine wpAnyH_take (i := 4) (oi := ⟨some 5, _, _, _, _, _⟩) (v := ?vm013_rm013_8_5) rfl (by kernel_rfl) (by kernel_rfl) (by kernel_rfl) (fun _ _ _ h => h) (Or.inl ⟨by rfl, ?ym013_rm013_8_5⟩) RA_m013_8.out ?rm013_rm013_8_5
        case ym013_rm013_8_5 =>
          rintro w' hSw
          go_simp
          try with_reducible rfl
        try simp only [Act.put, List.setIfInBounds_toArray, List.set_cons_zero, List.set_cons_succ]
        refine wpAnyH_take (i := 5) (oi := ⟨some 6, _, _, _, _, _⟩) (v := ?vm013_rm013_8_6) rfl (by kernel_rfl) (by kernel_rfl) (by kernel_rfl) (fun _ _ _ h => h) (Or.inl ⟨by rfl, ?ym013_rm013_8_6⟩) RA_m013_8.out ?rm013_rm013_8_6
        case ym013_rm013_8_6 =>
          rintro w' hSw
          go_simp
          try with_reducible rfl
        try simp only [Act.put, List.setIfInBounds_toArray, List.set_cons_zero, List.set_cons_succ]
        refine wpAnyH_done (by kernel_rfl) ?_ _
        have cm013_10_0 := RA_m013_8.out.cell 0
        have cm013_10_1 := RA_m013_8.out.cell 1
        have cm013_10_2 := RA_m013_8.out.cell 2
        have cm013_10_3 := RA_m013_8.out.cell 3
        simp only [List.getElem?_cons_zero, List.getElem?_cons_succ] at cm013_10_0 cm013_10_1 cm013_10_2 cm013_10_3
        have cm013_11_0 := RB_m013_8.out.cell 0
        have cm013_11_1 := RB_m013_8.out.cell 1
        have cm013_11_2 := RB_m013_8.out.cell 2
        have cm013_11_3 := RB_m013_8.out.cell 3
        simp only [List.getElem?_cons_zero, List.getElem?_cons_succ] at cm013_11_0 cm013_11_1 cm013_11_2 cm013_11_3
        go_wp2_with fail
        refine (HI1.out _).mono ?_
        rintro e Wm013_9 ⟨rfl, hb⟩
        clear cm013_10_0 cm013_10_1 cm013_10_2 cm013_10_3 cm013_11_0 cm013_11_1 cm013_11_2 cm013_11_3
        have RA_m013_12 := Lib.hid (RA_m013_8.out.below hb RA_m013_8.out.lt)
        have RB_m013_12 := Lib.hid (RB_m013_8.out.below hb RB_m013_8.out.lt)
        have B_m013_12 := Lib.hid (B_m013_8.out.trans (hb.mono B_m013_8.out.size))
        clear hb RA_m013_8 RB_m013_8 B_m013_8
        have cm013_14_0 := RA_m013_12.out.cell 0
        have cm013_14_1 := RA_m013_12.out.cell 1
        have cm013_14_2 := RA_m013_12.out.cell 2
        have cm013_14_3 := RA_m013_12.out.cell 3
        simp only [List.getElem?_cons_zero, List.getElem?_cons_succ] at cm013_14_0 cm013_14_1 cm013_14_2 cm013_14_3
        have cm013_15_0 := RB_m013_12.out.cell 0
        have cm013_15_1 := RB_m013_12.out.cell 1
        have cm013_15_2 := RB_m013_12.out.cell 2
        have cm013_15_3 := RB_m013_12.out.cell 3
        simp only [List.getElem?_cons_zero, List.getElem?_cons_succ] at cm013_15_0 cm013_15_1 cm013_15_2 cm013_15_3
        go_wp2_with fail
        refine (HI2.out _).mono ?_
        rintro e Wm013_13 ⟨rfl, hb⟩
        clear cm013_14_0 cm013_14_1 cm013_14_2 cm013_14_3 cm013_15_0 cm013_15_1 cm013_15_2 cm013_15_3
        have RA_m013_16 := Lib.hid (RA_m013_12.out.below hb RA_m013_12.out.lt)
        have RB_m013_16 := Lib.hid (RB_m013_12.out.below hb RB_m013_12.out.lt)
        have B_m013_16 := Lib.hid (B_m013_12.out.trans (hb.mono B_m013_12.out.size))
        clear hb RA_m013_12 RB_m013_12 B_m013_12
        have cm013_18_0 := RA_m013_16.out.cell 0
        have cm013_18_1 := RA_m013_16.out.cell 1
        have cm013_18_2 := RA_m013_16.out.cell 2
        have cm013_18_3 := RA_m013_16.out.cell 3
        simp only [List.getElem?_cons_zero, List.getElem?_cons_succ] at cm013_18_0 cm013_18_1 cm013_18_2 cm013_18_3
        have cm013_19_0 := RB_m013_16.out.cell 0
        have cm013_19_1 := RB_m013_16.out.cell 1
        have cm013_19_2 := RB_m013_16.out.cell 2
        have cm013_19_3 := RB_m013_16.out.cell 3
        simp only [List.getElem?_cons_zero, List.getElem?_cons_succ] at cm013_19_0 cm013_19_1 cm013_19_2 cm013_19_3
        go_wp2_with fail
        refine (HI3.out _).mono ?_
        rintro e Wm013_17 ⟨rfl, hb⟩
        clear cm013_18_0 cm013_18_1 cm013_18_2 cm013_18_3 cm013_19_0 cm013_19_1 cm013_19_2 cm013_19_3
        have RA_m013_20 := Lib.hid (RA_m013_16.out.below hb RA_m013_16.out.lt)
        have RB_m013_20 := Lib.hid (RB_m013_16.out.below hb RB_m013_16.out.lt)
        have B_m013_20 := Lib.hid (B_m013_16.out.trans (hb.mono B_m013_16.out.size))
        clear hb RA_m013_16 RB_m013_16 B_m013_16
        have cm013_22_0 := RA_m013_20.out.cell 0
        have cm013_22_1 := RA_m013_20.out.cell 1
        have cm013_22_2 := RA_m013_20.out.cell 2
        have cm013_22_3 := RA_m013_20.out.cell 3
        simp only [List.getElem?_cons_zero, List.getElem?_cons_succ] at cm013_22_0 cm013_22_1 cm013_22_2 cm013_22_3
        have cm013_23_0 := RB_m013_20.out.cell 0
        have cm013_23_1 := RB_m013_20.out.cell 1
        have cm013_23_2 := RB_m013_20.out.cell 2
        have cm013_23_3 := RB_m013_20.out.cell 3
        simp only [List.getElem?_cons_zero, List.getElem?_cons_succ] at cm013_23_0 cm013_23_1 cm013_23_2 cm013_23_3
        go_wp2_with fail
        refine (HI4.out _).mono ?_
        rintro e Wm013_21 ⟨rfl, hb⟩
        clear cm013_22_0 cm013_22_1 cm013_22_2 cm013_22_3 cm013_23_0 cm013_23_1 cm013_23_2 cm013_23_3
        have RA_m013_24 := Lib.hid (RA_m013_20.out.below hb RA_m013_20.out.lt)
        have RB_m013_24 := Lib.hid (RB_m013_20.out.below hb RB_m013_20.out.lt)
        have B_m013_24 := Lib.hid (B_m013_20.out.trans (hb.mono B_m013_20.out.size))
        clear hb RA_m013_20 RB_m013_20 B_m013_20
        go_wp2
        go_ret
        exact ⟨rfl, B_m013_24.out⟩
      rw [h3] at HI4
      rw [show meetB x0 x1 y0 y1 u0 u1 v0 v1 = true from (meet_iff _ _ _ _ _ _ _ _).2 (by have hb0 := box_t g0; have hb1 := box_t g1; have k0 := ins_t h0; have k1 := ins_t h1; have k2 := ins_t h2; have k3 := ins_t h3; omega)]
      clear h0 h1 h2 h3 g0 g1 hx
      go_enter Try.func12, Try.ntmps12
      go_upto_region 1 with fail
      have RA_m014_1 := Lib.hid ((row_last w (w.heap.size) 23 [.int .i64 x0, .int .i64 x1, .int .i64 y0, .int .i64 y1] (by simp)).alloc (.cells #[.int .i64 u0, .int .i64 u1, .int .i64 v0, .int .i64 v1] 23))
      have RB_m014_1 := Lib.hid (row_last (w.alloc (.cells #[.int .i64 x0, .int .i64 x1, .int .i64 y0, .int .i64 y1] 23)) (w.heap.size + 1) 23 [.int .i64 u0, .int .i64 u1, .int .i64 v0, .int .i64 v1] (by simp))
      have B_m014_1 := Lib.hid (((Below.refl w.heap.size w).alloc (Nat.le_refl _) (.cells #[.int .i64 x0, .int .i64 x1, .int .i64 y0, .int .i64 y1] 23)).alloc (by have := Nat.le_refl w.heap.size; simp <;> omega) (.cells #[.int .i64 u0, .int .i64 u1, .int .i64 v0, .int .i64 v1] 23))
      generalize ((w.alloc (.cells #[.int .i64 x0, .int .i64 x1, .int .i64 y0, .int .i64 y1] 23)).alloc (.cells #[.int .i64 u0, .int .i64 u1, .int .i64 v0, .int .i64 v1] 23)) = Vm014_1 at RA_m014_1 RB_m014_1 B_m014_1 ⊢
      have cm014_3_0 := RA_m014_1.out.cell 0
      have cm014_3_1 := RA_m014_1.out.cell 1
      have cm014_3_2 := RA_m014_1.out.cell 2
      have cm014_3_3 := RA_m014_1.out.cell 3
      simp only [List.getElem?_cons_zero, List.getElem?_cons_succ] at cm014_3_0 cm014_3_1 cm014_3_2 cm014_3_3
      go_wp2_with fail
      refine (HA.out _).mono ?_
      rintro e Wm014_2 ⟨rfl, hb⟩
      clear cm014_3_0 cm014_3_1 cm014_3_2 cm014_3_3
      have RA_m014_4 := Lib.hid (RA_m014_1.out.below hb RA_m014_1.out.lt)
      have RB_m014_4 := Lib.hid (RB_m014_1.out.below hb RB_m014_1.out.lt)
      have B_m014_4 := Lib.hid (B_m014_1.out.trans (hb.mono B_m014_1.out.size))
      clear hb RA_m014_1 RB_m014_1 B_m014_1
      have cm014_6_0 := RB_m014_4.out.cell 0
      have cm014_6_1 := RB_m014_4.out.cell 1
      have cm014_6_2 := RB_m014_4.out.cell 2
      have cm014_6_3 := RB_m014_4.out.cell 3
      simp only [List.getElem?_cons_zero, List.getElem?_cons_succ] at cm014_6_0 cm014_6_1 cm014_6_2 cm014_6_3
      go_wp2_with fail
      refine (HB.out _).mono ?_
      rintro e Wm014_5 ⟨rfl, hb⟩
      clear cm014_6_0 cm014_6_1 cm014_6_2 cm014_6_3
      have RA_m014_7 := Lib.hid (RA_m014_4.out.below hb RA_m014_4.out.lt)
      have RB_m014_7 := Lib.hid (RB_m014_4.out.below hb RB_m014_4.out.lt)
      have B_m014_7 := Lib.hid (B_m014_4.out.trans (hb.mono B_m014_4.out.size))
      clear hb RA_m014_4 RB_m014_4 B_m014_4
      go_wp2_with fail
      refine wp_region_held_drew (S := fun w' => Row w' (w.heap.size) 23 [.int .i64 x0, .int .i64 x1, .int .i64 y0, .int .i64 y1]) (by kernel_rfl) RA_m014_7.out.drew (fun hHeld => ?_)
      clear hHeld
      have RA_m014_8 := Lib.hid RA_m014_7.out.drew
      have RB_m014_8 := Lib.hid RB_m014_7.out.drew
      have B_m014_8 := Lib.hid B_m014_7.out.drew
      clear RA_m014_7 RB_m014_7 B_m014_7
      generalize Wm014_5.drew = Dm014_8 at RA_m014_8 RB_m014_8 B_m014_8 ⊢
      refine wpAnyH_take (i := 0) (oi := ⟨some 15, _, _, _, _, _⟩) (v := ?vm014_rm014_8_1) rfl (by kernel_rfl) (by kernel_rfl) (by kernel_rfl) (fun _ _ _ h => h) (Or.inl ⟨by rfl, ?ym014_rm014_8_1⟩) RA_m014_8.out ?rm014_rm014_8_1
      case ym014_rm014_8_1 =>
        rintro w' hSw
        go_simp
        try with_reducible rfl
      try simp only [Act.put, List.setIfInBounds_toArray, List.set_cons_zero, List.set_cons_succ]
      refine wpAnyH_take (i := 1) (oi := ⟨some 16, _, _, _, _, _⟩) (v := ?vm014_rm014_8_2) rfl (by kernel_rfl) (by kernel_rfl) (by kernel_rfl) (fun _ _ _ h => h) (Or.inl ⟨by rfl, ?ym014_rm014_8_2⟩) RA_m014_8.out ?rm014_rm014_8_2
      case ym014_rm014_8_2 =>
        rintro w' hSw
        have k0 := (show Row w' _ _ _ from hSw).cell 0
        have k1 := (show Row w' _ _ _ from hSw).cell 1
        have k2 := (show Row w' _ _ _ from hSw).cell 2
        have k3 := (show Row w' _ _ _ from hSw).cell 3
        simp only [List.getElem?_cons_zero, List.getElem?_cons_succ] at k0 k1 k2 k3
        go_simp
        try with_reducible rfl
      try simp only [Act.put, List.setIfInBounds_toArray, List.set_cons_zero, List.set_cons_succ]
      refine wpAnyH_take (i := 2) (oi := ⟨some 17, _, _, _, _, _⟩) (v := ?vm014_rm014_8_3) rfl (by kernel_rfl) (by kernel_rfl) (by kernel_rfl) (fun _ _ _ h => h) (Or.inl ⟨by rfl, ?ym014_rm014_8_3⟩) RA_m014_8.out ?rm014_rm014_8_3
      case ym014_rm014_8_3 =>
        rintro w' hSw
        go_simp
        try with_reducible rfl
      try simp only [Act.put, List.setIfInBounds_toArray, List.set_cons_zero, List.set_cons_succ]
      refine wpAnyH_take (i := 3) (oi := ⟨some 18, _, _, _, _, _⟩) (v := ?vm014_rm014_8_4) rfl (by kernel_rfl) (by kernel_rfl) (by kernel_rfl) (fun _ _ _ h => h) (Or.inl ⟨by rfl, ?ym014_rm014_8_4⟩) RA_m014_8.out ?rm014_rm014_8_4
      case ym014_rm014_8_4 =>
        rintro w' hSw
        have k0 := (show Row w' _ _ _ from hSw).cell 0
        have k1 := (show Row w' _ _ _ from hSw).cell 1
        have k2 := (show Row w' _ _ _ from hSw).cell 2
        have k3 := (show Row w' _ _ _ from hSw).cell 3
        simp only [List.getElem?_cons_zero, List.getElem?_cons_succ] at k0 k1 k2 k3
        go_simp
        try with_reducible rfl
      try simp only [Act.put, List.setIfInBounds_toArray, List.set_cons_zero, List.set_cons_succ]
      refine wpAnyH_take (i := 4) (oi := ⟨some 5, _, _, _, _, _⟩) (v := ?vm014_rm014_8_5) rfl (by kernel_rfl) (by kernel_rfl) (by kernel_rfl) (fun _ _ _ h => h) (Or.inl ⟨by rfl, ?ym014_rm014_8_5⟩) RA_m014_8.out ?rm014_rm014_8_5
      case ym014_rm014_8_5 =>
        rintro w' hSw
        go_simp
        try with_reducible rfl
      try simp only [Act.put, List.setIfInBounds_toArray, List.set_cons_zero, List.set_cons_succ]
      refine wpAnyH_take (i := 5) (oi := ⟨some 6, _, _, _, _, _⟩) (v := ?vm014_rm014_8_6) rfl (by kernel_rfl) (by kernel_rfl) (by kernel_rfl) (fun _ _ _ h => h) (Or.inl ⟨by rfl, ?ym014_rm014_8_6⟩) RA_m014_8.out ?rm014_rm014_8_6
      case ym014_rm014_8_6 =>
        rintro w' hSw
        go_simp
        try with_reducible rfl
      try simp only [Act.put, List.setIfInBounds_toArray, List.set_cons_zero, List.set_cons_succ]
      refine wpAnyH_done (by kernel_rfl) ?_ _
      have cm014_10_0 := RA_m014_8.out.cell 0
      have cm014_10_1 := RA_m014_8.out.cell 1
      have cm014_10_2 := RA_m014_8.out.cell 2
      have cm014_10_3 := RA_m014_8.out.cell 3
      simp only [List.getElem?_cons_zero, List.getElem?_cons_succ] at cm014_10_0 cm014_10_1 cm014_10_2 cm014_10_3
      have cm014_11_0 := RB_m014_8.out.cell 0
      have cm014_11_1 := RB_m014_8.out.cell 1
      have cm014_11_2 := RB_m014_8.out.cell 2
      have cm014_11_3 := RB_m014_8.out.cell 3
      simp only [List.getElem?_cons_zero, List.getElem?_cons_succ] at cm014_11_0 cm014_11_1 cm014_11_2 cm014_11_3
      go_wp2_with fail
      refine (HI1.out _).mono ?_
      rintro e Wm014_9 ⟨rfl, hb⟩
      clear cm014_10_0 cm014_10_1 cm014_10_2 cm014_10_3 cm014_11_0 cm014_11_1 cm014_11_2 cm014_11_3
      have RA_m014_12 := Lib.hid (RA_m014_8.out.below hb RA_m014_8.out.lt)
      have RB_m014_12 := Lib.hid (RB_m014_8.out.below hb RB_m014_8.out.lt)
      have B_m014_12 := Lib.hid (B_m014_8.out.trans (hb.mono B_m014_8.out.size))
      clear hb RA_m014_8 RB_m014_8 B_m014_8
      have cm014_14_0 := RA_m014_12.out.cell 0
      have cm014_14_1 := RA_m014_12.out.cell 1
      have cm014_14_2 := RA_m014_12.out.cell 2
      have cm014_14_3 := RA_m014_12.out.cell 3
      simp only [List.getElem?_cons_zero, List.getElem?_cons_succ] at cm014_14_0 cm014_14_1 cm014_14_2 cm014_14_3
      have cm014_15_0 := RB_m014_12.out.cell 0
      have cm014_15_1 := RB_m014_12.out.cell 1
      have cm014_15_2 := RB_m014_12.out.cell 2
      have cm014_15_3 := RB_m014_12.out.cell 3
      simp only [List.getElem?_cons_zero, List.getElem?_cons_succ] at cm014_15_0 cm014_15_1 cm014_15_2 cm014_15_3
      go_wp2_with fail
      refine (HI2.out _).mono ?_
      rintro e Wm014_13 ⟨rfl, hb⟩
      clear cm014_14_0 cm014_14_1 cm014_14_2 cm014_14_3 cm014_15_0 cm014_15_1 cm014_15_2 cm014_15_3
      have RA_m014_16 := Lib.hid (RA_m014_12.out.below hb RA_m014_12.out.lt)
      have RB_m014_16 := Lib.hid (RB_m014_12.out.below hb RB_m014_12.out.lt)
      have B_m014_16 := Lib.hid (B_m014_12.out.trans (hb.mono B_m014_12.out.size))
      clear hb RA_m014_12 RB_m014_12 B_m014_12
      have cm014_18_0 := RA_m014_16.out.cell 0
      have cm014_18_1 := RA_m014_16.out.cell 1
      have cm014_18_2 := RA_m014_16.out.cell 2
      have cm014_18_3 := RA_m014_16.out.cell 3
      simp only [List.getElem?_cons_zero, List.getElem?_cons_succ] at cm014_18_0 cm014_18_1 cm014_18_2 cm014_18_3
      have cm014_19_0 := RB_m014_16.out.cell 0
      have cm014_19_1 := RB_m014_16.out.cell 1
      have cm014_19_2 := RB_m014_16.out.cell 2
      have cm014_19_3 := RB_m014_16.out.cell 3
      simp only [List.getElem?_cons_zero, List.getElem?_cons_succ] at cm014_19_0 cm014_19_1 cm014_19_2 cm014_19_3
      go_wp2_with fail
      refine (HI3.out _).mono ?_
      rintro e Wm014_17 ⟨rfl, hb⟩
      clear cm014_18_0 cm014_18_1 cm014_18_2 cm014_18_3 cm014_19_0 cm014_19_1 cm014_19_2 cm014_19_3
      have RA_m014_20 := Lib.hid (RA_m014_16.out.below hb RA_m014_16.out.lt)
      have RB_m014_20 := Lib.hid (RB_m014_16.out.below hb RB_m014_16.out.lt)
      have B_m014_20 := Lib.hid (B_m014_16.out.trans (hb.mono B_m014_16.out.size))
      clear hb RA_m014_16 RB_m014_16 B_m014_16
      have cm014_22_0 := RA_m014_20.out.cell 0
      have cm014_22_1 := RA_m014_20.out.cell 1
      have cm014_22_2 := RA_m014_20.out.cell 2
      have cm014_22_3 := RA_m014_20.out.cell 3
      simp only [List.getElem?_cons_zero, List.getElem?_cons_succ] at cm014_22_0 cm014_22_1 cm014_22_2 cm014_22_3
      have cm014_23_0 := RB_m014_20.out.cell 0
      have cm014_23_1 := RB_m014_20.out.cell 1
      have cm014_23_2 := RB_m014_20.out.cell 2
      have cm014_23_3 := RB_m014_20.out.cell 3
      simp only [List.getElem?_cons_zero, List.getElem?_cons_succ] at cm014_23_0 cm014_23_1 cm014_23_2 cm014_23_3
      go_wp2_with fail
      refine (HI4.out _).mono ?_
      rintro e Wm014_21 ⟨rfl, hb⟩
      clear cm014_22_0 cm014_22_1 cm014_22_2 cm014_22_3 cm014_23_0 cm014_23_1 cm014_23_2 cm014_23_3
      have RA_m014_24 := Lib.hid (RA_m014_20.out.below hb RA_m014_20.out.lt)
      have RB_m014_24 := Lib.hid (RB_m014_20.out.below hb RB_m014_20.out.lt)
      have B_m014_24 := Lib.hid (B_m014_20.out.trans (hb.mono B_m014_20.out.size))
      clear hb RA_m014_20 RB_m014_20 B_m014_20
      go_wp2
      go_ret
      exact ⟨rfl, B_m014_24.out⟩
    · have HI1 := Lib.hid (inside_bel x0 x1 x0)
      have HI2 := Lib.hid (inside_bel u0 u1 x0)
      have HI3 := Lib.hid (inside_bel y0 y1 y0)
      have HI4 := Lib.hid (inside_bel v0 v1 y0)
      cases h0 : insideB x0 x1 x0
      · rw [show meetB x0 x1 y0 y1 u0 u1 v0 v1 = false from Bool.eq_false_iff.2 (fun hm => by have hm := (meet_iff _ _ _ _ _ _ _ _).1 hm; have hb0 := box_t g0; have hb1 := box_t g1; have k0 := ins_f h0; omega)]
        rw [h0] at HI1
        clear g0 g1 hx h0
        go_enter Try.func12, Try.ntmps12
        go_upto_region 1 with fail
        have RA_m000_1 := Lib.hid ((row_last w (w.heap.size) 23 [.int .i64 x0, .int .i64 x1, .int .i64 y0, .int .i64 y1] (by simp)).alloc (.cells #[.int .i64 u0, .int .i64 u1, .int .i64 v0, .int .i64 v1] 23))
        have RB_m000_1 := Lib.hid (row_last (w.alloc (.cells #[.int .i64 x0, .int .i64 x1, .int .i64 y0, .int .i64 y1] 23)) (w.heap.size + 1) 23 [.int .i64 u0, .int .i64 u1, .int .i64 v0, .int .i64 v1] (by simp))
        have B_m000_1 := Lib.hid (((Below.refl w.heap.size w).alloc (Nat.le_refl _) (.cells #[.int .i64 x0, .int .i64 x1, .int .i64 y0, .int .i64 y1] 23)).alloc (by have := Nat.le_refl w.heap.size; simp <;> omega) (.cells #[.int .i64 u0, .int .i64 u1, .int .i64 v0, .int .i64 v1] 23))
        generalize ((w.alloc (.cells #[.int .i64 x0, .int .i64 x1, .int .i64 y0, .int .i64 y1] 23)).alloc (.cells #[.int .i64 u0, .int .i64 u1, .int .i64 v0, .int .i64 v1] 23)) = Vm000_1 at RA_m000_1 RB_m000_1 B_m000_1 ⊢
        have cm000_3_0 := RA_m000_1.out.cell 0
        have cm000_3_1 := RA_m000_1.out.cell 1
        have cm000_3_2 := RA_m000_1.out.cell 2
        have cm000_3_3 := RA_m000_1.out.cell 3
        simp only [List.getElem?_cons_zero, List.getElem?_cons_succ] at cm000_3_0 cm000_3_1 cm000_3_2 cm000_3_3
        go_wp2_with fail
        refine (HA.out _).mono ?_
        rintro e Wm000_2 ⟨rfl, hb⟩
        clear cm000_3_0 cm000_3_1 cm000_3_2 cm000_3_3
        have RA_m000_4 := Lib.hid (RA_m000_1.out.below hb RA_m000_1.out.lt)
        have RB_m000_4 := Lib.hid (RB_m000_1.out.below hb RB_m000_1.out.lt)
        have B_m000_4 := Lib.hid (B_m000_1.out.trans (hb.mono B_m000_1.out.size))
        clear hb RA_m000_1 RB_m000_1 B_m000_1
        have cm000_6_0 := RB_m000_4.out.cell 0
        have cm000_6_1 := RB_m000_4.out.cell 1
        have cm000_6_2 := RB_m000_4.out.cell 2
        have cm000_6_3 := RB_m000_4.out.cell 3
        simp only [List.getElem?_cons_zero, List.getElem?_cons_succ] at cm000_6_0 cm000_6_1 cm000_6_2 cm000_6_3
        go_wp2_with fail
        refine (HB.out _).mono ?_
        rintro e Wm000_5 ⟨rfl, hb⟩
        clear cm000_6_0 cm000_6_1 cm000_6_2 cm000_6_3
        have RA_m000_7 := Lib.hid (RA_m000_4.out.below hb RA_m000_4.out.lt)
        have RB_m000_7 := Lib.hid (RB_m000_4.out.below hb RB_m000_4.out.lt)
        have B_m000_7 := Lib.hid (B_m000_4.out.trans (hb.mono B_m000_4.out.size))
        clear hb RA_m000_4 RB_m000_4 B_m000_4
        go_wp2_with fail
        refine wp_region_held_drew (S := fun w' => Row w' (w.heap.size) 23 [.int .i64 x0, .int .i64 x1, .int .i64 y0, .int .i64 y1]) (by kernel_rfl) RA_m000_7.out.drew (fun hHeld => ?_)
        clear hHeld
        have RA_m000_8 := Lib.hid RA_m000_7.out.drew
        have RB_m000_8 := Lib.hid RB_m000_7.out.drew
        have B_m000_8 := Lib.hid B_m000_7.out.drew
        clear RA_m000_7 RB_m000_7 B_m000_7
        generalize Wm000_5.drew = Dm000_8 at RA_m000_8 RB_m000_8 B_m000_8 ⊢
        refine wpAnyH_take (i := 0) (oi := ⟨some 15, _, _, _, _, _⟩) (v := ?vm000_rm000_8_1) rfl (by kernel_rfl) (by kernel_rfl) (by kernel_rfl) (fun _ _ _ h => h) (Or.inl ⟨by rfl, ?ym000_rm000_8_1⟩) RA_m000_8.out ?rm000_rm000_8_1
        case ym000_rm000_8_1 =>
          rintro w' hSw
          go_simp
          try with_reducible rfl
        try simp only [Act.put, List.setIfInBounds_toArray, List.set_cons_zero, List.set_cons_succ]
        refine wpAnyH_take (i := 1) (oi := ⟨some 16, _, _, _, _, _⟩) (v := ?vm000_rm000_8_2) rfl (by kernel_rfl) (by kernel_rfl) (by kernel_rfl) (fun _ _ _ h => h) (Or.inl ⟨by rfl, ?ym000_rm000_8_2⟩) RA_m000_8.out ?rm000_rm000_8_2
        case ym000_rm000_8_2 =>
          rintro w' hSw
          have k0 := (show Row w' _ _ _ from hSw).cell 0
          have k1 := (show Row w' _ _ _ from hSw).cell 1
          have k2 := (show Row w' _ _ _ from hSw).cell 2
          have k3 := (show Row w' _ _ _ from hSw).cell 3
          simp only [List.getElem?_cons_zero, List.getElem?_cons_succ] at k0 k1 k2 k3
          go_simp
          try with_reducible rfl
        try simp only [Act.put, List.setIfInBounds_toArray, List.set_cons_zero, List.set_cons_succ]
        refine wpAnyH_take (i := 2) (oi := ⟨some 17, _, _, _, _, _⟩) (v := ?vm000_rm000_8_3) rfl (by kernel_rfl) (by kernel_rfl) (by kernel_rfl) (fun _ _ _ h => h) (Or.inl ⟨by rfl, ?ym000_rm000_8_3⟩) RA_m000_8.out ?rm000_rm000_8_3
        case ym000_rm000_8_3 =>
          rintro w' hSw
          go_simp
          try with_reducible rfl
        try simp only [Act.put, List.setIfInBounds_toArray, List.set_cons_zero, List.set_cons_succ]
        refine wpAnyH_take (i := 3) (oi := ⟨some 18, _, _, _, _, _⟩) (v := ?vm000_rm000_8_4) rfl (by kernel_rfl) (by kernel_rfl) (by kernel_rfl) (fun _ _ _ h => h) (Or.inl ⟨by rfl, ?ym000_rm000_8_4⟩) RA_m000_8.out ?rm000_rm000_8_4
        case ym000_rm000_8_4 =>
          rintro w' hSw
          have k0 := (show Row w' _ _ _ from hSw).cell 0
          have k1 := (show Row w' _ _ _ from hSw).cell 1
          have k2 := (show Row w' _ _ _ from hSw).cell 2
          have k3 := (show Row w' _ _ _ from hSw).cell 3
          simp only [List.getElem?_cons_zero, List.getElem?_cons_succ] at k0 k1 k2 k3
          go_simp
          try with_reducible rfl
        try simp only [Act.put, List.setIfInBounds_toArray, List.set_cons_zero, List.set_cons_succ]
        refine wpAnyH_take (i := 4) (oi := ⟨some 5, _, _, _, _, _⟩) (v := ?vm000_rm000_8_5) rfl (by kernel_rfl) (by kernel_rfl) (by kernel_rfl) (fun _ _ _ h => h) (Or.inl ⟨by rfl, ?ym000_rm000_8_5⟩) RA_m000_8.out ?rm000_rm000_8_5
        case ym000_rm000_8_5 =>
          rintro w' hSw
          go_simp
          try with_reducible rfl
        try simp only [Act.put, List.setIfInBounds_toArray, List.set_cons_zero, List.set_cons_succ]
        refine wpAnyH_take (i := 5) (oi := ⟨some 6, _, _, _, _, _⟩) (v := ?vm000_rm000_8_6) rfl (by kernel_rfl) (by kernel_rfl) (by kernel_rfl) (fun _ _ _ h => h) (Or.inl ⟨by rfl, ?ym000_rm000_8_6⟩) RA_m000_8.out ?rm000_rm000_8_6
        case ym000_rm000_8_6 =>
          rintro w' hSw
          go_simp
          try with_reducible rfl
        try simp only [Act.put, List.setIfInBounds_toArray, List.set_cons_zero, List.set_cons_succ]
        refine wpAnyH_done (by kernel_rfl) ?_ _
        have cm000_10_0 := RA_m000_8.out.cell 0
        have cm000_10_1 := RA_m000_8.out.cell 1
        have cm000_10_2 := RA_m000_8.out.cell 2
        have cm000_10_3 := RA_m000_8.out.cell 3
        simp only [List.getElem?_cons_zero, List.getElem?_cons_succ] at cm000_10_0 cm000_10_1 cm000_10_2 cm000_10_3
        have cm000_11_0 := RB_m000_8.out.cell 0
        have cm000_11_1 := RB_m000_8.out.cell 1
        have cm000_11_2 := RB_m000_8.out.cell 2
        have cm000_11_3 := RB_m000_8.out.cell 3
        simp only [List.getElem?_cons_zero, List.getElem?_cons_succ] at cm000_11_0 cm000_11_1 cm000_11_2 cm000_11_3
        go_wp2_with fail
        refine (HI1.out _).mono ?_
        rintro e Wm000_9 ⟨rfl, hb⟩
        clear cm000_10_0 cm000_10_1 cm000_10_2 cm000_10_3 cm000_11_0 cm000_11_1 cm000_11_2 cm000_11_3
        have RA_m000_12 := Lib.hid (RA_m000_8.out.below hb RA_m000_8.out.lt)
        have RB_m000_12 := Lib.hid (RB_m000_8.out.below hb RB_m000_8.out.lt)
        have B_m000_12 := Lib.hid (B_m000_8.out.trans (hb.mono B_m000_8.out.size))
        clear hb RA_m000_8 RB_m000_8 B_m000_8
        go_wp2
        go_ret
        exact ⟨rfl, B_m000_12.out⟩
      rw [h0] at HI1
      cases h1 : insideB u0 u1 x0
      · rw [show meetB x0 x1 y0 y1 u0 u1 v0 v1 = false from Bool.eq_false_iff.2 (fun hm => by have hm := (meet_iff _ _ _ _ _ _ _ _).1 hm; have hb0 := box_t g0; have hb1 := box_t g1; have k0 := ins_t h0; have k1 := ins_f h1; omega)]
        rw [h1] at HI2
        clear g0 g1 hx h0 h1
        go_enter Try.func12, Try.ntmps12
        go_upto_region 1 with fail
        have RA_m001_1 := Lib.hid ((row_last w (w.heap.size) 23 [.int .i64 x0, .int .i64 x1, .int .i64 y0, .int .i64 y1] (by simp)).alloc (.cells #[.int .i64 u0, .int .i64 u1, .int .i64 v0, .int .i64 v1] 23))
        have RB_m001_1 := Lib.hid (row_last (w.alloc (.cells #[.int .i64 x0, .int .i64 x1, .int .i64 y0, .int .i64 y1] 23)) (w.heap.size + 1) 23 [.int .i64 u0, .int .i64 u1, .int .i64 v0, .int .i64 v1] (by simp))
        have B_m001_1 := Lib.hid (((Below.refl w.heap.size w).alloc (Nat.le_refl _) (.cells #[.int .i64 x0, .int .i64 x1, .int .i64 y0, .int .i64 y1] 23)).alloc (by have := Nat.le_refl w.heap.size; simp <;> omega) (.cells #[.int .i64 u0, .int .i64 u1, .int .i64 v0, .int .i64 v1] 23))
        generalize ((w.alloc (.cells #[.int .i64 x0, .int .i64 x1, .int .i64 y0, .int .i64 y1] 23)).alloc (.cells #[.int .i64 u0, .int .i64 u1, .int .i64 v0, .int .i64 v1] 23)) = Vm001_1 at RA_m001_1 RB_m001_1 B_m001_1 ⊢
        have cm001_3_0 := RA_m001_1.out.cell 0
        have cm001_3_1 := RA_m001_1.out.cell 1
        have cm001_3_2 := RA_m001_1.out.cell 2
        have cm001_3_3 := RA_m001_1.out.cell 3
        simp only [List.getElem?_cons_zero, List.getElem?_cons_succ] at cm001_3_0 cm001_3_1 cm001_3_2 cm001_3_3
        go_wp2_with fail
        refine (HA.out _).mono ?_
        rintro e Wm001_2 ⟨rfl, hb⟩
        clear cm001_3_0 cm001_3_1 cm001_3_2 cm001_3_3
        have RA_m001_4 := Lib.hid (RA_m001_1.out.below hb RA_m001_1.out.lt)
        have RB_m001_4 := Lib.hid (RB_m001_1.out.below hb RB_m001_1.out.lt)
        have B_m001_4 := Lib.hid (B_m001_1.out.trans (hb.mono B_m001_1.out.size))
        clear hb RA_m001_1 RB_m001_1 B_m001_1
        have cm001_6_0 := RB_m001_4.out.cell 0
        have cm001_6_1 := RB_m001_4.out.cell 1
        have cm001_6_2 := RB_m001_4.out.cell 2
        have cm001_6_3 := RB_m001_4.out.cell 3
        simp only [List.getElem?_cons_zero, List.getElem?_cons_succ] at cm001_6_0 cm001_6_1 cm001_6_2 cm001_6_3
        go_wp2_with fail
        refine (HB.out _).mono ?_
        rintro e Wm001_5 ⟨rfl, hb⟩
        clear cm001_6_0 cm001_6_1 cm001_6_2 cm001_6_3
        have RA_m001_7 := Lib.hid (RA_m001_4.out.below hb RA_m001_4.out.lt)
        have RB_m001_7 := Lib.hid (RB_m001_4.out.below hb RB_m001_4.out.lt)
        have B_m001_7 := Lib.hid (B_m001_4.out.trans (hb.mono B_m001_4.out.size))
        clear hb RA_m001_4 RB_m001_4 B_m001_4
        go_wp2_with fail
        refine wp_region_held_drew (S := fun w' => Row w' (w.heap.size) 23 [.int .i64 x0, .int .i64 x1, .int .i64 y0, .int .i64 y1]) (by kernel_rfl) RA_m001_7.out.drew (fun hHeld => ?_)
        clear hHeld
        have RA_m001_8 := Lib.hid RA_m001_7.out.drew
        have RB_m001_8 := Lib.hid RB_m001_7.out.drew
        have B_m001_8 := Lib.hid B_m001_7.out.drew
        clear RA_m001_7 RB_m001_7 B_m001_7
        generalize Wm001_5.drew = Dm001_8 at RA_m001_8 RB_m001_8 B_m001_8 ⊢
        refine wpAnyH_take (i := 0) (oi := ⟨some 15, _, _, _, _, _⟩) (v := ?vm001_rm001_8_1) rfl (by kernel_rfl) (by kernel_rfl) (by kernel_rfl) (fun _ _ _ h => h) (Or.inl ⟨by rfl, ?ym001_rm001_8_1⟩) RA_m001_8.out ?rm001_rm001_8_1
        case ym001_rm001_8_1 =>
          rintro w' hSw
          go_simp
          try with_reducible rfl
        try simp only [Act.put, List.setIfInBounds_toArray, List.set_cons_zero, List.set_cons_succ]
        refine wpAnyH_take (i := 1) (oi := ⟨some 16, _, _, _, _, _⟩) (v := ?vm001_rm001_8_2) rfl (by kernel_rfl) (by kernel_rfl) (by kernel_rfl) (fun _ _ _ h => h) (Or.inl ⟨by rfl, ?ym001_rm001_8_2⟩) RA_m001_8.out ?rm001_rm001_8_2
        case ym001_rm001_8_2 =>
          rintro w' hSw
          have k0 := (show Row w' _ _ _ from hSw).cell 0
          have k1 := (show Row w' _ _ _ from hSw).cell 1
          have k2 := (show Row w' _ _ _ from hSw).cell 2
          have k3 := (show Row w' _ _ _ from hSw).cell 3
          simp only [List.getElem?_cons_zero, List.getElem?_cons_succ] at k0 k1 k2 k3
          go_simp
          try with_reducible rfl
        try simp only [Act.put, List.setIfInBounds_toArray, List.set_cons_zero, List.set_cons_succ]
        refine wpAnyH_take (i := 2) (oi := ⟨some 17, _, _, _, _, _⟩) (v := ?vm001_rm001_8_3) rfl (by kernel_rfl) (by kernel_rfl) (by kernel_rfl) (fun _ _ _ h => h) (Or.inl ⟨by rfl, ?ym001_rm001_8_3⟩) RA_m001_8.out ?rm001_rm001_8_3
        case ym001_rm001_8_3 =>
          rintro w' hSw
          go_simp
          try with_reducible rfl
        try simp only [Act.put, List.setIfInBounds_toArray, List.set_cons_zero, List.set_cons_succ]
        refine wpAnyH_take (i := 3) (oi := ⟨some 18, _, _, _, _, _⟩) (v := ?vm001_rm001_8_4) rfl (by kernel_rfl) (by kernel_rfl) (by kernel_rfl) (fun _ _ _ h => h) (Or.inl ⟨by rfl, ?ym001_rm001_8_4⟩) RA_m001_8.out ?rm001_rm001_8_4
        case ym001_rm001_8_4 =>
          rintro w' hSw
          have k0 := (show Row w' _ _ _ from hSw).cell 0
          have k1 := (show Row w' _ _ _ from hSw).cell 1
          have k2 := (show Row w' _ _ _ from hSw).cell 2
          have k3 := (show Row w' _ _ _ from hSw).cell 3
          simp only [List.getElem?_cons_zero, List.getElem?_cons_succ] at k0 k1 k2 k3
          go_simp
          try with_reducible rfl
        try simp only [Act.put, List.setIfInBounds_toArray, List.set_cons_zero, List.set_cons_succ]
        refine wpAnyH_take (i := 4) (oi := ⟨some 5, _, _, _, _, _⟩) (v := ?vm001_rm001_8_5) rfl (by kernel_rfl) (by kernel_rfl) (by kernel_rfl) (fun _ _ _ h => h) (Or.inl ⟨by rfl, ?ym001_rm001_8_5⟩) RA_m001_8.out ?rm001_rm001_8_5
        case ym001_rm001_8_5 =>
          rintro w' hSw
          go_simp
          try with_reducible rfl
        try simp only [Act.put, List.setIfInBounds_toArray, List.set_cons_zero, List.set_cons_succ]
        refine wpAnyH_take (i := 5) (oi := ⟨some 6, _, _, _, _, _⟩) (v := ?vm001_rm001_8_6) rfl (by kernel_rfl) (by kernel_rfl) (by kernel_rfl) (fun _ _ _ h => h) (Or.inl ⟨by rfl, ?ym001_rm001_8_6⟩) RA_m001_8.out ?rm001_rm001_8_6
        case ym001_rm001_8_6 =>
          rintro w' hSw
          go_simp
          try with_reducible rfl
        try simp only [Act.put, List.setIfInBounds_toArray, List.set_cons_zero, List.set_cons_succ]
        refine wpAnyH_done (by kernel_rfl) ?_ _
        have cm001_10_0 := RA_m001_8.out.cell 0
        have cm001_10_1 := RA_m001_8.out.cell 1
        have cm001_10_2 := RA_m001_8.out.cell 2
        have cm001_10_3 := RA_m001_8.out.cell 3
        simp only [List.getElem?_cons_zero, List.getElem?_cons_succ] at cm001_10_0 cm001_10_1 cm001_10_2 cm001_10_3
        have cm001_11_0 := RB_m001_8.out.cell 0
        have cm001_11_1 := RB_m001_8.out.cell 1
        have cm001_11_2 := RB_m001_8.out.cell 2
        have cm001_11_3 := RB_m001_8.out.cell 3
        simp only [List.getElem?_cons_zero, List.getElem?_cons_succ] at cm001_11_0 cm001_11_1 cm001_11_2 cm001_11_3
        go_wp2_with fail
        refine (HI1.out _).mono ?_
        rintro e Wm001_9 ⟨rfl, hb⟩
        clear cm001_10_0 cm001_10_1 cm001_10_2 cm001_10_3 cm001_11_0 cm001_11_1 cm001_11_2 cm001_11_3
        have RA_m001_12 := Lib.hid (RA_m001_8.out.below hb RA_m001_8.out.lt)
        have RB_m001_12 := Lib.hid (RB_m001_8.out.below hb RB_m001_8.out.lt)
        have B_m001_12 := Lib.hid (B_m001_8.out.trans (hb.mono B_m001_8.out.size))
        clear hb RA_m001_8 RB_m001_8 B_m001_8
        have cm001_14_0 := RA_m001_12.out.cell 0
        have cm001_14_1 := RA_m001_12.out.cell 1
        have cm001_14_2 := RA_m001_12.out.cell 2
        have cm001_14_3 := RA_m001_12.out.cell 3
        simp only [List.getElem?_cons_zero, List.getElem?_cons_succ] at cm001_14_0 cm001_14_1 cm001_14_2 cm001_14_3
        have cm001_15_0 := RB_m001_12.out.cell 0
        have cm001_15_1 := RB_m001_12.out.cell 1
        have cm001_15_2 := RB_m001_12.out.cell 2
        have cm001_15_3 := RB_m001_12.out.cell 3
        simp only [List.getElem?_cons_zero, List.getElem?_cons_succ] at cm001_15_0 cm001_15_1 cm001_15_2 cm001_15_3
        go_wp2_with fail
        refine (HI2.out _).mono ?_
        rintro e Wm001_13 ⟨rfl, hb⟩
        clear cm001_14_0 cm001_14_1 cm001_14_2 cm001_14_3 cm001_15_0 cm001_15_1 cm001_15_2 cm001_15_3
        have RA_m001_16 := Lib.hid (RA_m001_12.out.below hb RA_m001_12.out.lt)
        have RB_m001_16 := Lib.hid (RB_m001_12.out.below hb RB_m001_12.out.lt)
        have B_m001_16 := Lib.hid (B_m001_12.out.trans (hb.mono B_m001_12.out.size))
        clear hb RA_m001_12 RB_m001_12 B_m001_12
        go_wp2
        go_ret
        exact ⟨rfl, B_m001_16.out⟩
      rw [h1] at HI2
      cases h2 : insideB y0 y1 y0
      · rw [show meetB x0 x1 y0 y1 u0 u1 v0 v1 = false from Bool.eq_false_iff.2 (fun hm => by have hm := (meet_iff _ _ _ _ _ _ _ _).1 hm; have hb0 := box_t g0; have hb1 := box_t g1; have k0 := ins_t h0; have k1 := ins_t h1; have k2 := ins_f h2; omega)]
        rw [h2] at HI3
        clear g0 g1 hx h0 h1 h2
        go_enter Try.func12, Try.ntmps12
        go_upto_region 1 with fail
        have RA_m002_1 := Lib.hid ((row_last w (w.heap.size) 23 [.int .i64 x0, .int .i64 x1, .int .i64 y0, .int .i64 y1] (by simp)).alloc (.cells #[.int .i64 u0, .int .i64 u1, .int .i64 v0, .int .i64 v1] 23))
        have RB_m002_1 := Lib.hid (row_last (w.alloc (.cells #[.int .i64 x0, .int .i64 x1, .int .i64 y0, .int .i64 y1] 23)) (w.heap.size + 1) 23 [.int .i64 u0, .int .i64 u1, .int .i64 v0, .int .i64 v1] (by simp))
        have B_m002_1 := Lib.hid (((Below.refl w.heap.size w).alloc (Nat.le_refl _) (.cells #[.int .i64 x0, .int .i64 x1, .int .i64 y0, .int .i64 y1] 23)).alloc (by have := Nat.le_refl w.heap.size; simp <;> omega) (.cells #[.int .i64 u0, .int .i64 u1, .int .i64 v0, .int .i64 v1] 23))
        generalize ((w.alloc (.cells #[.int .i64 x0, .int .i64 x1, .int .i64 y0, .int .i64 y1] 23)).alloc (.cells #[.int .i64 u0, .int .i64 u1, .int .i64 v0, .int .i64 v1] 23)) = Vm002_1 at RA_m002_1 RB_m002_1 B_m002_1 ⊢
        have cm002_3_0 := RA_m002_1.out.cell 0
        have cm002_3_1 := RA_m002_1.out.cell 1
        have cm002_3_2 := RA_m002_1.out.cell 2
        have cm002_3_3 := RA_m002_1.out.cell 3
        simp only [List.getElem?_cons_zero, List.getElem?_cons_succ] at cm002_3_0 cm002_3_1 cm002_3_2 cm002_3_3
        go_wp2_with fail
        refine (HA.out _).mono ?_
        rintro e Wm002_2 ⟨rfl, hb⟩
        clear cm002_3_0 cm002_3_1 cm002_3_2 cm002_3_3
        have RA_m002_4 := Lib.hid (RA_m002_1.out.below hb RA_m002_1.out.lt)
        have RB_m002_4 := Lib.hid (RB_m002_1.out.below hb RB_m002_1.out.lt)
        have B_m002_4 := Lib.hid (B_m002_1.out.trans (hb.mono B_m002_1.out.size))
        clear hb RA_m002_1 RB_m002_1 B_m002_1
        have cm002_6_0 := RB_m002_4.out.cell 0
        have cm002_6_1 := RB_m002_4.out.cell 1
        have cm002_6_2 := RB_m002_4.out.cell 2
        have cm002_6_3 := RB_m002_4.out.cell 3
        simp only [List.getElem?_cons_zero, List.getElem?_cons_succ] at cm002_6_0 cm002_6_1 cm002_6_2 cm002_6_3
        go_wp2_with fail
        refine (HB.out _).mono ?_
        rintro e Wm002_5 ⟨rfl, hb⟩
        clear cm002_6_0 cm002_6_1 cm002_6_2 cm002_6_3
        have RA_m002_7 := Lib.hid (RA_m002_4.out.below hb RA_m002_4.out.lt)
        have RB_m002_7 := Lib.hid (RB_m002_4.out.below hb RB_m002_4.out.lt)
        have B_m002_7 := Lib.hid (B_m002_4.out.trans (hb.mono B_m002_4.out.size))
        clear hb RA_m002_4 RB_m002_4 B_m002_4
        go_wp2_with fail
        refine wp_region_held_drew (S := fun w' => Row w' (w.heap.size) 23 [.int .i64 x0, .int .i64 x1, .int .i64 y0, .int .i64 y1]) (by kernel_rfl) RA_m002_7.out.drew (fun hHeld => ?_)
        clear hHeld
        have RA_m002_8 := Lib.hid RA_m002_7.out.drew
        have RB_m002_8 := Lib.hid RB_m002_7.out.drew
        have B_m002_8 := Lib.hid B_m002_7.out.drew
        clear RA_m002_7 RB_m002_7 B_m002_7
        generalize Wm002_5.drew = Dm002_8 at RA_m002_8 RB_m002_8 B_m002_8 ⊢
        refine wpAnyH_take (i := 0) (oi := ⟨some 15, _, _, _, _, _⟩) (v := ?vm002_rm002_8_1) rfl (by kernel_rfl) (by kernel_rfl) (by kernel_rfl) (fun _ _ _ h => h) (Or.inl ⟨by rfl, ?ym002_rm002_8_1⟩) RA_m002_8.out ?rm002_rm002_8_1
        case ym002_rm002_8_1 =>
          rintro w' hSw
          go_simp
          try with_reducible rfl
        try simp only [Act.put, List.setIfInBounds_toArray, List.set_cons_zero, List.set_cons_succ]
        refine wpAnyH_take (i := 1) (oi := ⟨some 16, _, _, _, _, _⟩) (v := ?vm002_rm002_8_2) rfl (by kernel_rfl) (by kernel_rfl) (by kernel_rfl) (fun _ _ _ h => h) (Or.inl ⟨by rfl, ?ym002_rm002_8_2⟩) RA_m002_8.out ?rm002_rm002_8_2
        case ym002_rm002_8_2 =>
          rintro w' hSw
          have k0 := (show Row w' _ _ _ from hSw).cell 0
          have k1 := (show Row w' _ _ _ from hSw).cell 1
          have k2 := (show Row w' _ _ _ from hSw).cell 2
          have k3 := (show Row w' _ _ _ from hSw).cell 3
          simp only [List.getElem?_cons_zero, List.getElem?_cons_succ] at k0 k1 k2 k3
          go_simp
          try with_reducible rfl
        try simp only [Act.put, List.setIfInBounds_toArray, List.set_cons_zero, List.set_cons_succ]
        refine wpAnyH_take (i := 2) (oi := ⟨some 17, _, _, _, _, _⟩) (v := ?vm002_rm002_8_3) rfl (by kernel_rfl) (by kernel_rfl) (by kernel_rfl) (fun _ _ _ h => h) (Or.inl ⟨by rfl, ?ym002_rm002_8_3⟩) RA_m002_8.out ?rm002_rm002_8_3
        case ym002_rm002_8_3 =>
          rintro w' hSw
          go_simp
          try with_reducible rfl
        try simp only [Act.put, List.setIfInBounds_toArray, List.set_cons_zero, List.set_cons_succ]
        refine wpAnyH_take (i := 3) (oi := ⟨some 18, _, _, _, _, _⟩) (v := ?vm002_rm002_8_4) rfl (by kernel_rfl) (by kernel_rfl) (by kernel_rfl) (fun _ _ _ h => h) (Or.inl ⟨by rfl, ?ym002_rm002_8_4⟩) RA_m002_8.out ?rm002_rm002_8_4
        case ym002_rm002_8_4 =>
          rintro w' hSw
          have k0 := (show Row w' _ _ _ from hSw).cell 0
          have k1 := (show Row w' _ _ _ from hSw).cell 1
          have k2 := (show Row w' _ _ _ from hSw).cell 2
          have k3 := (show Row w' _ _ _ from hSw).cell 3
          simp only [List.getElem?_cons_zero, List.getElem?_cons_succ] at k0 k1 k2 k3
          go_simp
          try with_reducible rfl
        try simp only [Act.put, List.setIfInBounds_toArray, List.set_cons_zero, List.set_cons_succ]
        refine wpAnyH_take (i := 4) (oi := ⟨some 5, _, _, _, _, _⟩) (v := ?vm002_rm002_8_5) rfl (by kernel_rfl) (by kernel_rfl) (by kernel_rfl) (fun _ _ _ h => h) (Or.inl ⟨by rfl, ?ym002_rm002_8_5⟩) RA_m002_8.out ?rm002_rm002_8_5
        case ym002_rm002_8_5 =>
          rintro w' hSw
          go_simp
          try with_reducible rfl
        try simp only [Act.put, List.setIfInBounds_toArray, List.set_cons_zero, List.set_cons_succ]
        refine wpAnyH_take (i := 5) (oi := ⟨some 6, _, _, _, _, _⟩) (v := ?vm002_rm002_8_6) rfl (by kernel_rfl) (by kernel_rfl) (by kernel_rfl) (fun _ _ _ h => h) (Or.inl ⟨by rfl, ?ym002_rm002_8_6⟩) RA_m002_8.out ?rm002_rm002_8_6
        case ym002_rm002_8_6 =>
          rintro w' hSw
          go_simp
          try with_reducible rfl
        try simp only [Act.put, List.setIfInBounds_toArray, List.set_cons_zero, List.set_cons_succ]
        refine wpAnyH_done (by kernel_rfl) ?_ _
        have cm002_10_0 := RA_m002_8.out.cell 0
        have cm002_10_1 := RA_m002_8.out.cell 1
        have cm002_10_2 := RA_m002_8.out.cell 2
        have cm002_10_3 := RA_m002_8.out.cell 3
        simp only [List.getElem?_cons_zero, List.getElem?_cons_succ] at cm002_10_0 cm002_10_1 cm002_10_2 cm002_10_3
        have cm002_11_0 := RB_m002_8.out.cell 0
        have cm002_11_1 := RB_m002_8.out.cell 1
        have cm002_11_2 := RB_m002_8.out.cell 2
        have cm002_11_3 := RB_m002_8.out.cell 3
        simp only [List.getElem?_cons_zero, List.getElem?_cons_succ] at cm002_11_0 cm002_11_1 cm002_11_2 cm002_11_3
        go_wp2_with fail
        refine (HI1.out _).mono ?_
        rintro e Wm002_9 ⟨rfl, hb⟩
        clear cm002_10_0 cm002_10_1 cm002_10_2 cm002_10_3 cm002_11_0 cm002_11_1 cm002_11_2 cm002_11_3
        have RA_m002_12 := Lib.hid (RA_m002_8.out.below hb RA_m002_8.out.lt)
        have RB_m002_12 := Lib.hid (RB_m002_8.out.below hb RB_m002_8.out.lt)
        have B_m002_12 := Lib.hid (B_m002_8.out.trans (hb.mono B_m002_8.out.size))
        clear hb RA_m002_8 RB_m002_8 B_m002_8
        have cm002_14_0 := RA_m002_12.out.cell 0
        have cm002_14_1 := RA_m002_12.out.cell 1
        have cm002_14_2 := RA_m002_12.out.cell 2
        have cm002_14_3 := RA_m002_12.out.cell 3
        simp only [List.getElem?_cons_zero, List.getElem?_cons_succ] at cm002_14_0 cm002_14_1 cm002_14_2 cm002_14_3
        have cm002_15_0 := RB_m002_12.out.cell 0
        have cm002_15_1 := RB_m002_12.out.cell 1
        have cm002_15_2 := RB_m002_12.out.cell 2
        have cm002_15_3 := RB_m002_12.out.cell 3
        simp only [List.getElem?_cons_zero, List.getElem?_cons_succ] at cm002_15_0 cm002_15_1 cm002_15_2 cm002_15_3
        go_wp2_with fail
        refine (HI2.out _).mono ?_
        rintro e Wm002_13 ⟨rfl, hb⟩
        clear cm002_14_0 cm002_14_1 cm002_14_2 cm002_14_3 cm002_15_0 cm002_15_1 cm002_15_2 cm002_15_3
        have RA_m002_16 := Lib.hid (RA_m002_12.out.below hb RA_m002_12.out.lt)
        have RB_m002_16 := Lib.hid (RB_m002_12.out.below hb RB_m002_12.out.lt)
        have B_m002_16 := Lib.hid (B_m002_12.out.trans (hb.mono B_m002_12.out.size))
        clear hb RA_m002_12 RB_m002_12 B_m002_12
        have cm002_18_0 := RA_m002_16.out.cell 0
        have cm002_18_1 := RA_m002_16.out.cell 1
        have cm002_18_2 := RA_m002_16.out.cell 2
        have cm002_18_3 := RA_m002_16.out.cell 3
        simp only [List.getElem?_cons_zero, List.getElem?_cons_succ] at cm002_18_0 cm002_18_1 cm002_18_2 cm002_18_3
        have cm002_19_0 := RB_m002_16.out.cell 0
        have cm002_19_1 := RB_m002_16.out.cell 1
        have cm002_19_2 := RB_m002_16.out.cell 2
        have cm002_19_3 := RB_m002_16.out.cell 3
        simp only [List.getElem?_cons_zero, List.getElem?_cons_succ] at cm002_19_0 cm002_19_1 cm002_19_2 cm002_19_3
        go_wp2_with fail
        refine (HI3.out _).mono ?_
        rintro e Wm002_17 ⟨rfl, hb⟩
        clear cm002_18_0 cm002_18_1 cm002_18_2 cm002_18_3 cm002_19_0 cm002_19_1 cm002_19_2 cm002_19_3
        have RA_m002_20 := Lib.hid (RA_m002_16.out.below hb RA_m002_16.out.lt)
        have RB_m002_20 := Lib.hid (RB_m002_16.out.below hb RB_m002_16.out.lt)
        have B_m002_20 := Lib.hid (B_m002_16.out.trans (hb.mono B_m002_16.out.size))
        clear hb RA_m002_16 RB_m002_16 B_m002_16
        go_wp2
        go_ret
        exact ⟨rfl, B_m002_20.out⟩
      rw [h2] at HI3
      cases h3 : insideB v0 v1 y0
      · rw [show meetB x0 x1 y0 y1 u0 u1 v0 v1 = false from Bool.eq_false_iff.2 (fun hm => by have hm := (meet_iff _ _ _ _ _ _ _ _).1 hm; have hb0 := box_t g0; have hb1 := box_t g1; have k0 := ins_t h0; have k1 := ins_t h1; have k2 := ins_t h2; have k3 := ins_f h3; omega)]
        rw [h3] at HI4
        clear g0 g1 hx h0 h1 h2 h3
        go_enter Try.func12, Try.ntmps12
        go_upto_region 1 with fail
        have RA_m003_1 := Lib.hid ((row_last w (w.heap.size) 23 [.int .i64 x0, .int .i64 x1, .int .i64 y0, .int .i64 y1] (by simp)).alloc (.cells #[.int .i64 u0, .int .i64 u1, .int .i64 v0, .int .i64 v1] 23))
        have RB_m003_1 := Lib.hid (row_last (w.alloc (.cells #[.int .i64 x0, .int .i64 x1, .int .i64 y0, .int .i64 y1] 23)) (w.heap.size + 1) 23 [.int .i64 u0, .int .i64 u1, .int .i64 v0, .int .i64 v1] (by simp))
        have B_m003_1 := Lib.hid (((Below.refl w.heap.size w).alloc (Nat.le_refl _) (.cells #[.int .i64 x0, .int .i64 x1, .int .i64 y0, .int .i64 y1] 23)).alloc (by have := Nat.le_refl w.heap.size; simp <;> omega) (.cells #[.int .i64 u0, .int .i64 u1, .int .i64 v0, .int .i64 v1] 23))
        generalize ((w.alloc (.cells #[.int .i64 x0, .int .i64 x1, .int .i64 y0, .int .i64 y1] 23)).alloc (.cells #[.int .i64 u0, .int .i64 u1, .int .i64 v0, .int .i64 v1] 23)) = Vm003_1 at RA_m003_1 RB_m003_1 B_m003_1 ⊢
        have cm003_3_0 := RA_m003_1.out.cell 0
        have cm003_3_1 := RA_m003_1.out.cell 1
        have cm003_3_2 := RA_m003_1.out.cell 2
        have cm003_3_3 := RA_m003_1.out.cell 3
        simp only [List.getElem?_cons_zero, List.getElem?_cons_succ] at cm003_3_0 cm003_3_1 cm003_3_2 cm003_3_3
        go_wp2_with fail
        refine (HA.out _).mono ?_
        rintro e Wm003_2 ⟨rfl, hb⟩
        clear cm003_3_0 cm003_3_1 cm003_3_2 cm003_3_3
        have RA_m003_4 := Lib.hid (RA_m003_1.out.below hb RA_m003_1.out.lt)
        have RB_m003_4 := Lib.hid (RB_m003_1.out.below hb RB_m003_1.out.lt)
        have B_m003_4 := Lib.hid (B_m003_1.out.trans (hb.mono B_m003_1.out.size))
        clear hb RA_m003_1 RB_m003_1 B_m003_1
        have cm003_6_0 := RB_m003_4.out.cell 0
        have cm003_6_1 := RB_m003_4.out.cell 1
        have cm003_6_2 := RB_m003_4.out.cell 2
        have cm003_6_3 := RB_m003_4.out.cell 3
        simp only [List.getElem?_cons_zero, List.getElem?_cons_succ] at cm003_6_0 cm003_6_1 cm003_6_2 cm003_6_3
        go_wp2_with fail
        refine (HB.out _).mono ?_
        rintro e Wm003_5 ⟨rfl, hb⟩
        clear cm003_6_0 cm003_6_1 cm003_6_2 cm003_6_3
        have RA_m003_7 := Lib.hid (RA_m003_4.out.below hb RA_m003_4.out.lt)
        have RB_m003_7 := Lib.hid (RB_m003_4.out.below hb RB_m003_4.out.lt)
        have B_m003_7 := Lib.hid (B_m003_4.out.trans (hb.mono B_m003_4.out.size))
        clear hb RA_m003_4 RB_m003_4 B_m003_4
        go_wp2_with fail
        refine wp_region_held_drew (S := fun w' => Row w' (w.heap.size) 23 [.int .i64 x0, .int .i64 x1, .int .i64 y0, .int .i64 y1]) (by kernel_rfl) RA_m003_7.out.drew (fun hHeld => ?_)
        clear hHeld
        have RA_m003_8 := Lib.hid RA_m003_7.out.drew
        have RB_m003_8 := Lib.hid RB_m003_7.out.drew
        have B_m003_8 := Lib.hid B_m003_7.out.drew
        clear RA_m003_7 RB_m003_7 B_m003_7
        generalize Wm003_5.drew = Dm003_8 at RA_m003_8 RB_m003_8 B_m003_8 ⊢
        refine wpAnyH_take (i := 0) (oi := ⟨some 15, _, _, _, _, _⟩) (v := ?vm003_rm003_8_1) rfl (by kernel_rfl) (by kernel_rfl) (by kernel_rfl) (fun _ _ _ h => h) (Or.inl ⟨by rfl, ?ym003_rm003_8_1⟩) RA_m003_8.out ?rm003_rm003_8_1
        case ym003_rm003_8_1 =>
          rintro w' hSw
          go_simp
          try with_reducible rfl
        try simp only [Act.put, List.setIfInBounds_toArray, List.set_cons_zero, List.set_cons_succ]
        refine wpAnyH_take (i := 1) (oi := ⟨some 16, _, _, _, _, _⟩) (v := ?vm003_rm003_8_2) rfl (by kernel_rfl) (by kernel_rfl) (by kernel_rfl) (fun _ _ _ h => h) (Or.inl ⟨by rfl, ?ym003_rm003_8_2⟩) RA_m003_8.out ?rm003_rm003_8_2
        case ym003_rm003_8_2 =>
          rintro w' hSw
          have k0 := (show Row w' _ _ _ from hSw).cell 0
          have k1 := (show Row w' _ _ _ from hSw).cell 1
          have k2 := (show Row w' _ _ _ from hSw).cell 2
          have k3 := (show Row w' _ _ _ from hSw).cell 3
          simp only [List.getElem?_cons_zero, List.getElem?_cons_succ] at k0 k1 k2 k3
          go_simp
          try with_reducible rfl
        try simp only [Act.put, List.setIfInBounds_toArray, List.set_cons_zero, List.set_cons_succ]
        refine wpAnyH_take (i := 2) (oi := ⟨some 17, _, _, _, _, _⟩) (v := ?vm003_rm003_8_3) rfl (by kernel_rfl) (by kernel_rfl) (by kernel_rfl) (fun _ _ _ h => h) (Or.inl ⟨by rfl, ?ym003_rm003_8_3⟩) RA_m003_8.out ?rm003_rm003_8_3
        case ym003_rm003_8_3 =>
          rintro w' hSw
          go_simp
          try with_reducible rfl
        try simp only [Act.put, List.setIfInBounds_toArray, List.set_cons_zero, List.set_cons_succ]
        refine wpAnyH_take (i := 3) (oi := ⟨some 18, _, _, _, _, _⟩) (v := ?vm003_rm003_8_4) rfl (by kernel_rfl) (by kernel_rfl) (by kernel_rfl) (fun _ _ _ h => h) (Or.inl ⟨by rfl, ?ym003_rm003_8_4⟩) RA_m003_8.out ?rm003_rm003_8_4
        case ym003_rm003_8_4 =>
          rintro w' hSw
          have k0 := (show Row w' _ _ _ from hSw).cell 0
          have k1 := (show Row w' _ _ _ from hSw).cell 1
          have k2 := (show Row w' _ _ _ from hSw).cell 2
          have k3 := (show Row w' _ _ _ from hSw).cell 3
          simp only [List.getElem?_cons_zero, List.getElem?_cons_succ] at k0 k1 k2 k3
          go_simp
          try with_reducible rfl
        try simp only [Act.put, List.setIfInBounds_toArray, List.set_cons_zero, List.set_cons_succ]
        refine wpAnyH_take (i := 4) (oi := ⟨some 5, _, _, _, _, _⟩) (v := ?vm003_rm003_8_5) rfl (by kernel_rfl) (by kernel_rfl) (by kernel_rfl) (fun _ _ _ h => h) (Or.inl ⟨by rfl, ?ym003_rm003_8_5⟩) RA_m003_8.out ?rm003_rm003_8_5
        case ym003_rm003_8_5 =>
          rintro w' hSw
          go_simp
          try with_reducible rfl
        try simp only [Act.put, List.setIfInBounds_toArray, List.set_cons_zero, List.set_cons_succ]
        refine wpAnyH_take (i := 5) (oi := ⟨some 6, _, _, _, _, _⟩) (v := ?vm003_rm003_8_6) rfl (by kernel_rfl) (by kernel_rfl) (by kernel_rfl) (fun _ _ _ h => h) (Or.inl ⟨by rfl, ?ym003_rm003_8_6⟩) RA_m003_8.out ?rm003_rm003_8_6
        case ym003_rm003_8_6 =>
          rintro w' hSw
          go_simp
          try with_reducible rfl
        try simp only [Act.put, List.setIfInBounds_toArray, List.set_cons_zero, List.set_cons_succ]
        refine wpAnyH_done (by kernel_rfl) ?_ _
        have cm003_10_0 := RA_m003_8.out.cell 0
        have cm003_10_1 := RA_m003_8.out.cell 1
        have cm003_10_2 := RA_m003_8.out.cell 2
        have cm003_10_3 := RA_m003_8.out.cell 3
        simp only [List.getElem?_cons_zero, List.getElem?_cons_succ] at cm003_10_0 cm003_10_1 cm003_10_2 cm003_10_3
        have cm003_11_0 := RB_m003_8.out.cell 0
        have cm003_11_1 := RB_m003_8.out.cell 1
        have cm003_11_2 := RB_m003_8.out.cell 2
        have cm003_11_3 := RB_m003_8.out.cell 3
        simp only [List.getElem?_cons_zero, List.getElem?_cons_succ] at cm003_11_0 cm003_11_1 cm003_11_2 cm003_11_3
        go_wp2_with fail
        refine (HI1.out _).mono ?_
        rintro e Wm003_9 ⟨rfl, hb⟩
        clear cm003_10_0 cm003_10_1 cm003_10_2 cm003_10_3 cm003_11_0 cm003_11_1 cm003_11_2 cm003_11_3
        have RA_m003_12 := Lib.hid (RA_m003_8.out.below hb RA_m003_8.out.lt)
        have RB_m003_12 := Lib.hid (RB_m003_8.out.below hb RB_m003_8.out.lt)
        have B_m003_12 := Lib.hid (B_m003_8.out.trans (hb.mono B_m003_8.out.size))
        clear hb RA_m003_8 RB_m003_8 B_m003_8
        have cm003_14_0 := RA_m003_12.out.cell 0
        have cm003_14_1 := RA_m003_12.out.cell 1
        have cm003_14_2 := RA_m003_12.out.cell 2
        have cm003_14_3 := RA_m003_12.out.cell 3
        simp only [List.getElem?_cons_zero, List.getElem?_cons_succ] at cm003_14_0 cm003_14_1 cm003_14_2 cm003_14_3
        have cm003_15_0 := RB_m003_12.out.cell 0
        have cm003_15_1 := RB_m003_12.out.cell 1
        have cm003_15_2 := RB_m003_12.out.cell 2
        have cm003_15_3 := RB_m003_12.out.cell 3
        simp only [List.getElem?_cons_zero, List.getElem?_cons_succ] at cm003_15_0 cm003_15_1 cm003_15_2 cm003_15_3
        go_wp2_with fail
        refine (HI2.out _).mono ?_
        rintro e Wm003_13 ⟨rfl, hb⟩
        clear cm003_14_0 cm003_14_1 cm003_14_2 cm003_14_3 cm003_15_0 cm003_15_1 cm003_15_2 cm003_15_3
        have RA_m003_16 := Lib.hid (RA_m003_12.out.below hb RA_m003_12.out.lt)
        have RB_m003_16 := Lib.hid (RB_m003_12.out.below hb RB_m003_12.out.lt)
        have B_m003_16 := Lib.hid (B_m003_12.out.trans (hb.mono B_m003_12.out.size))
        clear hb RA_m003_12 RB_m003_12 B_m003_12
        have cm003_18_0 := RA_m003_16.out.cell 0
        have cm003_18_1 := RA_m003_16.out.cell 1
        have cm003_18_2 := RA_m003_16.out.cell 2
        have cm003_18_3 := RA_m003_16.out.cell 3
        simp only [List.getElem?_cons_zero, List.getElem?_cons_succ] at cm003_18_0 cm003_18_1 cm003_18_2 cm003_18_3
        have cm003_19_0 := RB_m003_16.out.cell 0
        have cm003_19_1 := RB_m003_16.out.cell 1
        have cm003_19_2 := RB_m003_16.out.cell 2
        have cm003_19_3 := RB_m003_16.out.cell 3
        simp only [List.getElem?_cons_zero, List.getElem?_cons_succ] at cm003_19_0 cm003_19_1 cm003_19_2 cm003_19_3
        go_wp2_with fail
        refine (HI3.out _).mono ?_
        rintro e Wm003_17 ⟨rfl, hb⟩
        clear cm003_18_0 cm003_18_1 cm003_18_2 cm003_18_3 cm003_19_0 cm003_19_1 cm003_19_2 cm003_19_3
        have RA_m003_20 := Lib.hid (RA_m003_16.out.below hb RA_m003_16.out.lt)
        have RB_m003_20 := Lib.hid (RB_m003_16.out.below hb RB_m003_16.out.lt)
        have B_m003_20 := Lib.hid (B_m003_16.out.trans (hb.mono B_m003_16.out.size))
        clear hb RA_m003_16 RB_m003_16 B_m003_16
        have cm003_22_0 := RA_m003_20.out.cell 0
        have cm003_22_1 := RA_m003_20.out.cell 1
        have cm003_22_2 := RA_m003_20.out.cell 2
        have cm003_22_3 := RA_m003_20.out.cell 3
        simp only [List.getElem?_cons_zero, List.getElem?_cons_succ] at cm003_22_0 cm003_22_1 cm003_22_2 cm003_22_3
        have cm003_23_0 := RB_m003_20.out.cell 0
        have cm003_23_1 := RB_m003_20.out.cell 1
        have cm003_23_2 := RB_m003_20.out.cell 2
        have cm003_23_3 := RB_m003_20.out.cell 3
        simp only [List.getElem?_cons_zero, List.getElem?_cons_succ] at cm003_23_0 cm003_23_1 cm003_23_2 cm003_23_3
        go_wp2_with fail
        refine (HI4.out _).mono ?_
        rintro e Wm003_21 ⟨rfl, hb⟩
        clear cm003_22_0 cm003_22_1 cm003_22_2 cm003_22_3 cm003_23_0 cm003_23_1 cm003_23_2 cm003_23_3
        have RA_m003_24 := Lib.hid (RA_m003_20.out.below hb RA_m003_20.out.lt)
        have RB_m003_24 := Lib.hid (RB_m003_20.out.below hb RB_m003_20.out.lt)
        have B_m003_24 := Lib.hid (B_m003_20.out.trans (hb.mono B_m003_20.out.size))
        clear hb RA_m003_20 RB_m003_20 B_m003_20
        go_wp2
        go_ret
        exact ⟨rfl, B_m003_24.out⟩
      rw [h3] at HI4
      rw [show meetB x0 x1 y0 y1 u0 u1 v0 v1 = true from (meet_iff _ _ _ _ _ _ _ _).2 (by have hb0 := box_t g0; have hb1 := box_t g1; have k0 := ins_t h0; have k1 := ins_t h1; have k2 := ins_t h2; have k3 := ins_t h3; omega)]
      clear h0 h1 h2 h3 g0 g1 hx
      go_enter Try.func12, Try.ntmps12
      go_upto_region 1 with fail
      have RA_m004_1 := Lib.hid ((row_last w (w.heap.size) 23 [.int .i64 x0, .int .i64 x1, .int .i64 y0, .int .i64 y1] (by simp)).alloc (.cells #[.int .i64 u0, .int .i64 u1, .int .i64 v0, .int .i64 v1] 23))
      have RB_m004_1 := Lib.hid (row_last (w.alloc (.cells #[.int .i64 x0, .int .i64 x1, .int .i64 y0, .int .i64 y1] 23)) (w.heap.size + 1) 23 [.int .i64 u0, .int .i64 u1, .int .i64 v0, .int .i64 v1] (by simp))
      have B_m004_1 := Lib.hid (((Below.refl w.heap.size w).alloc (Nat.le_refl _) (.cells #[.int .i64 x0, .int .i64 x1, .int .i64 y0, .int .i64 y1] 23)).alloc (by have := Nat.le_refl w.heap.size; simp <;> omega) (.cells #[.int .i64 u0, .int .i64 u1, .int .i64 v0, .int .i64 v1] 23))
      generalize ((w.alloc (.cells #[.int .i64 x0, .int .i64 x1, .int .i64 y0, .int .i64 y1] 23)).alloc (.cells #[.int .i64 u0, .int .i64 u1, .int .i64 v0, .int .i64 v1] 23)) = Vm004_1 at RA_m004_1 RB_m004_1 B_m004_1 ⊢
      have cm004_3_0 := RA_m004_1.out.cell 0
      have cm004_3_1 := RA_m004_1.out.cell 1
      have cm004_3_2 := RA_m004_1.out.cell 2
      have cm004_3_3 := RA_m004_1.out.cell 3
      simp only [List.getElem?_cons_zero, List.getElem?_cons_succ] at cm004_3_0 cm004_3_1 cm004_3_2 cm004_3_3
      go_wp2_with fail
      refine (HA.out _).mono ?_
      rintro e Wm004_2 ⟨rfl, hb⟩
      clear cm004_3_0 cm004_3_1 cm004_3_2 cm004_3_3
      have RA_m004_4 := Lib.hid (RA_m004_1.out.below hb RA_m004_1.out.lt)
      have RB_m004_4 := Lib.hid (RB_m004_1.out.below hb RB_m004_1.out.lt)
      have B_m004_4 := Lib.hid (B_m004_1.out.trans (hb.mono B_m004_1.out.size))
      clear hb RA_m004_1 RB_m004_1 B_m004_1
      have cm004_6_0 := RB_m004_4.out.cell 0
      have cm004_6_1 := RB_m004_4.out.cell 1
      have cm004_6_2 := RB_m004_4.out.cell 2
      have cm004_6_3 := RB_m004_4.out.cell 3
      simp only [List.getElem?_cons_zero, List.getElem?_cons_succ] at cm004_6_0 cm004_6_1 cm004_6_2 cm004_6_3
      go_wp2_with fail
      refine (HB.out _).mono ?_
      rintro e Wm004_5 ⟨rfl, hb⟩
      clear cm004_6_0 cm004_6_1 cm004_6_2 cm004_6_3
      have RA_m004_7 := Lib.hid (RA_m004_4.out.below hb RA_m004_4.out.lt)
      have RB_m004_7 := Lib.hid (RB_m004_4.out.below hb RB_m004_4.out.lt)
      have B_m004_7 := Lib.hid (B_m004_4.out.trans (hb.mono B_m004_4.out.size))
      clear hb RA_m004_4 RB_m004_4 B_m004_4
      go_wp2_with fail
      refine wp_region_held_drew (S := fun w' => Row w' (w.heap.size) 23 [.int .i64 x0, .int .i64 x1, .int .i64 y0, .int .i64 y1]) (by kernel_rfl) RA_m004_7.out.drew (fun hHeld => ?_)
      clear hHeld
      have RA_m004_8 := Lib.hid RA_m004_7.out.drew
      have RB_m004_8 := Lib.hid RB_m004_7.out.drew
      have B_m004_8 := Lib.hid B_m004_7.out.drew
      clear RA_m004_7 RB_m004_7 B_m004_7
      generalize Wm004_5.drew = Dm004_8 at RA_m004_8 RB_m004_8 B_m004_8 ⊢
      refine wpAnyH_take (i := 0) (oi := ⟨some 15, _, _, _, _, _⟩) (v := ?vm004_rm004_8_1) rfl (by kernel_rfl) (by kernel_rfl) (by kernel_rfl) (fun _ _ _ h => h) (Or.inl ⟨by rfl, ?ym004_rm004_8_1⟩) RA_m004_8.out ?rm004_rm004_8_1
      case ym004_rm004_8_1 =>
        rintro w' hSw
        go_simp
        try with_reducible rfl
      try simp only [Act.put, List.setIfInBounds_toArray, List.set_cons_zero, List.set_cons_succ]
      refine wpAnyH_take (i := 1) (oi := ⟨some 16, _, _, _, _, _⟩) (v := ?vm004_rm004_8_2) rfl (by kernel_rfl) (by kernel_rfl) (by kernel_rfl) (fun _ _ _ h => h) (Or.inl ⟨by rfl, ?ym004_rm004_8_2⟩) RA_m004_8.out ?rm004_rm004_8_2
      case ym004_rm004_8_2 =>
        rintro w' hSw
        have k0 := (show Row w' _ _ _ from hSw).cell 0
        have k1 := (show Row w' _ _ _ from hSw).cell 1
        have k2 := (show Row w' _ _ _ from hSw).cell 2
        have k3 := (show Row w' _ _ _ from hSw).cell 3
        simp only [List.getElem?_cons_zero, List.getElem?_cons_succ] at k0 k1 k2 k3
        go_simp
        try with_reducible rfl
      try simp only [Act.put, List.setIfInBounds_toArray, List.set_cons_zero, List.set_cons_succ]
      refine wpAnyH_take (i := 2) (oi := ⟨some 17, _, _, _, _, _⟩) (v := ?vm004_rm004_8_3) rfl (by kernel_rfl) (by kernel_rfl) (by kernel_rfl) (fun _ _ _ h => h) (Or.inl ⟨by rfl, ?ym004_rm004_8_3⟩) RA_m004_8.out ?rm004_rm004_8_3
      case ym004_rm004_8_3 =>
        rintro w' hSw
        go_simp
        try with_reducible rfl
      try simp only [Act.put, List.setIfInBounds_toArray, List.set_cons_zero, List.set_cons_succ]
      refine wpAnyH_take (i := 3) (oi := ⟨some 18, _, _, _, _, _⟩) (v := ?vm004_rm004_8_4) rfl (by kernel_rfl) (by kernel_rfl) (by kernel_rfl) (fun _ _ _ h => h) (Or.inl ⟨by rfl, ?ym004_rm004_8_4⟩) RA_m004_8.out ?rm004_rm004_8_4
      case ym004_rm004_8_4 =>
        rintro w' hSw
        have k0 := (show Row w' _ _ _ from hSw).cell 0
        have k1 := (show Row w' _ _ _ from hSw).cell 1
        have k2 := (show Row w' _ _ _ from hSw).cell 2
        have k3 := (show Row w' _ _ _ from hSw).cell 3
        simp only [List.getElem?_cons_zero, List.getElem?_cons_succ] at k0 k1 k2 k3
        go_simp
        try with_reducible rfl
      try simp only [Act.put, List.setIfInBounds_toArray, List.set_cons_zero, List.set_cons_succ]
      refine wpAnyH_take (i := 4) (oi := ⟨some 5, _, _, _, _, _⟩) (v := ?vm004_rm004_8_5) rfl (by kernel_rfl) (by kernel_rfl) (by kernel_rfl) (fun _ _ _ h => h) (Or.inl ⟨by rfl, ?ym004_rm004_8_5⟩) RA_m004_8.out ?rm004_rm004_8_5
      case ym004_rm004_8_5 =>
        rintro w' hSw
        go_simp
        try with_reducible rfl
      try simp only [Act.put, List.setIfInBounds_toArray, List.set_cons_zero, List.set_cons_succ]
      refine wpAnyH_take (i := 5) (oi := ⟨some 6, _, _, _, _, _⟩) (v := ?vm004_rm004_8_6) rfl (by kernel_rfl) (by kernel_rfl) (by kernel_rfl) (fun _ _ _ h => h) (Or.inl ⟨by rfl, ?ym004_rm004_8_6⟩) RA_m004_8.out ?rm004_rm004_8_6
      case ym004_rm004_8_6 =>
        rintro w' hSw
        go_simp
        try with_reducible rfl
      try simp only [Act.put, List.setIfInBounds_toArray, List.set_cons_zero, List.set_cons_succ]
      refine wpAnyH_done (by kernel_rfl) ?_ _
      have cm004_10_0 := RA_m004_8.out.cell 0
      have cm004_10_1 := RA_m004_8.out.cell 1
      have cm004_10_2 := RA_m004_8.out.cell 2
      have cm004_10_3 := RA_m004_8.out.cell 3
      simp only [List.getElem?_cons_zero, List.getElem?_cons_succ] at cm004_10_0 cm004_10_1 cm004_10_2 cm004_10_3
      have cm004_11_0 := RB_m004_8.out.cell 0
      have cm004_11_1 := RB_m004_8.out.cell 1
      have cm004_11_2 := RB_m004_8.out.cell 2
      have cm004_11_3 := RB_m004_8.out.cell 3
      simp only [List.getElem?_cons_zero, List.getElem?_cons_succ] at cm004_11_0 cm004_11_1 cm004_11_2 cm004_11_3
      go_wp2_with fail
      refine (HI1.out _).mono ?_
      rintro e Wm004_9 ⟨rfl, hb⟩
      clear cm004_10_0 cm004_10_1 cm004_10_2 cm004_10_3 cm004_11_0 cm004_11_1 cm004_11_2 cm004_11_3
      have RA_m004_12 := Lib.hid (RA_m004_8.out.below hb RA_m004_8.out.lt)
      have RB_m004_12 := Lib.hid (RB_m004_8.out.below hb RB_m004_8.out.lt)
      have B_m004_12 := Lib.hid (B_m004_8.out.trans (hb.mono B_m004_8.out.size))
      clear hb RA_m004_8 RB_m004_8 B_m004_8
      have cm004_14_0 := RA_m004_12.out.cell 0
      have cm004_14_1 := RA_m004_12.out.cell 1
      have cm004_14_2 := RA_m004_12.out.cell 2
      have cm004_14_3 := RA_m004_12.out.cell 3
      simp only [List.getElem?_cons_zero, List.getElem?_cons_succ] at cm004_14_0 cm004_14_1 cm004_14_2 cm004_14_3
      have cm004_15_0 := RB_m004_12.out.cell 0
      have cm004_15_1 := RB_m004_12.out.cell 1
      have cm004_15_2 := RB_m004_12.out.cell 2
      have cm004_15_3 := RB_m004_12.out.cell 3
      simp only [List.getElem?_cons_zero, List.getElem?_cons_succ] at cm004_15_0 cm004_15_1 cm004_15_2 cm004_15_3
      go_wp2_with fail
      refine (HI2.out _).mono ?_
      rintro e Wm004_13 ⟨rfl, hb⟩
      clear cm004_14_0 cm004_14_1 cm004_14_2 cm004_14_3 cm004_15_0 cm004_15_1 cm004_15_2 cm004_15_3
      have RA_m004_16 := Lib.hid (RA_m004_12.out.below hb RA_m004_12.out.lt)
      have RB_m004_16 := Lib.hid (RB_m004_12.out.below hb RB_m004_12.out.lt)
      have B_m004_16 := Lib.hid (B_m004_12.out.trans (hb.mono B_m004_12.out.size))
      clear hb RA_m004_12 RB_m004_12 B_m004_12
      have cm004_18_0 := RA_m004_16.out.cell 0
      have cm004_18_1 := RA_m004_16.out.cell 1
      have cm004_18_2 := RA_m004_16.out.cell 2
      have cm004_18_3 := RA_m004_16.out.cell 3
      simp only [List.getElem?_cons_zero, List.getElem?_cons_succ] at cm004_18_0 cm004_18_1 cm004_18_2 cm004_18_3
      have cm004_19_0 := RB_m004_16.out.cell 0
      have cm004_19_1 := RB_m004_16.out.cell 1
      have cm004_19_2 := RB_m004_16.out.cell 2
      have cm004_19_3 := RB_m004_16.out.cell 3
      simp only [List.getElem?_cons_zero, List.getElem?_cons_succ] at cm004_19_0 cm004_19_1 cm004_19_2 cm004_19_3
      go_wp2_with fail
      refine (HI3.out _).mono ?_
      rintro e Wm004_17 ⟨rfl, hb⟩
      clear cm004_18_0 cm004_18_1 cm004_18_2 cm004_18_3 cm004_19_0 cm004_19_1 cm004_19_2 cm004_19_3
      have RA_m004_20 := Lib.hid (RA_m004_16.out.below hb RA_m004_16.out.lt)
      have RB_m004_20 := Lib.hid (RB_m004_16.out.below hb RB_m004_16.out.lt)
      have B_m004_20 := Lib.hid (B_m004_16.out.trans (hb.mono B_m004_16.out.size))
      clear hb RA_m004_16 RB_m004_16 B_m004_16
      have cm004_22_0 := RA_m004_20.out.cell 0
      have cm004_22_1 := RA_m004_20.out.cell 1
      have cm004_22_2 := RA_m004_20.out.cell 2
      have cm004_22_3 := RA_m004_20.out.cell 3
      simp only [List.getElem?_cons_zero, List.getElem?_cons_succ] at cm004_22_0 cm004_22_1 cm004_22_2 cm004_22_3
      have cm004_23_0 := RB_m004_20.out.cell 0
      have cm004_23_1 := RB_m004_20.out.cell 1
      have cm004_23_2 := RB_m004_20.out.cell 2
      have cm004_23_3 := RB_m004_20.out.cell 3
      simp only [List.getElem?_cons_zero, List.getElem?_cons_succ] at cm004_23_0 cm004_23_1 cm004_23_2 cm004_23_3
      go_wp2_with fail
      refine (HI4.out _).mono ?_
      rintro e Wm004_21 ⟨rfl, hb⟩
      clear cm004_22_0 cm004_22_1 cm004_22_2 cm004_22_3 cm004_23_0 cm004_23_1 cm004_23_2 cm004_23_3
      have RA_m004_24 := Lib.hid (RA_m004_20.out.below hb RA_m004_20.out.lt)
      have RB_m004_24 := Lib.hid (RB_m004_20.out.below hb RB_m004_20.out.lt)
      have B_m004_24 := Lib.hid (B_m004_20.out.trans (hb.mono B_m004_20.out.size))
      clear hb RA_m004_20 RB_m004_20 B_m004_20
      go_wp2
      go_ret
      exact ⟨rfl, B_m004_24.out⟩
end Go.Proofs.Ytbmfijcckdkmdaa.Ky
