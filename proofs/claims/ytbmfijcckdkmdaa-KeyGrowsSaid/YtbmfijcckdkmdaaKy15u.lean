/-
  Keys: the reference's Meets, Covers, Union.
-/
import Derived.Test.YtbmfijcckdkmdaaKy14
import Derived.LoopTactic
import Derived.Deep.RegionHeld
import Derived.Deep.Cut
import Derived.WalkLawsBesides
namespace Go.Proofs.Ytbmfijcckdkmdaa.Ky
set_option maxRecDepth 100000
open Go.RowKit Go.Proofs.Ytbmfijcckdkmdaa.Wd Go.Proofs.Ytbmfijcckdkmdaa.Wi Go.Proofs.Ytbmfijcckdkmdaa.Lift


set_option maxHeartbeats 8000000 in
theorem Union_ref (x0 x1 y0 y1 u0 u1 v0 v1 : Int) (w : World) : Calls Try.prog 16 #[KV x0 x1 y0 y1, KV u0 u1 v0 v1] w fun e w' => e = .returned (unionV x0 x1 y0 y1 u0 u1 v0 v1) ∧ Below w.heap.size w w' := by
  have HA := Lib.hid (Box_ref x0 x1 y0 y1)
  have HB := Lib.hid (Box_ref u0 u1 v0 v1)
  cases ha : boxB x0 x1 y0 y1
  · have e : unionV x0 x1 y0 y1 u0 u1 v0 v1 = KV 0 0 0 0 := by unfold unionV; rw [ha, Bool.false_and, if_neg (by decide)]
    rw [e]
    rw [ha] at HA
    clear e
    go_enter Try.func16, Try.ntmps16
    go_upto_region 1 with fail
    have RA_a1 := Lib.hid (((row_last w (w.heap.size) 23 [.int .i64 x0, .int .i64 x1, .int .i64 y0, .int .i64 y1] (by simp)).alloc (.cells #[.int .i64 u0, .int .i64 u1, .int .i64 v0, .int .i64 v1] 23)).alloc (.cells #[.int .i64 0, .int .i64 0, .int .i64 0, .int .i64 0] 23))
    have RB_a1 := Lib.hid ((row_last (w.alloc (.cells #[.int .i64 x0, .int .i64 x1, .int .i64 y0, .int .i64 y1] 23)) (w.heap.size + 1) 23 [.int .i64 u0, .int .i64 u1, .int .i64 v0, .int .i64 v1] (by simp)).alloc (.cells #[.int .i64 0, .int .i64 0, .int .i64 0, .int .i64 0] 23))
    have RC_a1 := Lib.hid (row_last ((w.alloc (.cells #[.int .i64 x0, .int .i64 x1, .int .i64 y0, .int .i64 y1] 23)).alloc (.cells #[.int .i64 u0, .int .i64 u1, .int .i64 v0, .int .i64 v1] 23)) (w.heap.size + 1 + 1) 23 [.int .i64 0, .int .i64 0, .int .i64 0, .int .i64 0] (by simp))
    have B_a1 := Lib.hid ((((Below.refl w.heap.size w).alloc (Nat.le_refl _) (.cells #[.int .i64 x0, .int .i64 x1, .int .i64 y0, .int .i64 y1] 23)).alloc (by have := Nat.le_refl w.heap.size; simp <;> omega) (.cells #[.int .i64 u0, .int .i64 u1, .int .i64 v0, .int .i64 v1] 23)).alloc (by have := Nat.le_refl w.heap.size; simp <;> omega) (.cells #[.int .i64 0, .int .i64 0, .int .i64 0, .int .i64 0] 23))
    generalize (((w.alloc (.cells #[.int .i64 x0, .int .i64 x1, .int .i64 y0, .int .i64 y1] 23)).alloc (.cells #[.int .i64 u0, .int .i64 u1, .int .i64 v0, .int .i64 v1] 23)).alloc (.cells #[.int .i64 0, .int .i64 0, .int .i64 0, .int .i64 0] 23)) = Va1 at RA_a1 RB_a1 RC_a1 B_a1 ⊢
    have ca3_0 := RA_a1.out.cell 0
    have ca3_1 := RA_a1.out.cell 1
    have ca3_2 := RA_a1.out.cell 2
    have ca3_3 := RA_a1.out.cell 3
    simp only [List.getElem?_cons_zero, List.getElem?_cons_succ] at ca3_0 ca3_1 ca3_2 ca3_3
    go_wp2_with fail
    refine (HA.out _).mono ?_
    rintro e Wa2 ⟨rfl, hb⟩
    clear ca3_0 ca3_1 ca3_2 ca3_3
    have RA_a4 := Lib.hid (RA_a1.out.below hb RA_a1.out.lt)
    have RB_a4 := Lib.hid (RB_a1.out.below hb RB_a1.out.lt)
    have RC_a4 := Lib.hid (RC_a1.out.below hb RC_a1.out.lt)
    have B_a4 := Lib.hid (B_a1.out.trans (hb.mono B_a1.out.size))
    clear hb RA_a1 RB_a1 RC_a1 B_a1
    have ca5_0 := RC_a4.out.cell 0
    have ca5_1 := RC_a4.out.cell 1
    have ca5_2 := RC_a4.out.cell 2
    have ca5_3 := RC_a4.out.cell 3
    simp only [List.getElem?_cons_zero, List.getElem?_cons_succ] at ca5_0 ca5_1 ca5_2 ca5_3
    have fa5_0 := RC_a4.out.frozen 0
    have fa5_1 := RC_a4.out.frozen 1
    have fa5_2 := RC_a4.out.frozen 2
    have fa5_3 := RC_a4.out.frozen 3
    go_wp2
    exact bodyPost_ret (v := KV 0 0 0 0) (by simp [results, Try.results16, go_sem, *]) rfl ⟨rfl, by repeat (first | exact B_a4.out | refine Below.setCell ?_ (by first | omega | (simp; done) | (simp; omega)) _ | refine Below.alloc ?_ (by have := B_a4.out.size; first | omega | (simp; done) | (simp; omega)) _)⟩
  cases hb : boxB u0 u1 v0 v1
  · have e : unionV x0 x1 y0 y1 u0 u1 v0 v1 = KV 0 0 0 0 := by unfold unionV; rw [ha, hb, Bool.and_false, if_neg (by decide)]
    rw [e]
    rw [ha] at HA
    rw [hb] at HB
    clear e
    go_enter Try.func16, Try.ntmps16
    go_upto_region 1 with fail
    have RA_b1 := Lib.hid (((row_last w (w.heap.size) 23 [.int .i64 x0, .int .i64 x1, .int .i64 y0, .int .i64 y1] (by simp)).alloc (.cells #[.int .i64 u0, .int .i64 u1, .int .i64 v0, .int .i64 v1] 23)).alloc (.cells #[.int .i64 0, .int .i64 0, .int .i64 0, .int .i64 0] 23))
    have RB_b1 := Lib.hid ((row_last (w.alloc (.cells #[.int .i64 x0, .int .i64 x1, .int .i64 y0, .int .i64 y1] 23)) (w.heap.size + 1) 23 [.int .i64 u0, .int .i64 u1, .int .i64 v0, .int .i64 v1] (by simp)).alloc (.cells #[.int .i64 0, .int .i64 0, .int .i64 0, .int .i64 0] 23))
    have RC_b1 := Lib.hid (row_last ((w.alloc (.cells #[.int .i64 x0, .int .i64 x1, .int .i64 y0, .int .i64 y1] 23)).alloc (.cells #[.int .i64 u0, .int .i64 u1, .int .i64 v0, .int .i64 v1] 23)) (w.heap.size + 1 + 1) 23 [.int .i64 0, .int .i64 0, .int .i64 0, .int .i64 0] (by simp))
    have B_b1 := Lib.hid ((((Below.refl w.heap.size w).alloc (Nat.le_refl _) (.cells #[.int .i64 x0, .int .i64 x1, .int .i64 y0, .int .i64 y1] 23)).alloc (by have := Nat.le_refl w.heap.size; simp <;> omega) (.cells #[.int .i64 u0, .int .i64 u1, .int .i64 v0, .int .i64 v1] 23)).alloc (by have := Nat.le_refl w.heap.size; simp <;> omega) (.cells #[.int .i64 0, .int .i64 0, .int .i64 0, .int .i64 0] 23))
    generalize (((w.alloc (.cells #[.int .i64 x0, .int .i64 x1, .int .i64 y0, .int .i64 y1] 23)).alloc (.cells #[.int .i64 u0, .int .i64 u1, .int .i64 v0, .int .i64 v1] 23)).alloc (.cells #[.int .i64 0, .int .i64 0, .int .i64 0, .int .i64 0] 23)) = Vb1 at RA_b1 RB_b1 RC_b1 B_b1 ⊢
    have cb3_0 := RA_b1.out.cell 0
    have cb3_1 := RA_b1.out.cell 1
    have cb3_2 := RA_b1.out.cell 2
    have cb3_3 := RA_b1.out.cell 3
    simp only [List.getElem?_cons_zero, List.getElem?_cons_succ] at cb3_0 cb3_1 cb3_2 cb3_3
    go_wp2_with fail
    refine (HA.out _).mono ?_
    rintro e Wb2 ⟨rfl, hb⟩
    clear cb3_0 cb3_1 cb3_2 cb3_3
    have RA_b4 := Lib.hid (RA_b1.out.below hb RA_b1.out.lt)
    have RB_b4 := Lib.hid (RB_b1.out.below hb RB_b1.out.lt)
    have RC_b4 := Lib.hid (RC_b1.out.below hb RC_b1.out.lt)
    have B_b4 := Lib.hid (B_b1.out.trans (hb.mono B_b1.out.size))
    clear hb RA_b1 RB_b1 RC_b1 B_b1
    have cb6_0 := RB_b4.out.cell 0
    have cb6_1 := RB_b4.out.cell 1
    have cb6_2 := RB_b4.out.cell 2
    have cb6_3 := RB_b4.out.cell 3
    simp only [List.getElem?_cons_zero, List.getElem?_cons_succ] at cb6_0 cb6_1 cb6_2 cb6_3
    go_wp2_with fail
    refine (HB.out _).mono ?_
    rintro e Wb5 ⟨rfl, hb⟩
    clear cb6_0 cb6_1 cb6_2 cb6_3
    have RA_b7 := Lib.hid (RA_b4.out.below hb RA_b4.out.lt)
    have RB_b7 := Lib.hid (RB_b4.out.below hb RB_b4.out.lt)
    have RC_b7 := Lib.hid (RC_b4.out.below hb RC_b4.out.lt)
    have B_b7 := Lib.hid (B_b4.out.trans (hb.mono B_b4.out.size))
    clear hb RA_b4 RB_b4 RC_b4 B_b4
    have cb8_0 := RC_b7.out.cell 0
    have cb8_1 := RC_b7.out.cell 1
    have cb8_2 := RC_b7.out.cell 2
    have cb8_3 := RC_b7.out.cell 3
    simp only [List.getElem?_cons_zero, List.getElem?_cons_succ] at cb8_0 cb8_1 cb8_2 cb8_3
    have fb8_0 := RC_b7.out.frozen 0
    have fb8_1 := RC_b7.out.frozen 1
    have fb8_2 := RC_b7.out.frozen 2
    have fb8_3 := RC_b7.out.frozen 3
    go_wp2
    exact bodyPost_ret (v := KV 0 0 0 0) (by simp [results, Try.results16, go_sem, *]) rfl ⟨rfl, by repeat (first | exact B_b7.out | refine Below.setCell ?_ (by first | omega | (simp; done) | (simp; omega)) _ | refine Below.alloc ?_ (by have := B_b7.out.size; first | omega | (simp; done) | (simp; omega)) _)⟩
  have e : unionV x0 x1 y0 y1 u0 u1 v0 v1 = KV (minI x0 u0) (maxI x1 u1) (minI y0 v0) (maxI y1 v1) := by unfold unionV; rw [ha, hb, Bool.and_self, if_pos rfl]
  rw [e]
  rw [ha] at HA
  rw [hb] at HB
  clear e ha hb
  unfold minI maxI
  by_cases h0 : u0 < x0
  · by_cases h1 : x1 < u1
    · by_cases h2 : v0 < y0
      · by_cases h3 : y1 < v1
        · rw [if_pos h0, if_pos h1, if_pos h2, if_pos h3]
          go_enter Try.func16, Try.ntmps16
          go_upto_region 1 with fail
          have RA_u1111_1 := Lib.hid (((row_last w (w.heap.size) 23 [.int .i64 x0, .int .i64 x1, .int .i64 y0, .int .i64 y1] (by simp)).alloc (.cells #[.int .i64 u0, .int .i64 u1, .int .i64 v0, .int .i64 v1] 23)).alloc (.cells #[.int .i64 0, .int .i64 0, .int .i64 0, .int .i64 0] 23))
          have RB_u1111_1 := Lib.hid ((row_last (w.alloc (.cells #[.int .i64 x0, .int .i64 x1, .int .i64 y0, .int .i64 y1] 23)) (w.heap.size + 1) 23 [.int .i64 u0, .int .i64 u1, .int .i64 v0, .int .i64 v1] (by simp)).alloc (.cells #[.int .i64 0, .int .i64 0, .int .i64 0, .int .i64 0] 23))
          have RC_u1111_1 := Lib.hid (row_last ((w.alloc (.cells #[.int .i64 x0, .int .i64 x1, .int .i64 y0, .int .i64 y1] 23)).alloc (.cells #[.int .i64 u0, .int .i64 u1, .int .i64 v0, .int .i64 v1] 23)) (w.heap.size + 1 + 1) 23 [.int .i64 0, .int .i64 0, .int .i64 0, .int .i64 0] (by simp))
          have B_u1111_1 := Lib.hid ((((Below.refl w.heap.size w).alloc (Nat.le_refl _) (.cells #[.int .i64 x0, .int .i64 x1, .int .i64 y0, .int .i64 y1] 23)).alloc (by have := Nat.le_refl w.heap.size; simp <;> omega) (.cells #[.int .i64 u0, .int .i64 u1, .int .i64 v0, .int .i64 v1] 23)).alloc (by have := Nat.le_refl w.heap.size; simp <;> omega) (.cells #[.int .i64 0, .int .i64 0, .int .i64 0, .int .i64 0] 23))
          generalize (((w.alloc (.cells #[.int .i64 x0, .int .i64 x1, .int .i64 y0, .int .i64 y1] 23)).alloc (.cells #[.int .i64 u0, .int .i64 u1, .int .i64 v0, .int .i64 v1] 23)).alloc (.cells #[.int .i64 0, .int .i64 0, .int .i64 0, .int .i64 0] 23)) = Vu1111_1 at RA_u1111_1 RB_u1111_1 RC_u1111_1 B_u1111_1 ⊢
          have cu1111_3_0 := RA_u1111_1.out.cell 0
          have cu1111_3_1 := RA_u1111_1.out.cell 1
          have cu1111_3_2 := RA_u1111_1.out.cell 2
          have cu1111_3_3 := RA_u1111_1.out.cell 3
          simp only [List.getElem?_cons_zero, List.getElem?_cons_succ] at cu1111_3_0 cu1111_3_1 cu1111_3_2 cu1111_3_3
          go_wp2_with fail
          refine (HA.out _).mono ?_
          rintro e Wu1111_2 ⟨rfl, hb⟩
          clear cu1111_3_0 cu1111_3_1 cu1111_3_2 cu1111_3_3
          have RA_u1111_4 := Lib.hid (RA_u1111_1.out.below hb RA_u1111_1.out.lt)
          have RB_u1111_4 := Lib.hid (RB_u1111_1.out.below hb RB_u1111_1.out.lt)
          have RC_u1111_4 := Lib.hid (RC_u1111_1.out.below hb RC_u1111_1.out.lt)
          have B_u1111_4 := Lib.hid (B_u1111_1.out.trans (hb.mono B_u1111_1.out.size))
          clear hb RA_u1111_1 RB_u1111_1 RC_u1111_1 B_u1111_1
          have cu1111_6_0 := RB_u1111_4.out.cell 0
          have cu1111_6_1 := RB_u1111_4.out.cell 1
          have cu1111_6_2 := RB_u1111_4.out.cell 2
          have cu1111_6_3 := RB_u1111_4.out.cell 3
          simp only [List.getElem?_cons_zero, List.getElem?_cons_succ] at cu1111_6_0 cu1111_6_1 cu1111_6_2 cu1111_6_3
          go_wp2_with fail
          refine (HB.out _).mono ?_
          rintro e Wu1111_5 ⟨rfl, hb⟩
          clear cu1111_6_0 cu1111_6_1 cu1111_6_2 cu1111_6_3
          have RA_u1111_7 := Lib.hid (RA_u1111_4.out.below hb RA_u1111_4.out.lt)
          have RB_u1111_7 := Lib.hid (RB_u1111_4.out.below hb RB_u1111_4.out.lt)
          have RC_u1111_7 := Lib.hid (RC_u1111_4.out.below hb RC_u1111_4.out.lt)
          have B_u1111_7 := Lib.hid (B_u1111_4.out.trans (hb.mono B_u1111_4.out.size))
          clear hb RA_u1111_4 RB_u1111_4 RC_u1111_4 B_u1111_4
          have cu1111_8_0 := RA_u1111_7.out.cell 0
          have cu1111_8_1 := RA_u1111_7.out.cell 1
          have cu1111_8_2 := RA_u1111_7.out.cell 2
          have cu1111_8_3 := RA_u1111_7.out.cell 3
          simp only [List.getElem?_cons_zero, List.getElem?_cons_succ] at cu1111_8_0 cu1111_8_1 cu1111_8_2 cu1111_8_3
          have fu1111_8_0 := RA_u1111_7.out.frozen 0
          have fu1111_8_1 := RA_u1111_7.out.frozen 1
          have fu1111_8_2 := RA_u1111_7.out.frozen 2
          have fu1111_8_3 := RA_u1111_7.out.frozen 3
          have cu1111_9_0 := RB_u1111_7.out.cell 0
          have cu1111_9_1 := RB_u1111_7.out.cell 1
          have cu1111_9_2 := RB_u1111_7.out.cell 2
          have cu1111_9_3 := RB_u1111_7.out.cell 3
          simp only [List.getElem?_cons_zero, List.getElem?_cons_succ] at cu1111_9_0 cu1111_9_1 cu1111_9_2 cu1111_9_3
          go_upto_region 5 with fail
          clear cu1111_8_0 cu1111_8_1 cu1111_8_2 cu1111_8_3 fu1111_8_0 fu1111_8_1 fu1111_8_2 fu1111_8_3 cu1111_9_0 cu1111_9_1 cu1111_9_2 cu1111_9_3
          have RA_u1111_10 : Hid (Row (Wu1111_5.setCell ⟨w.heap.size, 0, none⟩ (.int .i64 u0)) (w.heap.size) 23 [.int .i64 u0, .int .i64 x1, .int .i64 y0, .int .i64 y1]) := Lib.hid (RA_u1111_7.out.store 0 (.int .i64 u0))
          have RB_u1111_10 := Lib.hid (RB_u1111_7.out.far (p := ⟨w.heap.size, 0, none⟩) (by dsimp only; omega) (.int .i64 u0))
          have RC_u1111_10 := Lib.hid (RC_u1111_7.out.far (p := ⟨w.heap.size, 0, none⟩) (by dsimp only; omega) (.int .i64 u0))
          have B_u1111_10 := Lib.hid (B_u1111_7.out.setCell (p := ⟨w.heap.size, 0, none⟩) (by dsimp only; omega) (.int .i64 u0))
          clear RA_u1111_7 RB_u1111_7 RC_u1111_7 B_u1111_7
          generalize (Wu1111_5.setCell ⟨w.heap.size, 0, none⟩ (.int .i64 u0)) = Vu1111_10 at RA_u1111_10 RB_u1111_10 RC_u1111_10 B_u1111_10 ⊢
          have cu1111_11_0 := RA_u1111_10.out.cell 0
          have cu1111_11_1 := RA_u1111_10.out.cell 1
          have cu1111_11_2 := RA_u1111_10.out.cell 2
          have cu1111_11_3 := RA_u1111_10.out.cell 3
          simp only [List.getElem?_cons_zero, List.getElem?_cons_succ] at cu1111_11_0 cu1111_11_1 cu1111_11_2 cu1111_11_3
          have fu1111_11_0 := RA_u1111_10.out.frozen 0
          have fu1111_11_1 := RA_u1111_10.out.frozen 1
          have fu1111_11_2 := RA_u1111_10.out.frozen 2
          have fu1111_11_3 := RA_u1111_10.out.frozen 3
          have cu1111_12_0 := RB_u1111_10.out.cell 0
          have cu1111_12_1 := RB_u1111_10.out.cell 1
          have cu1111_12_2 := RB_u1111_10.out.cell 2
          have cu1111_12_3 := RB_u1111_10.out.cell 3
          simp only [List.getElem?_cons_zero, List.getElem?_cons_succ] at cu1111_12_0 cu1111_12_1 cu1111_12_2 cu1111_12_3
          go_upto_region 7 with fail
          clear cu1111_11_0 cu1111_11_1 cu1111_11_2 cu1111_11_3 fu1111_11_0 fu1111_11_1 fu1111_11_2 fu1111_11_3 cu1111_12_0 cu1111_12_1 cu1111_12_2 cu1111_12_3
          have RA_u1111_13 : Hid (Row (Vu1111_10.setCell ⟨w.heap.size, 1, none⟩ (.int .i64 u1)) (w.heap.size) 23 [.int .i64 u0, .int .i64 u1, .int .i64 y0, .int .i64 y1]) := Lib.hid (RA_u1111_10.out.store 1 (.int .i64 u1))
          have RB_u1111_13 := Lib.hid (RB_u1111_10.out.far (p := ⟨w.heap.size, 1, none⟩) (by dsimp only; omega) (.int .i64 u1))
          have RC_u1111_13 := Lib.hid (RC_u1111_10.out.far (p := ⟨w.heap.size, 1, none⟩) (by dsimp only; omega) (.int .i64 u1))
          have B_u1111_13 := Lib.hid (B_u1111_10.out.setCell (p := ⟨w.heap.size, 1, none⟩) (by dsimp only; omega) (.int .i64 u1))
          clear RA_u1111_10 RB_u1111_10 RC_u1111_10 B_u1111_10
          generalize (Vu1111_10.setCell ⟨w.heap.size, 1, none⟩ (.int .i64 u1)) = Vu1111_13 at RA_u1111_13 RB_u1111_13 RC_u1111_13 B_u1111_13 ⊢
          have cu1111_14_0 := RA_u1111_13.out.cell 0
          have cu1111_14_1 := RA_u1111_13.out.cell 1
          have cu1111_14_2 := RA_u1111_13.out.cell 2
          have cu1111_14_3 := RA_u1111_13.out.cell 3
          simp only [List.getElem?_cons_zero, List.getElem?_cons_succ] at cu1111_14_0 cu1111_14_1 cu1111_14_2 cu1111_14_3
          have fu1111_14_0 := RA_u1111_13.out.frozen 0
          have fu1111_14_1 := RA_u1111_13.out.frozen 1
          have fu1111_14_2 := RA_u1111_13.out.frozen 2
          have fu1111_14_3 := RA_u1111_13.out.frozen 3
          have cu1111_15_0 := RB_u1111_13.out.cell 0
          have cu1111_15_1 := RB_u1111_13.out.cell 1
          have cu1111_15_2 := RB_u1111_13.out.cell 2
          have cu1111_15_3 := RB_u1111_13.out.cell 3
          simp only [List.getElem?_cons_zero, List.getElem?_cons_succ] at cu1111_15_0 cu1111_15_1 cu1111_15_2 cu1111_15_3
          go_upto_region 9 with fail
          clear cu1111_14_0 cu1111_14_1 cu1111_14_2 cu1111_14_3 fu1111_14_0 fu1111_14_1 fu1111_14_2 fu1111_14_3 cu1111_15_0 cu1111_15_1 cu1111_15_2 cu1111_15_3
          have RA_u1111_16 : Hid (Row (Vu1111_13.setCell ⟨w.heap.size, 2, none⟩ (.int .i64 v0)) (w.heap.size) 23 [.int .i64 u0, .int .i64 u1, .int .i64 v0, .int .i64 y1]) := Lib.hid (RA_u1111_13.out.store 2 (.int .i64 v0))
          have RB_u1111_16 := Lib.hid (RB_u1111_13.out.far (p := ⟨w.heap.size, 2, none⟩) (by dsimp only; omega) (.int .i64 v0))
          have RC_u1111_16 := Lib.hid (RC_u1111_13.out.far (p := ⟨w.heap.size, 2, none⟩) (by dsimp only; omega) (.int .i64 v0))
          have B_u1111_16 := Lib.hid (B_u1111_13.out.setCell (p := ⟨w.heap.size, 2, none⟩) (by dsimp only; omega) (.int .i64 v0))
          clear RA_u1111_13 RB_u1111_13 RC_u1111_13 B_u1111_13
          generalize (Vu1111_13.setCell ⟨w.heap.size, 2, none⟩ (.int .i64 v0)) = Vu1111_16 at RA_u1111_16 RB_u1111_16 RC_u1111_16 B_u1111_16 ⊢
          have cu1111_17_0 := RA_u1111_16.out.cell 0
          have cu1111_17_1 := RA_u1111_16.out.cell 1
          have cu1111_17_2 := RA_u1111_16.out.cell 2
          have cu1111_17_3 := RA_u1111_16.out.cell 3
          simp only [List.getElem?_cons_zero, List.getElem?_cons_succ] at cu1111_17_0 cu1111_17_1 cu1111_17_2 cu1111_17_3
          have fu1111_17_0 := RA_u1111_16.out.frozen 0
          have fu1111_17_1 := RA_u1111_16.out.frozen 1
          have fu1111_17_2 := RA_u1111_16.out.frozen 2
          have fu1111_17_3 := RA_u1111_16.out.frozen 3
          have cu1111_18_0 := RB_u1111_16.out.cell 0
          have cu1111_18_1 := RB_u1111_16.out.cell 1
          have cu1111_18_2 := RB_u1111_16.out.cell 2
          have cu1111_18_3 := RB_u1111_16.out.cell 3
          simp only [List.getElem?_cons_zero, List.getElem?_cons_succ] at cu1111_18_0 cu1111_18_1 cu1111_18_2 cu1111_18_3
          go_upto_region 11 with fail
          clear cu1111_17_0 cu1111_17_1 cu1111_17_2 cu1111_17_3 fu1111_17_0 fu1111_17_1 fu1111_17_2 fu1111_17_3 cu1111_18_0 cu1111_18_1 cu1111_18_2 cu1111_18_3
          have RA_u1111_19 : Hid (Row (Vu1111_16.setCell ⟨w.heap.size, 3, none⟩ (.int .i64 v1)) (w.heap.size) 23 [.int .i64 u0, .int .i64 u1, .int .i64 v0, .int .i64 v1]) := Lib.hid (RA_u1111_16.out.store 3 (.int .i64 v1))
          have RB_u1111_19 := Lib.hid (RB_u1111_16.out.far (p := ⟨w.heap.size, 3, none⟩) (by dsimp only; omega) (.int .i64 v1))
          have RC_u1111_19 := Lib.hid (RC_u1111_16.out.far (p := ⟨w.heap.size, 3, none⟩) (by dsimp only; omega) (.int .i64 v1))
          have B_u1111_19 := Lib.hid (B_u1111_16.out.setCell (p := ⟨w.heap.size, 3, none⟩) (by dsimp only; omega) (.int .i64 v1))
          clear RA_u1111_16 RB_u1111_16 RC_u1111_16 B_u1111_16
          generalize (Vu1111_16.setCell ⟨w.heap.size, 3, none⟩ (.int .i64 v1)) = Vu1111_19 at RA_u1111_19 RB_u1111_19 RC_u1111_19 B_u1111_19 ⊢
          have cu1111_20_0 := RA_u1111_19.out.cell 0
          have cu1111_20_1 := RA_u1111_19.out.cell 1
          have cu1111_20_2 := RA_u1111_19.out.cell 2
          have cu1111_20_3 := RA_u1111_19.out.cell 3
          simp only [List.getElem?_cons_zero, List.getElem?_cons_succ] at cu1111_20_0 cu1111_20_1 cu1111_20_2 cu1111_20_3
          have cu1111_21_0 := RC_u1111_19.out.cell 0
          have cu1111_21_1 := RC_u1111_19.out.cell 1
          have cu1111_21_2 := RC_u1111_19.out.cell 2
          have cu1111_21_3 := RC_u1111_19.out.cell 3
          simp only [List.getElem?_cons_zero, List.getElem?_cons_succ] at cu1111_21_0 cu1111_21_1 cu1111_21_2 cu1111_21_3
          have fu1111_21_0 := RC_u1111_19.out.frozen 0
          have fu1111_21_1 := RC_u1111_19.out.frozen 1
          have fu1111_21_2 := RC_u1111_19.out.frozen 2
          have fu1111_21_3 := RC_u1111_19.out.frozen 3
          go_wp2
          exact bodyPost_ret (v := KV u0 u1 v0 v1) (by simp [results, Try.results16, go_sem, *]) rfl ⟨rfl, by repeat (first | exact B_u1111_19.out | refine Below.setCell ?_ (by first | omega | (simp; done) | (simp; omega)) _ | refine Below.alloc ?_ (by have := B_u1111_19.out.size; first | omega | (simp; done) | (simp; omega)) _)⟩
        · rw [if_pos h0, if_pos h1, if_pos h2, if_neg h3]
          go_enter Try.func16, Try.ntmps16
          go_upto_region 1 with fail
          have RA_u1110_1 := Lib.hid (((row_last w (w.heap.size) 23 [.int .i64 x0, .int .i64 x1, .int .i64 y0, .int .i64 y1] (by simp)).alloc (.cells #[.int .i64 u0, .int .i64 u1, .int .i64 v0, .int .i64 v1] 23)).alloc (.cells #[.int .i64 0, .int .i64 0, .int .i64 0, .int .i64 0] 23))
          have RB_u1110_1 := Lib.hid ((row_last (w.alloc (.cells #[.int .i64 x0, .int .i64 x1, .int .i64 y0, .int .i64 y1] 23)) (w.heap.size + 1) 23 [.int .i64 u0, .int .i64 u1, .int .i64 v0, .int .i64 v1] (by simp)).alloc (.cells #[.int .i64 0, .int .i64 0, .int .i64 0, .int .i64 0] 23))
          have RC_u1110_1 := Lib.hid (row_last ((w.alloc (.cells #[.int .i64 x0, .int .i64 x1, .int .i64 y0, .int .i64 y1] 23)).alloc (.cells #[.int .i64 u0, .int .i64 u1, .int .i64 v0, .int .i64 v1] 23)) (w.heap.size + 1 + 1) 23 [.int .i64 0, .int .i64 0, .int .i64 0, .int .i64 0] (by simp))
          have B_u1110_1 := Lib.hid ((((Below.refl w.heap.size w).alloc (Nat.le_refl _) (.cells #[.int .i64 x0, .int .i64 x1, .int .i64 y0, .int .i64 y1] 23)).alloc (by have := Nat.le_refl w.heap.size; simp <;> omega) (.cells #[.int .i64 u0, .int .i64 u1, .int .i64 v0, .int .i64 v1] 23)).alloc (by have := Nat.le_refl w.heap.size; simp <;> omega) (.cells #[.int .i64 0, .int .i64 0, .int .i64 0, .int .i64 0] 23))
          generalize (((w.alloc (.cells #[.int .i64 x0, .int .i64 x1, .int .i64 y0, .int .i64 y1] 23)).alloc (.cells #[.int .i64 u0, .int .i64 u1, .int .i64 v0, .int .i64 v1] 23)).alloc (.cells #[.int .i64 0, .int .i64 0, .int .i64 0, .int .i64 0] 23)) = Vu1110_1 at RA_u1110_1 RB_u1110_1 RC_u1110_1 B_u1110_1 ⊢
          have cu1110_3_0 := RA_u1110_1.out.cell 0
          have cu1110_3_1 := RA_u1110_1.out.cell 1
          have cu1110_3_2 := RA_u1110_1.out.cell 2
          have cu1110_3_3 := RA_u1110_1.out.cell 3
          simp only [List.getElem?_cons_zero, List.getElem?_cons_succ] at cu1110_3_0 cu1110_3_1 cu1110_3_2 cu1110_3_3
          go_wp2_with fail
          refine (HA.out _).mono ?_
          rintro e Wu1110_2 ⟨rfl, hb⟩
          clear cu1110_3_0 cu1110_3_1 cu1110_3_2 cu1110_3_3
          have RA_u1110_4 := Lib.hid (RA_u1110_1.out.below hb RA_u1110_1.out.lt)
          have RB_u1110_4 := Lib.hid (RB_u1110_1.out.below hb RB_u1110_1.out.lt)
          have RC_u1110_4 := Lib.hid (RC_u1110_1.out.below hb RC_u1110_1.out.lt)
          have B_u1110_4 := Lib.hid (B_u1110_1.out.trans (hb.mono B_u1110_1.out.size))
          clear hb RA_u1110_1 RB_u1110_1 RC_u1110_1 B_u1110_1
          have cu1110_6_0 := RB_u1110_4.out.cell 0
          have cu1110_6_1 := RB_u1110_4.out.cell 1
          have cu1110_6_2 := RB_u1110_4.out.cell 2
          have cu1110_6_3 := RB_u1110_4.out.cell 3
          simp only [List.getElem?_cons_zero, List.getElem?_cons_succ] at cu1110_6_0 cu1110_6_1 cu1110_6_2 cu1110_6_3
          go_wp2_with fail
          refine (HB.out _).mono ?_
          rintro e Wu1110_5 ⟨rfl, hb⟩
          clear cu1110_6_0 cu1110_6_1 cu1110_6_2 cu1110_6_3
          have RA_u1110_7 := Lib.hid (RA_u1110_4.out.below hb RA_u1110_4.out.lt)
          have RB_u1110_7 := Lib.hid (RB_u1110_4.out.below hb RB_u1110_4.out.lt)
          have RC_u1110_7 := Lib.hid (RC_u1110_4.out.below hb RC_u1110_4.out.lt)
          have B_u1110_7 := Lib.hid (B_u1110_4.out.trans (hb.mono B_u1110_4.out.size))
          clear hb RA_u1110_4 RB_u1110_4 RC_u1110_4 B_u1110_4
          have cu1110_8_0 := RA_u1110_7.out.cell 0
          have cu1110_8_1 := RA_u1110_7.out.cell 1
          have cu1110_8_2 := RA_u1110_7.out.cell 2
          have cu1110_8_3 := RA_u1110_7.out.cell 3
          simp only [List.getElem?_cons_zero, List.getElem?_cons_succ] at cu1110_8_0 cu1110_8_1 cu1110_8_2 cu1110_8_3
          have fu1110_8_0 := RA_u1110_7.out.frozen 0
          have fu1110_8_1 := RA_u1110_7.out.frozen 1
          have fu1110_8_2 := RA_u1110_7.out.frozen 2
          have fu1110_8_3 := RA_u1110_7.out.frozen 3
          have cu1110_9_0 := RB_u1110_7.out.cell 0
          have cu1110_9_1 := RB_u1110_7.out.cell 1
          have cu1110_9_2 := RB_u1110_7.out.cell 2
          have cu1110_9_3 := RB_u1110_7.out.cell 3
          simp only [List.getElem?_cons_zero, List.getElem?_cons_succ] at cu1110_9_0 cu1110_9_1 cu1110_9_2 cu1110_9_3
          go_upto_region 5 with fail
          clear cu1110_8_0 cu1110_8_1 cu1110_8_2 cu1110_8_3 fu1110_8_0 fu1110_8_1 fu1110_8_2 fu1110_8_3 cu1110_9_0 cu1110_9_1 cu1110_9_2 cu1110_9_3
          have RA_u1110_10 : Hid (Row (Wu1110_5.setCell ⟨w.heap.size, 0, none⟩ (.int .i64 u0)) (w.heap.size) 23 [.int .i64 u0, .int .i64 x1, .int .i64 y0, .int .i64 y1]) := Lib.hid (RA_u1110_7.out.store 0 (.int .i64 u0))
          have RB_u1110_10 := Lib.hid (RB_u1110_7.out.far (p := ⟨w.heap.size, 0, none⟩) (by dsimp only; omega) (.int .i64 u0))
          have RC_u1110_10 := Lib.hid (RC_u1110_7.out.far (p := ⟨w.heap.size, 0, none⟩) (by dsimp only; omega) (.int .i64 u0))
          have B_u1110_10 := Lib.hid (B_u1110_7.out.setCell (p := ⟨w.heap.size, 0, none⟩) (by dsimp only; omega) (.int .i64 u0))
          clear RA_u1110_7 RB_u1110_7 RC_u1110_7 B_u1110_7
          generalize (Wu1110_5.setCell ⟨w.heap.size, 0, none⟩ (.int .i64 u0)) = Vu1110_10 at RA_u1110_10 RB_u1110_10 RC_u1110_10 B_u1110_10 ⊢
          have cu1110_11_0 := RA_u1110_10.out.cell 0
          have cu1110_11_1 := RA_u1110_10.out.cell 1
          have cu1110_11_2 := RA_u1110_10.out.cell 2
          have cu1110_11_3 := RA_u1110_10.out.cell 3
          simp only [List.getElem?_cons_zero, List.getElem?_cons_succ] at cu1110_11_0 cu1110_11_1 cu1110_11_2 cu1110_11_3
          have fu1110_11_0 := RA_u1110_10.out.frozen 0
          have fu1110_11_1 := RA_u1110_10.out.frozen 1
          have fu1110_11_2 := RA_u1110_10.out.frozen 2
          have fu1110_11_3 := RA_u1110_10.out.frozen 3
          have cu1110_12_0 := RB_u1110_10.out.cell 0
          have cu1110_12_1 := RB_u1110_10.out.cell 1
          have cu1110_12_2 := RB_u1110_10.out.cell 2
          have cu1110_12_3 := RB_u1110_10.out.cell 3
          simp only [List.getElem?_cons_zero, List.getElem?_cons_succ] at cu1110_12_0 cu1110_12_1 cu1110_12_2 cu1110_12_3
          go_upto_region 7 with fail
          clear cu1110_11_0 cu1110_11_1 cu1110_11_2 cu1110_11_3 fu1110_11_0 fu1110_11_1 fu1110_11_2 fu1110_11_3 cu1110_12_0 cu1110_12_1 cu1110_12_2 cu1110_12_3
          have RA_u1110_13 : Hid (Row (Vu1110_10.setCell ⟨w.heap.size, 1, none⟩ (.int .i64 u1)) (w.heap.size) 23 [.int .i64 u0, .int .i64 u1, .int .i64 y0, .int .i64 y1]) := Lib.hid (RA_u1110_10.out.store 1 (.int .i64 u1))
          have RB_u1110_13 := Lib.hid (RB_u1110_10.out.far (p := ⟨w.heap.size, 1, none⟩) (by dsimp only; omega) (.int .i64 u1))
          have RC_u1110_13 := Lib.hid (RC_u1110_10.out.far (p := ⟨w.heap.size, 1, none⟩) (by dsimp only; omega) (.int .i64 u1))
          have B_u1110_13 := Lib.hid (B_u1110_10.out.setCell (p := ⟨w.heap.size, 1, none⟩) (by dsimp only; omega) (.int .i64 u1))
          clear RA_u1110_10 RB_u1110_10 RC_u1110_10 B_u1110_10
          generalize (Vu1110_10.setCell ⟨w.heap.size, 1, none⟩ (.int .i64 u1)) = Vu1110_13 at RA_u1110_13 RB_u1110_13 RC_u1110_13 B_u1110_13 ⊢
          have cu1110_14_0 := RA_u1110_13.out.cell 0
          have cu1110_14_1 := RA_u1110_13.out.cell 1
          have cu1110_14_2 := RA_u1110_13.out.cell 2
          have cu1110_14_3 := RA_u1110_13.out.cell 3
          simp only [List.getElem?_cons_zero, List.getElem?_cons_succ] at cu1110_14_0 cu1110_14_1 cu1110_14_2 cu1110_14_3
          have fu1110_14_0 := RA_u1110_13.out.frozen 0
          have fu1110_14_1 := RA_u1110_13.out.frozen 1
          have fu1110_14_2 := RA_u1110_13.out.frozen 2
          have fu1110_14_3 := RA_u1110_13.out.frozen 3
          have cu1110_15_0 := RB_u1110_13.out.cell 0
          have cu1110_15_1 := RB_u1110_13.out.cell 1
          have cu1110_15_2 := RB_u1110_13.out.cell 2
          have cu1110_15_3 := RB_u1110_13.out.cell 3
          simp only [List.getElem?_cons_zero, List.getElem?_cons_succ] at cu1110_15_0 cu1110_15_1 cu1110_15_2 cu1110_15_3
          go_upto_region 9 with fail
          clear cu1110_14_0 cu1110_14_1 cu1110_14_2 cu1110_14_3 fu1110_14_0 fu1110_14_1 fu1110_14_2 fu1110_14_3 cu1110_15_0 cu1110_15_1 cu1110_15_2 cu1110_15_3
          have RA_u1110_16 : Hid (Row (Vu1110_13.setCell ⟨w.heap.size, 2, none⟩ (.int .i64 v0)) (w.heap.size) 23 [.int .i64 u0, .int .i64 u1, .int .i64 v0, .int .i64 y1]) := Lib.hid (RA_u1110_13.out.store 2 (.int .i64 v0))
          have RB_u1110_16 := Lib.hid (RB_u1110_13.out.far (p := ⟨w.heap.size, 2, none⟩) (by dsimp only; omega) (.int .i64 v0))
          have RC_u1110_16 := Lib.hid (RC_u1110_13.out.far (p := ⟨w.heap.size, 2, none⟩) (by dsimp only; omega) (.int .i64 v0))
          have B_u1110_16 := Lib.hid (B_u1110_13.out.setCell (p := ⟨w.heap.size, 2, none⟩) (by dsimp only; omega) (.int .i64 v0))
          clear RA_u1110_13 RB_u1110_13 RC_u1110_13 B_u1110_13
          generalize (Vu1110_13.setCell ⟨w.heap.size, 2, none⟩ (.int .i64 v0)) = Vu1110_16 at RA_u1110_16 RB_u1110_16 RC_u1110_16 B_u1110_16 ⊢
          have cu1110_17_0 := RA_u1110_16.out.cell 0
          have cu1110_17_1 := RA_u1110_16.out.cell 1
          have cu1110_17_2 := RA_u1110_16.out.cell 2
          have cu1110_17_3 := RA_u1110_16.out.cell 3
          simp only [List.getElem?_cons_zero, List.getElem?_cons_succ] at cu1110_17_0 cu1110_17_1 cu1110_17_2 cu1110_17_3
          have fu1110_17_0 := RA_u1110_16.out.frozen 0
          have fu1110_17_1 := RA_u1110_16.out.frozen 1
          have fu1110_17_2 := RA_u1110_16.out.frozen 2
          have fu1110_17_3 := RA_u1110_16.out.frozen 3
          have cu1110_18_0 := RB_u1110_16.out.cell 0
          have cu1110_18_1 := RB_u1110_16.out.cell 1
          have cu1110_18_2 := RB_u1110_16.out.cell 2
          have cu1110_18_3 := RB_u1110_16.out.cell 3
          simp only [List.getElem?_cons_zero, List.getElem?_cons_succ] at cu1110_18_0 cu1110_18_1 cu1110_18_2 cu1110_18_3
          go_upto_region 11 with fail
          clear cu1110_17_0 cu1110_17_1 cu1110_17_2 cu1110_17_3 fu1110_17_0 fu1110_17_1 fu1110_17_2 fu1110_17_3 cu1110_18_0 cu1110_18_1 cu1110_18_2 cu1110_18_3
          have cu1110_19_0 := RA_u1110_16.out.cell 0
          have cu1110_19_1 := RA_u1110_16.out.cell 1
          have cu1110_19_2 := RA_u1110_16.out.cell 2
          have cu1110_19_3 := RA_u1110_16.out.cell 3
          simp only [List.getElem?_cons_zero, List.getElem?_cons_succ] at cu1110_19_0 cu1110_19_1 cu1110_19_2 cu1110_19_3
          have cu1110_20_0 := RC_u1110_16.out.cell 0
          have cu1110_20_1 := RC_u1110_16.out.cell 1
          have cu1110_20_2 := RC_u1110_16.out.cell 2
          have cu1110_20_3 := RC_u1110_16.out.cell 3
          simp only [List.getElem?_cons_zero, List.getElem?_cons_succ] at cu1110_20_0 cu1110_20_1 cu1110_20_2 cu1110_20_3
          have fu1110_20_0 := RC_u1110_16.out.frozen 0
          have fu1110_20_1 := RC_u1110_16.out.frozen 1
          have fu1110_20_2 := RC_u1110_16.out.frozen 2
          have fu1110_20_3 := RC_u1110_16.out.frozen 3
          go_wp2
          exact bodyPost_ret (v := KV u0 u1 v0 y1) (by simp [results, Try.results16, go_sem, *]) rfl ⟨rfl, by repeat (first | exact B_u1110_16.out | refine Below.setCell ?_ (by first | omega | (simp; done) | (simp; omega)) _ | refine Below.alloc ?_ (by have := B_u1110_16.out.size; first | omega | (simp; done) | (simp; omega)) _)⟩
      · by_cases h3 : y1 < v1
        · rw [if_pos h0, if_pos h1, if_neg h2, if_pos h3]
          go_enter Try.func16, Try.ntmps16
          go_upto_region 1 with fail
          have RA_u1101_1 := Lib.hid (((row_last w (w.heap.size) 23 [.int .i64 x0, .int .i64 x1, .int .i64 y0, .int .i64 y1] (by simp)).alloc (.cells #[.int .i64 u0, .int .i64 u1, .int .i64 v0, .int .i64 v1] 23)).alloc (.cells #[.int .i64 0, .int .i64 0, .int .i64 0, .int .i64 0] 23))
          have RB_u1101_1 := Lib.hid ((row_last (w.alloc (.cells #[.int .i64 x0, .int .i64 x1, .int .i64 y0, .int .i64 y1] 23)) (w.heap.size + 1) 23 [.int .i64 u0, .int .i64 u1, .int .i64 v0, .int .i64 v1] (by simp)).alloc (.cells #[.int .i64 0, .int .i64 0, .int .i64 0, .int .i64 0] 23))
          have RC_u1101_1 := Lib.hid (row_last ((w.alloc (.cells #[.int .i64 x0, .int .i64 x1, .int .i64 y0, .int .i64 y1] 23)).alloc (.cells #[.int .i64 u0, .int .i64 u1, .int .i64 v0, .int .i64 v1] 23)) (w.heap.size + 1 + 1) 23 [.int .i64 0, .int .i64 0, .int .i64 0, .int .i64 0] (by simp))
          have B_u1101_1 := Lib.hid ((((Below.refl w.heap.size w).alloc (Nat.le_refl _) (.cells #[.int .i64 x0, .int .i64 x1, .int .i64 y0, .int .i64 y1] 23)).alloc (by have := Nat.le_refl w.heap.size; simp <;> omega) (.cells #[.int .i64 u0, .int .i64 u1, .int .i64 v0, .int .i64 v1] 23)).alloc (by have := Nat.le_refl w.heap.size; simp <;> omega) (.cells #[.int .i64 0, .int .i64 0, .int .i64 0, .int .i64 0] 23))
          generalize (((w.alloc (.cells #[.int .i64 x0, .int .i64 x1, .int .i64 y0, .int .i64 y1] 23)).alloc (.cells #[.int .i64 u0, .int .i64 u1, .int .i64 v0, .int .i64 v1] 23)).alloc (.cells #[.int .i64 0, .int .i64 0, .int .i64 0, .int .i64 0] 23)) = Vu1101_1 at RA_u1101_1 RB_u1101_1 RC_u1101_1 B_u1101_1 ⊢
          have cu1101_3_0 := RA_u1101_1.out.cell 0
          have cu1101_3_1 := RA_u1101_1.out.cell 1
          have cu1101_3_2 := RA_u1101_1.out.cell 2
          have cu1101_3_3 := RA_u1101_1.out.cell 3
          simp only [List.getElem?_cons_zero, List.getElem?_cons_succ] at cu1101_3_0 cu1101_3_1 cu1101_3_2 cu1101_3_3
          go_wp2_with fail
          refine (HA.out _).mono ?_
          rintro e Wu1101_2 ⟨rfl, hb⟩
          clear cu1101_3_0 cu1101_3_1 cu1101_3_2 cu1101_3_3
          have RA_u1101_4 := Lib.hid (RA_u1101_1.out.below hb RA_u1101_1.out.lt)
          have RB_u1101_4 := Lib.hid (RB_u1101_1.out.below hb RB_u1101_1.out.lt)
          have RC_u1101_4 := Lib.hid (RC_u1101_1.out.below hb RC_u1101_1.out.lt)
          have B_u1101_4 := Lib.hid (B_u1101_1.out.trans (hb.mono B_u1101_1.out.size))
          clear hb RA_u1101_1 RB_u1101_1 RC_u1101_1 B_u1101_1
          have cu1101_6_0 := RB_u1101_4.out.cell 0
          have cu1101_6_1 := RB_u1101_4.out.cell 1
          have cu1101_6_2 := RB_u1101_4.out.cell 2
          have cu1101_6_3 := RB_u1101_4.out.cell 3
          simp only [List.getElem?_cons_zero, List.getElem?_cons_succ] at cu1101_6_0 cu1101_6_1 cu1101_6_2 cu1101_6_3
          go_wp2_with fail
          refine (HB.out _).mono ?_
          rintro e Wu1101_5 ⟨rfl, hb⟩
          clear cu1101_6_0 cu1101_6_1 cu1101_6_2 cu1101_6_3
          have RA_u1101_7 := Lib.hid (RA_u1101_4.out.below hb RA_u1101_4.out.lt)
          have RB_u1101_7 := Lib.hid (RB_u1101_4.out.below hb RB_u1101_4.out.lt)
          have RC_u1101_7 := Lib.hid (RC_u1101_4.out.below hb RC_u1101_4.out.lt)
          have B_u1101_7 := Lib.hid (B_u1101_4.out.trans (hb.mono B_u1101_4.out.size))
          clear hb RA_u1101_4 RB_u1101_4 RC_u1101_4 B_u1101_4
          have cu1101_8_0 := RA_u1101_7.out.cell 0
          have cu1101_8_1 := RA_u1101_7.out.cell 1
          have cu1101_8_2 := RA_u1101_7.out.cell 2
          have cu1101_8_3 := RA_u1101_7.out.cell 3
          simp only [List.getElem?_cons_zero, List.getElem?_cons_succ] at cu1101_8_0 cu1101_8_1 cu1101_8_2 cu1101_8_3
          have fu1101_8_0 := RA_u1101_7.out.frozen 0
          have fu1101_8_1 := RA_u1101_7.out.frozen 1
          have fu1101_8_2 := RA_u1101_7.out.frozen 2
          have fu1101_8_3 := RA_u1101_7.out.frozen 3
          have cu1101_9_0 := RB_u1101_7.out.cell 0
          have cu1101_9_1 := RB_u1101_7.out.cell 1
          have cu1101_9_2 := RB_u1101_7.out.cell 2
          have cu1101_9_3 := RB_u1101_7.out.cell 3
          simp only [List.getElem?_cons_zero, List.getElem?_cons_succ] at cu1101_9_0 cu1101_9_1 cu1101_9_2 cu1101_9_3
          go_upto_region 5 with fail
          clear cu1101_8_0 cu1101_8_1 cu1101_8_2 cu1101_8_3 fu1101_8_0 fu1101_8_1 fu1101_8_2 fu1101_8_3 cu1101_9_0 cu1101_9_1 cu1101_9_2 cu1101_9_3
          have RA_u1101_10 : Hid (Row (Wu1101_5.setCell ⟨w.heap.size, 0, none⟩ (.int .i64 u0)) (w.heap.size) 23 [.int .i64 u0, .int .i64 x1, .int .i64 y0, .int .i64 y1]) := Lib.hid (RA_u1101_7.out.store 0 (.int .i64 u0))
          have RB_u1101_10 := Lib.hid (RB_u1101_7.out.far (p := ⟨w.heap.size, 0, none⟩) (by dsimp only; omega) (.int .i64 u0))
          have RC_u1101_10 := Lib.hid (RC_u1101_7.out.far (p := ⟨w.heap.size, 0, none⟩) (by dsimp only; omega) (.int .i64 u0))
          have B_u1101_10 := Lib.hid (B_u1101_7.out.setCell (p := ⟨w.heap.size, 0, none⟩) (by dsimp only; omega) (.int .i64 u0))
          clear RA_u1101_7 RB_u1101_7 RC_u1101_7 B_u1101_7
          generalize (Wu1101_5.setCell ⟨w.heap.size, 0, none⟩ (.int .i64 u0)) = Vu1101_10 at RA_u1101_10 RB_u1101_10 RC_u1101_10 B_u1101_10 ⊢
          have cu1101_11_0 := RA_u1101_10.out.cell 0
          have cu1101_11_1 := RA_u1101_10.out.cell 1
          have cu1101_11_2 := RA_u1101_10.out.cell 2
          have cu1101_11_3 := RA_u1101_10.out.cell 3
          simp only [List.getElem?_cons_zero, List.getElem?_cons_succ] at cu1101_11_0 cu1101_11_1 cu1101_11_2 cu1101_11_3
          have fu1101_11_0 := RA_u1101_10.out.frozen 0
          have fu1101_11_1 := RA_u1101_10.out.frozen 1
          have fu1101_11_2 := RA_u1101_10.out.frozen 2
          have fu1101_11_3 := RA_u1101_10.out.frozen 3
          have cu1101_12_0 := RB_u1101_10.out.cell 0
          have cu1101_12_1 := RB_u1101_10.out.cell 1
          have cu1101_12_2 := RB_u1101_10.out.cell 2
          have cu1101_12_3 := RB_u1101_10.out.cell 3
          simp only [List.getElem?_cons_zero, List.getElem?_cons_succ] at cu1101_12_0 cu1101_12_1 cu1101_12_2 cu1101_12_3
          go_upto_region 7 with fail
          clear cu1101_11_0 cu1101_11_1 cu1101_11_2 cu1101_11_3 fu1101_11_0 fu1101_11_1 fu1101_11_2 fu1101_11_3 cu1101_12_0 cu1101_12_1 cu1101_12_2 cu1101_12_3
          have RA_u1101_13 : Hid (Row (Vu1101_10.setCell ⟨w.heap.size, 1, none⟩ (.int .i64 u1)) (w.heap.size) 23 [.int .i64 u0, .int .i64 u1, .int .i64 y0, .int .i64 y1]) := Lib.hid (RA_u1101_10.out.store 1 (.int .i64 u1))
          have RB_u1101_13 := Lib.hid (RB_u1101_10.out.far (p := ⟨w.heap.size, 1, none⟩) (by dsimp only; omega) (.int .i64 u1))
          have RC_u1101_13 := Lib.hid (RC_u1101_10.out.far (p := ⟨w.heap.size, 1, none⟩) (by dsimp only; omega) (.int .i64 u1))
          have B_u1101_13 := Lib.hid (B_u1101_10.out.setCell (p := ⟨w.heap.size, 1, none⟩) (by dsimp only; omega) (.int .i64 u1))
          clear RA_u1101_10 RB_u1101_10 RC_u1101_10 B_u1101_10
          generalize (Vu1101_10.setCell ⟨w.heap.size, 1, none⟩ (.int .i64 u1)) = Vu1101_13 at RA_u1101_13 RB_u1101_13 RC_u1101_13 B_u1101_13 ⊢
          have cu1101_14_0 := RA_u1101_13.out.cell 0
          have cu1101_14_1 := RA_u1101_13.out.cell 1
          have cu1101_14_2 := RA_u1101_13.out.cell 2
          have cu1101_14_3 := RA_u1101_13.out.cell 3
          simp only [List.getElem?_cons_zero, List.getElem?_cons_succ] at cu1101_14_0 cu1101_14_1 cu1101_14_2 cu1101_14_3
          have fu1101_14_0 := RA_u1101_13.out.frozen 0
          have fu1101_14_1 := RA_u1101_13.out.frozen 1
          have fu1101_14_2 := RA_u1101_13.out.frozen 2
          have fu1101_14_3 := RA_u1101_13.out.frozen 3
          have cu1101_15_0 := RB_u1101_13.out.cell 0
          have cu1101_15_1 := RB_u1101_13.out.cell 1
          have cu1101_15_2 := RB_u1101_13.out.cell 2
          have cu1101_15_3 := RB_u1101_13.out.cell 3
          simp only [List.getElem?_cons_zero, List.getElem?_cons_succ] at cu1101_15_0 cu1101_15_1 cu1101_15_2 cu1101_15_3
          go_upto_region 9 with fail
          clear cu1101_14_0 cu1101_14_1 cu1101_14_2 cu1101_14_3 fu1101_14_0 fu1101_14_1 fu1101_14_2 fu1101_14_3 cu1101_15_0 cu1101_15_1 cu1101_15_2 cu1101_15_3
          have cu1101_16_0 := RA_u1101_13.out.cell 0
          have cu1101_16_1 := RA_u1101_13.out.cell 1
          have cu1101_16_2 := RA_u1101_13.out.cell 2
          have cu1101_16_3 := RA_u1101_13.out.cell 3
          simp only [List.getElem?_cons_zero, List.getElem?_cons_succ] at cu1101_16_0 cu1101_16_1 cu1101_16_2 cu1101_16_3
          have fu1101_16_0 := RA_u1101_13.out.frozen 0
          have fu1101_16_1 := RA_u1101_13.out.frozen 1
          have fu1101_16_2 := RA_u1101_13.out.frozen 2
          have fu1101_16_3 := RA_u1101_13.out.frozen 3
          have cu1101_17_0 := RB_u1101_13.out.cell 0
          have cu1101_17_1 := RB_u1101_13.out.cell 1
          have cu1101_17_2 := RB_u1101_13.out.cell 2
          have cu1101_17_3 := RB_u1101_13.out.cell 3
          simp only [List.getElem?_cons_zero, List.getElem?_cons_succ] at cu1101_17_0 cu1101_17_1 cu1101_17_2 cu1101_17_3
          go_upto_region 11 with fail
          clear cu1101_16_0 cu1101_16_1 cu1101_16_2 cu1101_16_3 fu1101_16_0 fu1101_16_1 fu1101_16_2 fu1101_16_3 cu1101_17_0 cu1101_17_1 cu1101_17_2 cu1101_17_3
          have RA_u1101_18 : Hid (Row (Vu1101_13.setCell ⟨w.heap.size, 3, none⟩ (.int .i64 v1)) (w.heap.size) 23 [.int .i64 u0, .int .i64 u1, .int .i64 y0, .int .i64 v1]) := Lib.hid (RA_u1101_13.out.store 3 (.int .i64 v1))
          have RB_u1101_18 := Lib.hid (RB_u1101_13.out.far (p := ⟨w.heap.size, 3, none⟩) (by dsimp only; omega) (.int .i64 v1))
          have RC_u1101_18 := Lib.hid (RC_u1101_13.out.far (p := ⟨w.heap.size, 3, none⟩) (by dsimp only; omega) (.int .i64 v1))
          have B_u1101_18 := Lib.hid (B_u1101_13.out.setCell (p := ⟨w.heap.size, 3, none⟩) (by dsimp only; omega) (.int .i64 v1))
          clear RA_u1101_13 RB_u1101_13 RC_u1101_13 B_u1101_13
          generalize (Vu1101_13.setCell ⟨w.heap.size, 3, none⟩ (.int .i64 v1)) = Vu1101_18 at RA_u1101_18 RB_u1101_18 RC_u1101_18 B_u1101_18 ⊢
          have cu1101_19_0 := RA_u1101_18.out.cell 0
          have cu1101_19_1 := RA_u1101_18.out.cell 1
          have cu1101_19_2 := RA_u1101_18.out.cell 2
          have cu1101_19_3 := RA_u1101_18.out.cell 3
          simp only [List.getElem?_cons_zero, List.getElem?_cons_succ] at cu1101_19_0 cu1101_19_1 cu1101_19_2 cu1101_19_3
          have cu1101_20_0 := RC_u1101_18.out.cell 0
          have cu1101_20_1 := RC_u1101_18.out.cell 1
          have cu1101_20_2 := RC_u1101_18.out.cell 2
          have cu1101_20_3 := RC_u1101_18.out.cell 3
          simp only [List.getElem?_cons_zero, List.getElem?_cons_succ] at cu1101_20_0 cu1101_20_1 cu1101_20_2 cu1101_20_3
          have fu1101_20_0 := RC_u1101_18.out.frozen 0
          have fu1101_20_1 := RC_u1101_18.out.frozen 1
          have fu1101_20_2 := RC_u1101_18.out.frozen 2
          have fu1101_20_3 := RC_u1101_18.out.frozen 3
          go_wp2
          exact bodyPost_ret (v := KV u0 u1 y0 v1) (by simp [results, Try.results16, go_sem, *]) rfl ⟨rfl, by repeat (first | exact B_u1101_18.out | refine Below.setCell ?_ (by first | omega | (simp; done) | (simp; omega)) _ | refine Below.alloc ?_ (by have := B_u1101_18.out.size; first | omega | (simp; done) | (simp; omega)) _)⟩
        · rw [if_pos h0, if_pos h1, if_neg h2, if_neg h3]
          go_enter Try.func16, Try.ntmps16
          go_upto_region 1 with fail
          have RA_u1100_1 := Lib.hid (((row_last w (w.heap.size) 23 [.int .i64 x0, .int .i64 x1, .int .i64 y0, .int .i64 y1] (by simp)).alloc (.cells #[.int .i64 u0, .int .i64 u1, .int .i64 v0, .int .i64 v1] 23)).alloc (.cells #[.int .i64 0, .int .i64 0, .int .i64 0, .int .i64 0] 23))
          have RB_u1100_1 := Lib.hid ((row_last (w.alloc (.cells #[.int .i64 x0, .int .i64 x1, .int .i64 y0, .int .i64 y1] 23)) (w.heap.size + 1) 23 [.int .i64 u0, .int .i64 u1, .int .i64 v0, .int .i64 v1] (by simp)).alloc (.cells #[.int .i64 0, .int .i64 0, .int .i64 0, .int .i64 0] 23))
          have RC_u1100_1 := Lib.hid (row_last ((w.alloc (.cells #[.int .i64 x0, .int .i64 x1, .int .i64 y0, .int .i64 y1] 23)).alloc (.cells #[.int .i64 u0, .int .i64 u1, .int .i64 v0, .int .i64 v1] 23)) (w.heap.size + 1 + 1) 23 [.int .i64 0, .int .i64 0, .int .i64 0, .int .i64 0] (by simp))
          have B_u1100_1 := Lib.hid ((((Below.refl w.heap.size w).alloc (Nat.le_refl _) (.cells #[.int .i64 x0, .int .i64 x1, .int .i64 y0, .int .i64 y1] 23)).alloc (by have := Nat.le_refl w.heap.size; simp <;> omega) (.cells #[.int .i64 u0, .int .i64 u1, .int .i64 v0, .int .i64 v1] 23)).alloc (by have := Nat.le_refl w.heap.size; simp <;> omega) (.cells #[.int .i64 0, .int .i64 0, .int .i64 0, .int .i64 0] 23))
          generalize (((w.alloc (.cells #[.int .i64 x0, .int .i64 x1, .int .i64 y0, .int .i64 y1] 23)).alloc (.cells #[.int .i64 u0, .int .i64 u1, .int .i64 v0, .int .i64 v1] 23)).alloc (.cells #[.int .i64 0, .int .i64 0, .int .i64 0, .int .i64 0] 23)) = Vu1100_1 at RA_u1100_1 RB_u1100_1 RC_u1100_1 B_u1100_1 ⊢
          have cu1100_3_0 := RA_u1100_1.out.cell 0
          have cu1100_3_1 := RA_u1100_1.out.cell 1
          have cu1100_3_2 := RA_u1100_1.out.cell 2
          have cu1100_3_3 := RA_u1100_1.out.cell 3
          simp only [List.getElem?_cons_zero, List.getElem?_cons_succ] at cu1100_3_0 cu1100_3_1 cu1100_3_2 cu1100_3_3
          go_wp2_with fail
          refine (HA.out _).mono ?_
          rintro e Wu1100_2 ⟨rfl, hb⟩
          clear cu1100_3_0 cu1100_3_1 cu1100_3_2 cu1100_3_3
          have RA_u1100_4 := Lib.hid (RA_u1100_1.out.below hb RA_u1100_1.out.lt)
          have RB_u1100_4 := Lib.hid (RB_u1100_1.out.below hb RB_u1100_1.out.lt)
          have RC_u1100_4 := Lib.hid (RC_u1100_1.out.below hb RC_u1100_1.out.lt)
          have B_u1100_4 := Lib.hid (B_u1100_1.out.trans (hb.mono B_u1100_1.out.size))
          clear hb RA_u1100_1 RB_u1100_1 RC_u1100_1 B_u1100_1
          have cu1100_6_0 := RB_u1100_4.out.cell 0
          have cu1100_6_1 := RB_u1100_4.out.cell 1
          have cu1100_6_2 := RB_u1100_4.out.cell 2
          have cu1100_6_3 := RB_u1100_4.out.cell 3
          simp only [List.getElem?_cons_zero, List.getElem?_cons_succ] at cu1100_6_0 cu1100_6_1 cu1100_6_2 cu1100_6_3
          go_wp2_with fail
          refine (HB.out _).mono ?_
          rintro e Wu1100_5 ⟨rfl, hb⟩
          clear cu1100_6_0 cu1100_6_1 cu1100_6_2 cu1100_6_3
          have RA_u1100_7 := Lib.hid (RA_u1100_4.out.below hb RA_u1100_4.out.lt)
          have RB_u1100_7 := Lib.hid (RB_u1100_4.out.below hb RB_u1100_4.out.lt)
          have RC_u1100_7 := Lib.hid (RC_u1100_4.out.below hb RC_u1100_4.out.lt)
          have B_u1100_7 := Lib.hid (B_u1100_4.out.trans (hb.mono B_u1100_4.out.size))
          clear hb RA_u1100_4 RB_u1100_4 RC_u1100_4 B_u1100_4
          have cu1100_8_0 := RA_u1100_7.out.cell 0
          have cu1100_8_1 := RA_u1100_7.out.cell 1
          have cu1100_8_2 := RA_u1100_7.out.cell 2
          have cu1100_8_3 := RA_u1100_7.out.cell 3
          simp only [List.getElem?_cons_zero, List.getElem?_cons_succ] at cu1100_8_0 cu1100_8_1 cu1100_8_2 cu1100_8_3
          have fu1100_8_0 := RA_u1100_7.out.frozen 0
          have fu1100_8_1 := RA_u1100_7.out.frozen 1
          have fu1100_8_2 := RA_u1100_7.out.frozen 2
          have fu1100_8_3 := RA_u1100_7.out.frozen 3
          have cu1100_9_0 := RB_u1100_7.out.cell 0
          have cu1100_9_1 := RB_u1100_7.out.cell 1
          have cu1100_9_2 := RB_u1100_7.out.cell 2
          have cu1100_9_3 := RB_u1100_7.out.cell 3
          simp only [List.getElem?_cons_zero, List.getElem?_cons_succ] at cu1100_9_0 cu1100_9_1 cu1100_9_2 cu1100_9_3
          go_upto_region 5 with fail
          clear cu1100_8_0 cu1100_8_1 cu1100_8_2 cu1100_8_3 fu1100_8_0 fu1100_8_1 fu1100_8_2 fu1100_8_3 cu1100_9_0 cu1100_9_1 cu1100_9_2 cu1100_9_3
          have RA_u1100_10 : Hid (Row (Wu1100_5.setCell ⟨w.heap.size, 0, none⟩ (.int .i64 u0)) (w.heap.size) 23 [.int .i64 u0, .int .i64 x1, .int .i64 y0, .int .i64 y1]) := Lib.hid (RA_u1100_7.out.store 0 (.int .i64 u0))
          have RB_u1100_10 := Lib.hid (RB_u1100_7.out.far (p := ⟨w.heap.size, 0, none⟩) (by dsimp only; omega) (.int .i64 u0))
          have RC_u1100_10 := Lib.hid (RC_u1100_7.out.far (p := ⟨w.heap.size, 0, none⟩) (by dsimp only; omega) (.int .i64 u0))
          have B_u1100_10 := Lib.hid (B_u1100_7.out.setCell (p := ⟨w.heap.size, 0, none⟩) (by dsimp only; omega) (.int .i64 u0))
          clear RA_u1100_7 RB_u1100_7 RC_u1100_7 B_u1100_7
          generalize (Wu1100_5.setCell ⟨w.heap.size, 0, none⟩ (.int .i64 u0)) = Vu1100_10 at RA_u1100_10 RB_u1100_10 RC_u1100_10 B_u1100_10 ⊢
          have cu1100_11_0 := RA_u1100_10.out.cell 0
          have cu1100_11_1 := RA_u1100_10.out.cell 1
          have cu1100_11_2 := RA_u1100_10.out.cell 2
          have cu1100_11_3 := RA_u1100_10.out.cell 3
          simp only [List.getElem?_cons_zero, List.getElem?_cons_succ] at cu1100_11_0 cu1100_11_1 cu1100_11_2 cu1100_11_3
          have fu1100_11_0 := RA_u1100_10.out.frozen 0
          have fu1100_11_1 := RA_u1100_10.out.frozen 1
          have fu1100_11_2 := RA_u1100_10.out.frozen 2
          have fu1100_11_3 := RA_u1100_10.out.frozen 3
          have cu1100_12_0 := RB_u1100_10.out.cell 0
          have cu1100_12_1 := RB_u1100_10.out.cell 1
          have cu1100_12_2 := RB_u1100_10.out.cell 2
          have cu1100_12_3 := RB_u1100_10.out.cell 3
          simp only [List.getElem?_cons_zero, List.getElem?_cons_succ] at cu1100_12_0 cu1100_12_1 cu1100_12_2 cu1100_12_3
          go_upto_region 7 with fail
          clear cu1100_11_0 cu1100_11_1 cu1100_11_2 cu1100_11_3 fu1100_11_0 fu1100_11_1 fu1100_11_2 fu1100_11_3 cu1100_12_0 cu1100_12_1 cu1100_12_2 cu1100_12_3
          have RA_u1100_13 : Hid (Row (Vu1100_10.setCell ⟨w.heap.size, 1, none⟩ (.int .i64 u1)) (w.heap.size) 23 [.int .i64 u0, .int .i64 u1, .int .i64 y0, .int .i64 y1]) := Lib.hid (RA_u1100_10.out.store 1 (.int .i64 u1))
          have RB_u1100_13 := Lib.hid (RB_u1100_10.out.far (p := ⟨w.heap.size, 1, none⟩) (by dsimp only; omega) (.int .i64 u1))
          have RC_u1100_13 := Lib.hid (RC_u1100_10.out.far (p := ⟨w.heap.size, 1, none⟩) (by dsimp only; omega) (.int .i64 u1))
          have B_u1100_13 := Lib.hid (B_u1100_10.out.setCell (p := ⟨w.heap.size, 1, none⟩) (by dsimp only; omega) (.int .i64 u1))
          clear RA_u1100_10 RB_u1100_10 RC_u1100_10 B_u1100_10
          generalize (Vu1100_10.setCell ⟨w.heap.size, 1, none⟩ (.int .i64 u1)) = Vu1100_13 at RA_u1100_13 RB_u1100_13 RC_u1100_13 B_u1100_13 ⊢
          have cu1100_14_0 := RA_u1100_13.out.cell 0
          have cu1100_14_1 := RA_u1100_13.out.cell 1
          have cu1100_14_2 := RA_u1100_13.out.cell 2
          have cu1100_14_3 := RA_u1100_13.out.cell 3
          simp only [List.getElem?_cons_zero, List.getElem?_cons_succ] at cu1100_14_0 cu1100_14_1 cu1100_14_2 cu1100_14_3
          have fu1100_14_0 := RA_u1100_13.out.frozen 0
          have fu1100_14_1 := RA_u1100_13.out.frozen 1
          have fu1100_14_2 := RA_u1100_13.out.frozen 2
          have fu1100_14_3 := RA_u1100_13.out.frozen 3
          have cu1100_15_0 := RB_u1100_13.out.cell 0
          have cu1100_15_1 := RB_u1100_13.out.cell 1
          have cu1100_15_2 := RB_u1100_13.out.cell 2
          have cu1100_15_3 := RB_u1100_13.out.cell 3
          simp only [List.getElem?_cons_zero, List.getElem?_cons_succ] at cu1100_15_0 cu1100_15_1 cu1100_15_2 cu1100_15_3
          go_upto_region 9 with fail
          clear cu1100_14_0 cu1100_14_1 cu1100_14_2 cu1100_14_3 fu1100_14_0 fu1100_14_1 fu1100_14_2 fu1100_14_3 cu1100_15_0 cu1100_15_1 cu1100_15_2 cu1100_15_3
          have cu1100_16_0 := RA_u1100_13.out.cell 0
          have cu1100_16_1 := RA_u1100_13.out.cell 1
          have cu1100_16_2 := RA_u1100_13.out.cell 2
          have cu1100_16_3 := RA_u1100_13.out.cell 3
          simp only [List.getElem?_cons_zero, List.getElem?_cons_succ] at cu1100_16_0 cu1100_16_1 cu1100_16_2 cu1100_16_3
          have fu1100_16_0 := RA_u1100_13.out.frozen 0
          have fu1100_16_1 := RA_u1100_13.out.frozen 1
          have fu1100_16_2 := RA_u1100_13.out.frozen 2
          have fu1100_16_3 := RA_u1100_13.out.frozen 3
          have cu1100_17_0 := RB_u1100_13.out.cell 0
          have cu1100_17_1 := RB_u1100_13.out.cell 1
          have cu1100_17_2 := RB_u1100_13.out.cell 2
          have cu1100_17_3 := RB_u1100_13.out.cell 3
          simp only [List.getElem?_cons_zero, List.getElem?_cons_succ] at cu1100_17_0 cu1100_17_1 cu1100_17_2 cu1100_17_3
          go_upto_region 11 with fail
          clear cu1100_16_0 cu1100_16_1 cu1100_16_2 cu1100_16_3 fu1100_16_0 fu1100_16_1 fu1100_16_2 fu1100_16_3 cu1100_17_0 cu1100_17_1 cu1100_17_2 cu1100_17_3
          have cu1100_18_0 := RA_u1100_13.out.cell 0
          have cu1100_18_1 := RA_u1100_13.out.cell 1
          have cu1100_18_2 := RA_u1100_13.out.cell 2
          have cu1100_18_3 := RA_u1100_13.out.cell 3
          simp only [List.getElem?_cons_zero, List.getElem?_cons_succ] at cu1100_18_0 cu1100_18_1 cu1100_18_2 cu1100_18_3
          have cu1100_19_0 := RC_u1100_13.out.cell 0
          have cu1100_19_1 := RC_u1100_13.out.cell 1
          have cu1100_19_2 := RC_u1100_13.out.cell 2
          have cu1100_19_3 := RC_u1100_13.out.cell 3
          simp only [List.getElem?_cons_zero, List.getElem?_cons_succ] at cu1100_19_0 cu1100_19_1 cu1100_19_2 cu1100_19_3
          have fu1100_19_0 := RC_u1100_13.out.frozen 0
          have fu1100_19_1 := RC_u1100_13.out.frozen 1
          have fu1100_19_2 := RC_u1100_13.out.frozen 2
          have fu1100_19_3 := RC_u1100_13.out.frozen 3
          go_wp2
          exact bodyPost_ret (v := KV u0 u1 y0 y1) (by simp [results, Try.results16, go_sem, *]) rfl ⟨rfl, by repeat (first | exact B_u1100_13.out | refine Below.setCell ?_ (by first | omega | (simp; done) | (simp; omega)) _ | refine Below.alloc ?_ (by have := B_u1100_13.out.size; first | omega | (simp; done) | (simp; omega)) _)⟩
    · by_cases h2 : v0 < y0
      · by_cases h3 : y1 < v1
        · rw [if_pos h0, if_neg h1, if_pos h2, if_pos h3]
          go_enter Try.func16, Try.ntmps16
          go_upto_region 1 with fail
          have RA_u1011_1 := Lib.hid (((row_last w (w.heap.size) 23 [.int .i64 x0, .int .i64 x1, .int .i64 y0, .int .i64 y1] (by simp)).alloc (.cells #[.int .i64 u0, .int .i64 u1, .int .i64 v0, .int .i64 v1] 23)).alloc (.cells #[.int .i64 0, .int .i64 0, .int .i64 0, .int .i64 0] 23))
          have RB_u1011_1 := Lib.hid ((row_last (w.alloc (.cells #[.int .i64 x0, .int .i64 x1, .int .i64 y0, .int .i64 y1] 23)) (w.heap.size + 1) 23 [.int .i64 u0, .int .i64 u1, .int .i64 v0, .int .i64 v1] (by simp)).alloc (.cells #[.int .i64 0, .int .i64 0, .int .i64 0, .int .i64 0] 23))
          have RC_u1011_1 := Lib.hid (row_last ((w.alloc (.cells #[.int .i64 x0, .int .i64 x1, .int .i64 y0, .int .i64 y1] 23)).alloc (.cells #[.int .i64 u0, .int .i64 u1, .int .i64 v0, .int .i64 v1] 23)) (w.heap.size + 1 + 1) 23 [.int .i64 0, .int .i64 0, .int .i64 0, .int .i64 0] (by simp))
          have B_u1011_1 := Lib.hid ((((Below.refl w.heap.size w).alloc (Nat.le_refl _) (.cells #[.int .i64 x0, .int .i64 x1, .int .i64 y0, .int .i64 y1] 23)).alloc (by have := Nat.le_refl w.heap.size; simp <;> omega) (.cells #[.int .i64 u0, .int .i64 u1, .int .i64 v0, .int .i64 v1] 23)).alloc (by have := Nat.le_refl w.heap.size; simp <;> omega) (.cells #[.int .i64 0, .int .i64 0, .int .i64 0, .int .i64 0] 23))
          generalize (((w.alloc (.cells #[.int .i64 x0, .int .i64 x1, .int .i64 y0, .int .i64 y1] 23)).alloc (.cells #[.int .i64 u0, .int .i64 u1, .int .i64 v0, .int .i64 v1] 23)).alloc (.cells #[.int .i64 0, .int .i64 0, .int .i64 0, .int .i64 0] 23)) = Vu1011_1 at RA_u1011_1 RB_u1011_1 RC_u1011_1 B_u1011_1 ⊢
          have cu1011_3_0 := RA_u1011_1.out.cell 0
          have cu1011_3_1 := RA_u1011_1.out.cell 1
          have cu1011_3_2 := RA_u1011_1.out.cell 2
          have cu1011_3_3 := RA_u1011_1.out.cell 3
          simp only [List.getElem?_cons_zero, List.getElem?_cons_succ] at cu1011_3_0 cu1011_3_1 cu1011_3_2 cu1011_3_3
          go_wp2_with fail
          refine (HA.out _).mono ?_
          rintro e Wu1011_2 ⟨rfl, hb⟩
          clear cu1011_3_0 cu1011_3_1 cu1011_3_2 cu1011_3_3
          have RA_u1011_4 := Lib.hid (RA_u1011_1.out.below hb RA_u1011_1.out.lt)
          have RB_u1011_4 := Lib.hid (RB_u1011_1.out.below hb RB_u1011_1.out.lt)
          have RC_u1011_4 := Lib.hid (RC_u1011_1.out.below hb RC_u1011_1.out.lt)
          have B_u1011_4 := Lib.hid (B_u1011_1.out.trans (hb.mono B_u1011_1.out.size))
          clear hb RA_u1011_1 RB_u1011_1 RC_u1011_1 B_u1011_1
          have cu1011_6_0 := RB_u1011_4.out.cell 0
          have cu1011_6_1 := RB_u1011_4.out.cell 1
          have cu1011_6_2 := RB_u1011_4.out.cell 2
          have cu1011_6_3 := RB_u1011_4.out.cell 3
          simp only [List.getElem?_cons_zero, List.getElem?_cons_succ] at cu1011_6_0 cu1011_6_1 cu1011_6_2 cu1011_6_3
          go_wp2_with fail
          refine (HB.out _).mono ?_
          rintro e Wu1011_5 ⟨rfl, hb⟩
          clear cu1011_6_0 cu1011_6_1 cu1011_6_2 cu1011_6_3
          have RA_u1011_7 := Lib.hid (RA_u1011_4.out.below hb RA_u1011_4.out.lt)
          have RB_u1011_7 := Lib.hid (RB_u1011_4.out.below hb RB_u1011_4.out.lt)
          have RC_u1011_7 := Lib.hid (RC_u1011_4.out.below hb RC_u1011_4.out.lt)
          have B_u1011_7 := Lib.hid (B_u1011_4.out.trans (hb.mono B_u1011_4.out.size))
          clear hb RA_u1011_4 RB_u1011_4 RC_u1011_4 B_u1011_4
          have cu1011_8_0 := RA_u1011_7.out.cell 0
          have cu1011_8_1 := RA_u1011_7.out.cell 1
          have cu1011_8_2 := RA_u1011_7.out.cell 2
          have cu1011_8_3 := RA_u1011_7.out.cell 3
          simp only [List.getElem?_cons_zero, List.getElem?_cons_succ] at cu1011_8_0 cu1011_8_1 cu1011_8_2 cu1011_8_3
          have fu1011_8_0 := RA_u1011_7.out.frozen 0
          have fu1011_8_1 := RA_u1011_7.out.frozen 1
          have fu1011_8_2 := RA_u1011_7.out.frozen 2
          have fu1011_8_3 := RA_u1011_7.out.frozen 3
          have cu1011_9_0 := RB_u1011_7.out.cell 0
          have cu1011_9_1 := RB_u1011_7.out.cell 1
          have cu1011_9_2 := RB_u1011_7.out.cell 2
          have cu1011_9_3 := RB_u1011_7.out.cell 3
          simp only [List.getElem?_cons_zero, List.getElem?_cons_succ] at cu1011_9_0 cu1011_9_1 cu1011_9_2 cu1011_9_3
          go_upto_region 5 with fail
          clear cu1011_8_0 cu1011_8_1 cu1011_8_2 cu1011_8_3 fu1011_8_0 fu1011_8_1 fu1011_8_2 fu1011_8_3 cu1011_9_0 cu1011_9_1 cu1011_9_2 cu1011_9_3
          have RA_u1011_10 : Hid (Row (Wu1011_5.setCell ⟨w.heap.size, 0, none⟩ (.int .i64 u0)) (w.heap.size) 23 [.int .i64 u0, .int .i64 x1, .int .i64 y0, .int .i64 y1]) := Lib.hid (RA_u1011_7.out.store 0 (.int .i64 u0))
          have RB_u1011_10 := Lib.hid (RB_u1011_7.out.far (p := ⟨w.heap.size, 0, none⟩) (by dsimp only; omega) (.int .i64 u0))
          have RC_u1011_10 := Lib.hid (RC_u1011_7.out.far (p := ⟨w.heap.size, 0, none⟩) (by dsimp only; omega) (.int .i64 u0))
          have B_u1011_10 := Lib.hid (B_u1011_7.out.setCell (p := ⟨w.heap.size, 0, none⟩) (by dsimp only; omega) (.int .i64 u0))
          clear RA_u1011_7 RB_u1011_7 RC_u1011_7 B_u1011_7
          generalize (Wu1011_5.setCell ⟨w.heap.size, 0, none⟩ (.int .i64 u0)) = Vu1011_10 at RA_u1011_10 RB_u1011_10 RC_u1011_10 B_u1011_10 ⊢
          have cu1011_11_0 := RA_u1011_10.out.cell 0
          have cu1011_11_1 := RA_u1011_10.out.cell 1
          have cu1011_11_2 := RA_u1011_10.out.cell 2
          have cu1011_11_3 := RA_u1011_10.out.cell 3
          simp only [List.getElem?_cons_zero, List.getElem?_cons_succ] at cu1011_11_0 cu1011_11_1 cu1011_11_2 cu1011_11_3
          have fu1011_11_0 := RA_u1011_10.out.frozen 0
          have fu1011_11_1 := RA_u1011_10.out.frozen 1
          have fu1011_11_2 := RA_u1011_10.out.frozen 2
          have fu1011_11_3 := RA_u1011_10.out.frozen 3
          have cu1011_12_0 := RB_u1011_10.out.cell 0
          have cu1011_12_1 := RB_u1011_10.out.cell 1
          have cu1011_12_2 := RB_u1011_10.out.cell 2
          have cu1011_12_3 := RB_u1011_10.out.cell 3
          simp only [List.getElem?_cons_zero, List.getElem?_cons_succ] at cu1011_12_0 cu1011_12_1 cu1011_12_2 cu1011_12_3
          go_upto_region 7 with fail
          clear cu1011_11_0 cu1011_11_1 cu1011_11_2 cu1011_11_3 fu1011_11_0 fu1011_11_1 fu1011_11_2 fu1011_11_3 cu1011_12_0 cu1011_12_1 cu1011_12_2 cu1011_12_3
          have cu1011_13_0 := RA_u1011_10.out.cell 0
          have cu1011_13_1 := RA_u1011_10.out.cell 1
          have cu1011_13_2 := RA_u1011_10.out.cell 2
          have cu1011_13_3 := RA_u1011_10.out.cell 3
          simp only [List.getElem?_cons_zero, List.getElem?_cons_succ] at cu1011_13_0 cu1011_13_1 cu1011_13_2 cu1011_13_3
          have fu1011_13_0 := RA_u1011_10.out.frozen 0
          have fu1011_13_1 := RA_u1011_10.out.frozen 1
          have fu1011_13_2 := RA_u1011_10.out.frozen 2
          have fu1011_13_3 := RA_u1011_10.out.frozen 3
          have cu1011_14_0 := RB_u1011_10.out.cell 0
          have cu1011_14_1 := RB_u1011_10.out.cell 1
          have cu1011_14_2 := RB_u1011_10.out.cell 2
          have cu1011_14_3 := RB_u1011_10.out.cell 3
          simp only [List.getElem?_cons_zero, List.getElem?_cons_succ] at cu1011_14_0 cu1011_14_1 cu1011_14_2 cu1011_14_3
          go_upto_region 9 with fail
          clear cu1011_13_0 cu1011_13_1 cu1011_13_2 cu1011_13_3 fu1011_13_0 fu1011_13_1 fu1011_13_2 fu1011_13_3 cu1011_14_0 cu1011_14_1 cu1011_14_2 cu1011_14_3
          have RA_u1011_15 : Hid (Row (Vu1011_10.setCell ⟨w.heap.size, 2, none⟩ (.int .i64 v0)) (w.heap.size) 23 [.int .i64 u0, .int .i64 x1, .int .i64 v0, .int .i64 y1]) := Lib.hid (RA_u1011_10.out.store 2 (.int .i64 v0))
          have RB_u1011_15 := Lib.hid (RB_u1011_10.out.far (p := ⟨w.heap.size, 2, none⟩) (by dsimp only; omega) (.int .i64 v0))
          have RC_u1011_15 := Lib.hid (RC_u1011_10.out.far (p := ⟨w.heap.size, 2, none⟩) (by dsimp only; omega) (.int .i64 v0))
          have B_u1011_15 := Lib.hid (B_u1011_10.out.setCell (p := ⟨w.heap.size, 2, none⟩) (by dsimp only; omega) (.int .i64 v0))
          clear RA_u1011_10 RB_u1011_10 RC_u1011_10 B_u1011_10
          generalize (Vu1011_10.setCell ⟨w.heap.size, 2, none⟩ (.int .i64 v0)) = Vu1011_15 at RA_u1011_15 RB_u1011_15 RC_u1011_15 B_u1011_15 ⊢
          have cu1011_16_0 := RA_u1011_15.out.cell 0
          have cu1011_16_1 := RA_u1011_15.out.cell 1
          have cu1011_16_2 := RA_u1011_15.out.cell 2
          have cu1011_16_3 := RA_u1011_15.out.cell 3
          simp only [List.getElem?_cons_zero, List.getElem?_cons_succ] at cu1011_16_0 cu1011_16_1 cu1011_16_2 cu1011_16_3
          have fu1011_16_0 := RA_u1011_15.out.frozen 0
          have fu1011_16_1 := RA_u1011_15.out.frozen 1
          have fu1011_16_2 := RA_u1011_15.out.frozen 2
          have fu1011_16_3 := RA_u1011_15.out.frozen 3
          have cu1011_17_0 := RB_u1011_15.out.cell 0
          have cu1011_17_1 := RB_u1011_15.out.cell 1
          have cu1011_17_2 := RB_u1011_15.out.cell 2
          have cu1011_17_3 := RB_u1011_15.out.cell 3
          simp only [List.getElem?_cons_zero, List.getElem?_cons_succ] at cu1011_17_0 cu1011_17_1 cu1011_17_2 cu1011_17_3
          go_upto_region 11 with fail
          clear cu1011_16_0 cu1011_16_1 cu1011_16_2 cu1011_16_3 fu1011_16_0 fu1011_16_1 fu1011_16_2 fu1011_16_3 cu1011_17_0 cu1011_17_1 cu1011_17_2 cu1011_17_3
          have RA_u1011_18 : Hid (Row (Vu1011_15.setCell ⟨w.heap.size, 3, none⟩ (.int .i64 v1)) (w.heap.size) 23 [.int .i64 u0, .int .i64 x1, .int .i64 v0, .int .i64 v1]) := Lib.hid (RA_u1011_15.out.store 3 (.int .i64 v1))
          have RB_u1011_18 := Lib.hid (RB_u1011_15.out.far (p := ⟨w.heap.size, 3, none⟩) (by dsimp only; omega) (.int .i64 v1))
          have RC_u1011_18 := Lib.hid (RC_u1011_15.out.far (p := ⟨w.heap.size, 3, none⟩) (by dsimp only; omega) (.int .i64 v1))
          have B_u1011_18 := Lib.hid (B_u1011_15.out.setCell (p := ⟨w.heap.size, 3, none⟩) (by dsimp only; omega) (.int .i64 v1))
          clear RA_u1011_15 RB_u1011_15 RC_u1011_15 B_u1011_15
          generalize (Vu1011_15.setCell ⟨w.heap.size, 3, none⟩ (.int .i64 v1)) = Vu1011_18 at RA_u1011_18 RB_u1011_18 RC_u1011_18 B_u1011_18 ⊢
          have cu1011_19_0 := RA_u1011_18.out.cell 0
          have cu1011_19_1 := RA_u1011_18.out.cell 1
          have cu1011_19_2 := RA_u1011_18.out.cell 2
          have cu1011_19_3 := RA_u1011_18.out.cell 3
          simp only [List.getElem?_cons_zero, List.getElem?_cons_succ] at cu1011_19_0 cu1011_19_1 cu1011_19_2 cu1011_19_3
          have cu1011_20_0 := RC_u1011_18.out.cell 0
          have cu1011_20_1 := RC_u1011_18.out.cell 1
          have cu1011_20_2 := RC_u1011_18.out.cell 2
          have cu1011_20_3 := RC_u1011_18.out.cell 3
          simp only [List.getElem?_cons_zero, List.getElem?_cons_succ] at cu1011_20_0 cu1011_20_1 cu1011_20_2 cu1011_20_3
          have fu1011_20_0 := RC_u1011_18.out.frozen 0
          have fu1011_20_1 := RC_u1011_18.out.frozen 1
          have fu1011_20_2 := RC_u1011_18.out.frozen 2
          have fu1011_20_3 := RC_u1011_18.out.frozen 3
          go_wp2
          exact bodyPost_ret (v := KV u0 x1 v0 v1) (by simp [results, Try.results16, go_sem, *]) rfl ⟨rfl, by repeat (first | exact B_u1011_18.out | refine Below.setCell ?_ (by first | omega | (simp; done) | (simp; omega)) _ | refine Below.alloc ?_ (by have := B_u1011_18.out.size; first | omega | (simp; done) | (simp; omega)) _)⟩
        · rw [if_pos h0, if_neg h1, if_pos h2, if_neg h3]
          go_enter Try.func16, Try.ntmps16
          go_upto_region 1 with fail
          have RA_u1010_1 := Lib.hid (((row_last w (w.heap.size) 23 [.int .i64 x0, .int .i64 x1, .int .i64 y0, .int .i64 y1] (by simp)).alloc (.cells #[.int .i64 u0, .int .i64 u1, .int .i64 v0, .int .i64 v1] 23)).alloc (.cells #[.int .i64 0, .int .i64 0, .int .i64 0, .int .i64 0] 23))
          have RB_u1010_1 := Lib.hid ((row_last (w.alloc (.cells #[.int .i64 x0, .int .i64 x1, .int .i64 y0, .int .i64 y1] 23)) (w.heap.size + 1) 23 [.int .i64 u0, .int .i64 u1, .int .i64 v0, .int .i64 v1] (by simp)).alloc (.cells #[.int .i64 0, .int .i64 0, .int .i64 0, .int .i64 0] 23))
          have RC_u1010_1 := Lib.hid (row_last ((w.alloc (.cells #[.int .i64 x0, .int .i64 x1, .int .i64 y0, .int .i64 y1] 23)).alloc (.cells #[.int .i64 u0, .int .i64 u1, .int .i64 v0, .int .i64 v1] 23)) (w.heap.size + 1 + 1) 23 [.int .i64 0, .int .i64 0, .int .i64 0, .int .i64 0] (by simp))
          have B_u1010_1 := Lib.hid ((((Below.refl w.heap.size w).alloc (Nat.le_refl _) (.cells #[.int .i64 x0, .int .i64 x1, .int .i64 y0, .int .i64 y1] 23)).alloc (by have := Nat.le_refl w.heap.size; simp <;> omega) (.cells #[.int .i64 u0, .int .i64 u1, .int .i64 v0, .int .i64 v1] 23)).alloc (by have := Nat.le_refl w.heap.size; simp <;> omega) (.cells #[.int .i64 0, .int .i64 0, .int .i64 0, .int .i64 0] 23))
          generalize (((w.alloc (.cells #[.int .i64 x0, .int .i64 x1, .int .i64 y0, .int .i64 y1] 23)).alloc (.cells #[.int .i64 u0, .int .i64 u1, .int .i64 v0, .int .i64 v1] 23)).alloc (.cells #[.int .i64 0, .int .i64 0, .int .i64 0, .int .i64 0] 23)) = Vu1010_1 at RA_u1010_1 RB_u1010_1 RC_u1010_1 B_u1010_1 ⊢
          have cu1010_3_0 := RA_u1010_1.out.cell 0
          have cu1010_3_1 := RA_u1010_1.out.cell 1
          have cu1010_3_2 := RA_u1010_1.out.cell 2
          have cu1010_3_3 := RA_u1010_1.out.cell 3
          simp only [List.getElem?_cons_zero, List.getElem?_cons_succ] at cu1010_3_0 cu1010_3_1 cu1010_3_2 cu1010_3_3
          go_wp2_with fail
          refine (HA.out _).mono ?_
          rintro e Wu1010_2 ⟨rfl, hb⟩
          clear cu1010_3_0 cu1010_3_1 cu1010_3_2 cu1010_3_3
          have RA_u1010_4 := Lib.hid (RA_u1010_1.out.below hb RA_u1010_1.out.lt)
          have RB_u1010_4 := Lib.hid (RB_u1010_1.out.below hb RB_u1010_1.out.lt)
          have RC_u1010_4 := Lib.hid (RC_u1010_1.out.below hb RC_u1010_1.out.lt)
          have B_u1010_4 := Lib.hid (B_u1010_1.out.trans (hb.mono B_u1010_1.out.size))
          clear hb RA_u1010_1 RB_u1010_1 RC_u1010_1 B_u1010_1
          have cu1010_6_0 := RB_u1010_4.out.cell 0
          have cu1010_6_1 := RB_u1010_4.out.cell 1
          have cu1010_6_2 := RB_u1010_4.out.cell 2
          have cu1010_6_3 := RB_u1010_4.out.cell 3
          simp only [List.getElem?_cons_zero, List.getElem?_cons_succ] at cu1010_6_0 cu1010_6_1 cu1010_6_2 cu1010_6_3
          go_wp2_with fail
          refine (HB.out _).mono ?_
          rintro e Wu1010_5 ⟨rfl, hb⟩
          clear cu1010_6_0 cu1010_6_1 cu1010_6_2 cu1010_6_3
          have RA_u1010_7 := Lib.hid (RA_u1010_4.out.below hb RA_u1010_4.out.lt)
          have RB_u1010_7 := Lib.hid (RB_u1010_4.out.below hb RB_u1010_4.out.lt)
          have RC_u1010_7 := Lib.hid (RC_u1010_4.out.below hb RC_u1010_4.out.lt)
          have B_u1010_7 := Lib.hid (B_u1010_4.out.trans (hb.mono B_u1010_4.out.size))
          clear hb RA_u1010_4 RB_u1010_4 RC_u1010_4 B_u1010_4
          have cu1010_8_0 := RA_u1010_7.out.cell 0
          have cu1010_8_1 := RA_u1010_7.out.cell 1
          have cu1010_8_2 := RA_u1010_7.out.cell 2
          have cu1010_8_3 := RA_u1010_7.out.cell 3
          simp only [List.getElem?_cons_zero, List.getElem?_cons_succ] at cu1010_8_0 cu1010_8_1 cu1010_8_2 cu1010_8_3
          have fu1010_8_0 := RA_u1010_7.out.frozen 0
          have fu1010_8_1 := RA_u1010_7.out.frozen 1
          have fu1010_8_2 := RA_u1010_7.out.frozen 2
          have fu1010_8_3 := RA_u1010_7.out.frozen 3
          have cu1010_9_0 := RB_u1010_7.out.cell 0
          have cu1010_9_1 := RB_u1010_7.out.cell 1
          have cu1010_9_2 := RB_u1010_7.out.cell 2
          have cu1010_9_3 := RB_u1010_7.out.cell 3
          simp only [List.getElem?_cons_zero, List.getElem?_cons_succ] at cu1010_9_0 cu1010_9_1 cu1010_9_2 cu1010_9_3
          go_upto_region 5 with fail
          clear cu1010_8_0 cu1010_8_1 cu1010_8_2 cu1010_8_3 fu1010_8_0 fu1010_8_1 fu1010_8_2 fu1010_8_3 cu1010_9_0 cu1010_9_1 cu1010_9_2 cu1010_9_3
          have RA_u1010_10 : Hid (Row (Wu1010_5.setCell ⟨w.heap.size, 0, none⟩ (.int .i64 u0)) (w.heap.size) 23 [.int .i64 u0, .int .i64 x1, .int .i64 y0, .int .i64 y1]) := Lib.hid (RA_u1010_7.out.store 0 (.int .i64 u0))
          have RB_u1010_10 := Lib.hid (RB_u1010_7.out.far (p := ⟨w.heap.size, 0, none⟩) (by dsimp only; omega) (.int .i64 u0))
          have RC_u1010_10 := Lib.hid (RC_u1010_7.out.far (p := ⟨w.heap.size, 0, none⟩) (by dsimp only; omega) (.int .i64 u0))
          have B_u1010_10 := Lib.hid (B_u1010_7.out.setCell (p := ⟨w.heap.size, 0, none⟩) (by dsimp only; omega) (.int .i64 u0))
          clear RA_u1010_7 RB_u1010_7 RC_u1010_7 B_u1010_7
          generalize (Wu1010_5.setCell ⟨w.heap.size, 0, none⟩ (.int .i64 u0)) = Vu1010_10 at RA_u1010_10 RB_u1010_10 RC_u1010_10 B_u1010_10 ⊢
          have cu1010_11_0 := RA_u1010_10.out.cell 0
          have cu1010_11_1 := RA_u1010_10.out.cell 1
          have cu1010_11_2 := RA_u1010_10.out.cell 2
          have cu1010_11_3 := RA_u1010_10.out.cell 3
          simp only [List.getElem?_cons_zero, List.getElem?_cons_succ] at cu1010_11_0 cu1010_11_1 cu1010_11_2 cu1010_11_3
          have fu1010_11_0 := RA_u1010_10.out.frozen 0
          have fu1010_11_1 := RA_u1010_10.out.frozen 1
          have fu1010_11_2 := RA_u1010_10.out.frozen 2
          have fu1010_11_3 := RA_u1010_10.out.frozen 3
          have cu1010_12_0 := RB_u1010_10.out.cell 0
          have cu1010_12_1 := RB_u1010_10.out.cell 1
          have cu1010_12_2 := RB_u1010_10.out.cell 2
          have cu1010_12_3 := RB_u1010_10.out.cell 3
          simp only [List.getElem?_cons_zero, List.getElem?_cons_succ] at cu1010_12_0 cu1010_12_1 cu1010_12_2 cu1010_12_3
          go_upto_region 7 with fail
          clear cu1010_11_0 cu1010_11_1 cu1010_11_2 cu1010_11_3 fu1010_11_0 fu1010_11_1 fu1010_11_2 fu1010_11_3 cu1010_12_0 cu1010_12_1 cu1010_12_2 cu1010_12_3
          have cu1010_13_0 := RA_u1010_10.out.cell 0
          have cu1010_13_1 := RA_u1010_10.out.cell 1
          have cu1010_13_2 := RA_u1010_10.out.cell 2
          have cu1010_13_3 := RA_u1010_10.out.cell 3
          simp only [List.getElem?_cons_zero, List.getElem?_cons_succ] at cu1010_13_0 cu1010_13_1 cu1010_13_2 cu1010_13_3
          have fu1010_13_0 := RA_u1010_10.out.frozen 0
          have fu1010_13_1 := RA_u1010_10.out.frozen 1
          have fu1010_13_2 := RA_u1010_10.out.frozen 2
          have fu1010_13_3 := RA_u1010_10.out.frozen 3
          have cu1010_14_0 := RB_u1010_10.out.cell 0
          have cu1010_14_1 := RB_u1010_10.out.cell 1
          have cu1010_14_2 := RB_u1010_10.out.cell 2
          have cu1010_14_3 := RB_u1010_10.out.cell 3
          simp only [List.getElem?_cons_zero, List.getElem?_cons_succ] at cu1010_14_0 cu1010_14_1 cu1010_14_2 cu1010_14_3
          go_upto_region 9 with fail
          clear cu1010_13_0 cu1010_13_1 cu1010_13_2 cu1010_13_3 fu1010_13_0 fu1010_13_1 fu1010_13_2 fu1010_13_3 cu1010_14_0 cu1010_14_1 cu1010_14_2 cu1010_14_3
          have RA_u1010_15 : Hid (Row (Vu1010_10.setCell ⟨w.heap.size, 2, none⟩ (.int .i64 v0)) (w.heap.size) 23 [.int .i64 u0, .int .i64 x1, .int .i64 v0, .int .i64 y1]) := Lib.hid (RA_u1010_10.out.store 2 (.int .i64 v0))
          have RB_u1010_15 := Lib.hid (RB_u1010_10.out.far (p := ⟨w.heap.size, 2, none⟩) (by dsimp only; omega) (.int .i64 v0))
          have RC_u1010_15 := Lib.hid (RC_u1010_10.out.far (p := ⟨w.heap.size, 2, none⟩) (by dsimp only; omega) (.int .i64 v0))
          have B_u1010_15 := Lib.hid (B_u1010_10.out.setCell (p := ⟨w.heap.size, 2, none⟩) (by dsimp only; omega) (.int .i64 v0))
          clear RA_u1010_10 RB_u1010_10 RC_u1010_10 B_u1010_10
          generalize (Vu1010_10.setCell ⟨w.heap.size, 2, none⟩ (.int .i64 v0)) = Vu1010_15 at RA_u1010_15 RB_u1010_15 RC_u1010_15 B_u1010_15 ⊢
          have cu1010_16_0 := RA_u1010_15.out.cell 0
          have cu1010_16_1 := RA_u1010_15.out.cell 1
          have cu1010_16_2 := RA_u1010_15.out.cell 2
          have cu1010_16_3 := RA_u1010_15.out.cell 3
          simp only [List.getElem?_cons_zero, List.getElem?_cons_succ] at cu1010_16_0 cu1010_16_1 cu1010_16_2 cu1010_16_3
          have fu1010_16_0 := RA_u1010_15.out.frozen 0
          have fu1010_16_1 := RA_u1010_15.out.frozen 1
          have fu1010_16_2 := RA_u1010_15.out.frozen 2
          have fu1010_16_3 := RA_u1010_15.out.frozen 3
          have cu1010_17_0 := RB_u1010_15.out.cell 0
          have cu1010_17_1 := RB_u1010_15.out.cell 1
          have cu1010_17_2 := RB_u1010_15.out.cell 2
          have cu1010_17_3 := RB_u1010_15.out.cell 3
          simp only [List.getElem?_cons_zero, List.getElem?_cons_succ] at cu1010_17_0 cu1010_17_1 cu1010_17_2 cu1010_17_3
          go_upto_region 11 with fail
          clear cu1010_16_0 cu1010_16_1 cu1010_16_2 cu1010_16_3 fu1010_16_0 fu1010_16_1 fu1010_16_2 fu1010_16_3 cu1010_17_0 cu1010_17_1 cu1010_17_2 cu1010_17_3
          have cu1010_18_0 := RA_u1010_15.out.cell 0
          have cu1010_18_1 := RA_u1010_15.out.cell 1
          have cu1010_18_2 := RA_u1010_15.out.cell 2
          have cu1010_18_3 := RA_u1010_15.out.cell 3
          simp only [List.getElem?_cons_zero, List.getElem?_cons_succ] at cu1010_18_0 cu1010_18_1 cu1010_18_2 cu1010_18_3
          have cu1010_19_0 := RC_u1010_15.out.cell 0
          have cu1010_19_1 := RC_u1010_15.out.cell 1
          have cu1010_19_2 := RC_u1010_15.out.cell 2
          have cu1010_19_3 := RC_u1010_15.out.cell 3
          simp only [List.getElem?_cons_zero, List.getElem?_cons_succ] at cu1010_19_0 cu1010_19_1 cu1010_19_2 cu1010_19_3
          have fu1010_19_0 := RC_u1010_15.out.frozen 0
          have fu1010_19_1 := RC_u1010_15.out.frozen 1
          have fu1010_19_2 := RC_u1010_15.out.frozen 2
          have fu1010_19_3 := RC_u1010_15.out.frozen 3
          go_wp2
          exact bodyPost_ret (v := KV u0 x1 v0 y1) (by simp [results, Try.results16, go_sem, *]) rfl ⟨rfl, by repeat (first | exact B_u1010_15.out | refine Below.setCell ?_ (by first | omega | (simp; done) | (simp; omega)) _ | refine Below.alloc ?_ (by have := B_u1010_15.out.size; first | omega | (simp; done) | (simp; omega)) _)⟩
      · by_cases h3 : y1 < v1
        · rw [if_pos h0, if_neg h1, if_neg h2, if_pos h3]
          go_enter Try.func16, Try.ntmps16
          go_upto_region 1 with fail
          have RA_u1001_1 := Lib.hid (((row_last w (w.heap.size) 23 [.int .i64 x0, .int .i64 x1, .int .i64 y0, .int .i64 y1] (by simp)).alloc (.cells #[.int .i64 u0, .int .i64 u1, .int .i64 v0, .int .i64 v1] 23)).alloc (.cells #[.int .i64 0, .int .i64 0, .int .i64 0, .int .i64 0] 23))
          have RB_u1001_1 := Lib.hid ((row_last (w.alloc (.cells #[.int .i64 x0, .int .i64 x1, .int .i64 y0, .int .i64 y1] 23)) (w.heap.size + 1) 23 [.int .i64 u0, .int .i64 u1, .int .i64 v0, .int .i64 v1] (by simp)).alloc (.cells #[.int .i64 0, .int .i64 0, .int .i64 0, .int .i64 0] 23))
          have RC_u1001_1 := Lib.hid (row_last ((w.alloc (.cells #[.int .i64 x0, .int .i64 x1, .int .i64 y0, .int .i64 y1] 23)).alloc (.cells #[.int .i64 u0, .int .i64 u1, .int .i64 v0, .int .i64 v1] 23)) (w.heap.size + 1 + 1) 23 [.int .i64 0, .int .i64 0, .int .i64 0, .int .i64 0] (by simp))
          have B_u1001_1 := Lib.hid ((((Below.refl w.heap.size w).alloc (Nat.le_refl _) (.cells #[.int .i64 x0, .int .i64 x1, .int .i64 y0, .int .i64 y1] 23)).alloc (by have := Nat.le_refl w.heap.size; simp <;> omega) (.cells #[.int .i64 u0, .int .i64 u1, .int .i64 v0, .int .i64 v1] 23)).alloc (by have := Nat.le_refl w.heap.size; simp <;> omega) (.cells #[.int .i64 0, .int .i64 0, .int .i64 0, .int .i64 0] 23))
          generalize (((w.alloc (.cells #[.int .i64 x0, .int .i64 x1, .int .i64 y0, .int .i64 y1] 23)).alloc (.cells #[.int .i64 u0, .int .i64 u1, .int .i64 v0, .int .i64 v1] 23)).alloc (.cells #[.int .i64 0, .int .i64 0, .int .i64 0, .int .i64 0] 23)) = Vu1001_1 at RA_u1001_1 RB_u1001_1 RC_u1001_1 B_u1001_1 ⊢
          have cu1001_3_0 := RA_u1001_1.out.cell 0
          have cu1001_3_1 := RA_u1001_1.out.cell 1
          have cu1001_3_2 := RA_u1001_1.out.cell 2
          have cu1001_3_3 := RA_u1001_1.out.cell 3
          simp only [List.getElem?_cons_zero, List.getElem?_cons_succ] at cu1001_3_0 cu1001_3_1 cu1001_3_2 cu1001_3_3
          go_wp2_with fail
          refine (HA.out _).mono ?_
          rintro e Wu1001_2 ⟨rfl, hb⟩
          clear cu1001_3_0 cu1001_3_1 cu1001_3_2 cu1001_3_3
          have RA_u1001_4 := Lib.hid (RA_u1001_1.out.below hb RA_u1001_1.out.lt)
          have RB_u1001_4 := Lib.hid (RB_u1001_1.out.below hb RB_u1001_1.out.lt)
          have RC_u1001_4 := Lib.hid (RC_u1001_1.out.below hb RC_u1001_1.out.lt)
          have B_u1001_4 := Lib.hid (B_u1001_1.out.trans (hb.mono B_u1001_1.out.size))
          clear hb RA_u1001_1 RB_u1001_1 RC_u1001_1 B_u1001_1
          have cu1001_6_0 := RB_u1001_4.out.cell 0
          have cu1001_6_1 := RB_u1001_4.out.cell 1
          have cu1001_6_2 := RB_u1001_4.out.cell 2
          have cu1001_6_3 := RB_u1001_4.out.cell 3
          simp only [List.getElem?_cons_zero, List.getElem?_cons_succ] at cu1001_6_0 cu1001_6_1 cu1001_6_2 cu1001_6_3
          go_wp2_with fail
          refine (HB.out _).mono ?_
          rintro e Wu1001_5 ⟨rfl, hb⟩
          clear cu1001_6_0 cu1001_6_1 cu1001_6_2 cu1001_6_3
          have RA_u1001_7 := Lib.hid (RA_u1001_4.out.below hb RA_u1001_4.out.lt)
          have RB_u1001_7 := Lib.hid (RB_u1001_4.out.below hb RB_u1001_4.out.lt)
          have RC_u1001_7 := Lib.hid (RC_u1001_4.out.below hb RC_u1001_4.out.lt)
          have B_u1001_7 := Lib.hid (B_u1001_4.out.trans (hb.mono B_u1001_4.out.size))
          clear hb RA_u1001_4 RB_u1001_4 RC_u1001_4 B_u1001_4
          have cu1001_8_0 := RA_u1001_7.out.cell 0
          have cu1001_8_1 := RA_u1001_7.out.cell 1
          have cu1001_8_2 := RA_u1001_7.out.cell 2
          have cu1001_8_3 := RA_u1001_7.out.cell 3
          simp only [List.getElem?_cons_zero, List.getElem?_cons_succ] at cu1001_8_0 cu1001_8_1 cu1001_8_2 cu1001_8_3
          have fu1001_8_0 := RA_u1001_7.out.frozen 0
          have fu1001_8_1 := RA_u1001_7.out.frozen 1
          have fu1001_8_2 := RA_u1001_7.out.frozen 2
          have fu1001_8_3 := RA_u1001_7.out.frozen 3
          have cu1001_9_0 := RB_u1001_7.out.cell 0
          have cu1001_9_1 := RB_u1001_7.out.cell 1
          have cu1001_9_2 := RB_u1001_7.out.cell 2
          have cu1001_9_3 := RB_u1001_7.out.cell 3
          simp only [List.getElem?_cons_zero, List.getElem?_cons_succ] at cu1001_9_0 cu1001_9_1 cu1001_9_2 cu1001_9_3
          go_upto_region 5 with fail
          clear cu1001_8_0 cu1001_8_1 cu1001_8_2 cu1001_8_3 fu1001_8_0 fu1001_8_1 fu1001_8_2 fu1001_8_3 cu1001_9_0 cu1001_9_1 cu1001_9_2 cu1001_9_3
          have RA_u1001_10 : Hid (Row (Wu1001_5.setCell ⟨w.heap.size, 0, none⟩ (.int .i64 u0)) (w.heap.size) 23 [.int .i64 u0, .int .i64 x1, .int .i64 y0, .int .i64 y1]) := Lib.hid (RA_u1001_7.out.store 0 (.int .i64 u0))
          have RB_u1001_10 := Lib.hid (RB_u1001_7.out.far (p := ⟨w.heap.size, 0, none⟩) (by dsimp only; omega) (.int .i64 u0))
          have RC_u1001_10 := Lib.hid (RC_u1001_7.out.far (p := ⟨w.heap.size, 0, none⟩) (by dsimp only; omega) (.int .i64 u0))
          have B_u1001_10 := Lib.hid (B_u1001_7.out.setCell (p := ⟨w.heap.size, 0, none⟩) (by dsimp only; omega) (.int .i64 u0))
          clear RA_u1001_7 RB_u1001_7 RC_u1001_7 B_u1001_7
          generalize (Wu1001_5.setCell ⟨w.heap.size, 0, none⟩ (.int .i64 u0)) = Vu1001_10 at RA_u1001_10 RB_u1001_10 RC_u1001_10 B_u1001_10 ⊢
          have cu1001_11_0 := RA_u1001_10.out.cell 0
          have cu1001_11_1 := RA_u1001_10.out.cell 1
          have cu1001_11_2 := RA_u1001_10.out.cell 2
          have cu1001_11_3 := RA_u1001_10.out.cell 3
          simp only [List.getElem?_cons_zero, List.getElem?_cons_succ] at cu1001_11_0 cu1001_11_1 cu1001_11_2 cu1001_11_3
          have fu1001_11_0 := RA_u1001_10.out.frozen 0
          have fu1001_11_1 := RA_u1001_10.out.frozen 1
          have fu1001_11_2 := RA_u1001_10.out.frozen 2
          have fu1001_11_3 := RA_u1001_10.out.frozen 3
          have cu1001_12_0 := RB_u1001_10.out.cell 0
          have cu1001_12_1 := RB_u1001_10.out.cell 1
          have cu1001_12_2 := RB_u1001_10.out.cell 2
          have cu1001_12_3 := RB_u1001_10.out.cell 3
          simp only [List.getElem?_cons_zero, List.getElem?_cons_succ] at cu1001_12_0 cu1001_12_1 cu1001_12_2 cu1001_12_3
          go_upto_region 7 with fail
          clear cu1001_11_0 cu1001_11_1 cu1001_11_2 cu1001_11_3 fu1001_11_0 fu1001_11_1 fu1001_11_2 fu1001_11_3 cu1001_12_0 cu1001_12_1 cu1001_12_2 cu1001_12_3
          have cu1001_13_0 := RA_u1001_10.out.cell 0
          have cu1001_13_1 := RA_u1001_10.out.cell 1
          have cu1001_13_2 := RA_u1001_10.out.cell 2
          have cu1001_13_3 := RA_u1001_10.out.cell 3
          simp only [List.getElem?_cons_zero, List.getElem?_cons_succ] at cu1001_13_0 cu1001_13_1 cu1001_13_2 cu1001_13_3
          have fu1001_13_0 := RA_u1001_10.out.frozen 0
          have fu1001_13_1 := RA_u1001_10.out.frozen 1
          have fu1001_13_2 := RA_u1001_10.out.frozen 2
          have fu1001_13_3 := RA_u1001_10.out.frozen 3
          have cu1001_14_0 := RB_u1001_10.out.cell 0
          have cu1001_14_1 := RB_u1001_10.out.cell 1
          have cu1001_14_2 := RB_u1001_10.out.cell 2
          have cu1001_14_3 := RB_u1001_10.out.cell 3
          simp only [List.getElem?_cons_zero, List.getElem?_cons_succ] at cu1001_14_0 cu1001_14_1 cu1001_14_2 cu1001_14_3
          go_upto_region 9 with fail
          clear cu1001_13_0 cu1001_13_1 cu1001_13_2 cu1001_13_3 fu1001_13_0 fu1001_13_1 fu1001_13_2 fu1001_13_3 cu1001_14_0 cu1001_14_1 cu1001_14_2 cu1001_14_3
          have cu1001_15_0 := RA_u1001_10.out.cell 0
          have cu1001_15_1 := RA_u1001_10.out.cell 1
          have cu1001_15_2 := RA_u1001_10.out.cell 2
          have cu1001_15_3 := RA_u1001_10.out.cell 3
          simp only [List.getElem?_cons_zero, List.getElem?_cons_succ] at cu1001_15_0 cu1001_15_1 cu1001_15_2 cu1001_15_3
          have fu1001_15_0 := RA_u1001_10.out.frozen 0
          have fu1001_15_1 := RA_u1001_10.out.frozen 1
          have fu1001_15_2 := RA_u1001_10.out.frozen 2
          have fu1001_15_3 := RA_u1001_10.out.frozen 3
          have cu1001_16_0 := RB_u1001_10.out.cell 0
          have cu1001_16_1 := RB_u1001_10.out.cell 1
          have cu1001_16_2 := RB_u1001_10.out.cell 2
          have cu1001_16_3 := RB_u1001_10.out.cell 3
          simp only [List.getElem?_cons_zero, List.getElem?_cons_succ] at cu1001_16_0 cu1001_16_1 cu1001_16_2 cu1001_16_3
          go_upto_region 11 with fail
          clear cu1001_15_0 cu1001_15_1 cu1001_15_2 cu1001_15_3 fu1001_15_0 fu1001_15_1 fu1001_15_2 fu1001_15_3 cu1001_16_0 cu1001_16_1 cu1001_16_2 cu1001_16_3
          have RA_u1001_17 : Hid (Row (Vu1001_10.setCell ⟨w.heap.size, 3, none⟩ (.int .i64 v1)) (w.heap.size) 23 [.int .i64 u0, .int .i64 x1, .int .i64 y0, .int .i64 v1]) := Lib.hid (RA_u1001_10.out.store 3 (.int .i64 v1))
          have RB_u1001_17 := Lib.hid (RB_u1001_10.out.far (p := ⟨w.heap.size, 3, none⟩) (by dsimp only; omega) (.int .i64 v1))
          have RC_u1001_17 := Lib.hid (RC_u1001_10.out.far (p := ⟨w.heap.size, 3, none⟩) (by dsimp only; omega) (.int .i64 v1))
          have B_u1001_17 := Lib.hid (B_u1001_10.out.setCell (p := ⟨w.heap.size, 3, none⟩) (by dsimp only; omega) (.int .i64 v1))
          clear RA_u1001_10 RB_u1001_10 RC_u1001_10 B_u1001_10
          generalize (Vu1001_10.setCell ⟨w.heap.size, 3, none⟩ (.int .i64 v1)) = Vu1001_17 at RA_u1001_17 RB_u1001_17 RC_u1001_17 B_u1001_17 ⊢
          have cu1001_18_0 := RA_u1001_17.out.cell 0
          have cu1001_18_1 := RA_u1001_17.out.cell 1
          have cu1001_18_2 := RA_u1001_17.out.cell 2
          have cu1001_18_3 := RA_u1001_17.out.cell 3
          simp only [List.getElem?_cons_zero, List.getElem?_cons_succ] at cu1001_18_0 cu1001_18_1 cu1001_18_2 cu1001_18_3
          have cu1001_19_0 := RC_u1001_17.out.cell 0
          have cu1001_19_1 := RC_u1001_17.out.cell 1
          have cu1001_19_2 := RC_u1001_17.out.cell 2
          have cu1001_19_3 := RC_u1001_17.out.cell 3
          simp only [List.getElem?_cons_zero, List.getElem?_cons_succ] at cu1001_19_0 cu1001_19_1 cu1001_19_2 cu1001_19_3
          have fu1001_19_0 := RC_u1001_17.out.frozen 0
          have fu1001_19_1 := RC_u1001_17.out.frozen 1
          have fu1001_19_2 := RC_u1001_17.out.frozen 2
          have fu1001_19_3 := RC_u1001_17.out.frozen 3
          go_wp2
          exact bodyPost_ret (v := KV u0 x1 y0 v1) (by simp [results, Try.results16, go_sem, *]) rfl ⟨rfl, by repeat (first | exact B_u1001_17.out | refine Below.setCell ?_ (by first | omega | (simp; done) | (simp; omega)) _ | refine Below.alloc ?_ (by have := B_u1001_17.out.size; first | omega | (simp; done) | (simp; omega)) _)⟩
        · rw [if_pos h0, if_neg h1, if_neg h2, if_neg h3]
          go_enter Try.func16, Try.ntmps16
          go_upto_region 1 with fail
          have RA_u1000_1 := Lib.hid (((row_last w (w.heap.size) 23 [.int .i64 x0, .int .i64 x1, .int .i64 y0, .int .i64 y1] (by simp)).alloc (.cells #[.int .i64 u0, .int .i64 u1, .int .i64 v0, .int .i64 v1] 23)).alloc (.cells #[.int .i64 0, .int .i64 0, .int .i64 0, .int .i64 0] 23))
          have RB_u1000_1 := Lib.hid ((row_last (w.alloc (.cells #[.int .i64 x0, .int .i64 x1, .int .i64 y0, .int .i64 y1] 23)) (w.heap.size + 1) 23 [.int .i64 u0, .int .i64 u1, .int .i64 v0, .int .i64 v1] (by simp)).alloc (.cells #[.int .i64 0, .int .i64 0, .int .i64 0, .int .i64 0] 23))
          have RC_u1000_1 := Lib.hid (row_last ((w.alloc (.cells #[.int .i64 x0, .int .i64 x1, .int .i64 y0, .int .i64 y1] 23)).alloc (.cells #[.int .i64 u0, .int .i64 u1, .int .i64 v0, .int .i64 v1] 23)) (w.heap.size + 1 + 1) 23 [.int .i64 0, .int .i64 0, .int .i64 0, .int .i64 0] (by simp))
          have B_u1000_1 := Lib.hid ((((Below.refl w.heap.size w).alloc (Nat.le_refl _) (.cells #[.int .i64 x0, .int .i64 x1, .int .i64 y0, .int .i64 y1] 23)).alloc (by have := Nat.le_refl w.heap.size; simp <;> omega) (.cells #[.int .i64 u0, .int .i64 u1, .int .i64 v0, .int .i64 v1] 23)).alloc (by have := Nat.le_refl w.heap.size; simp <;> omega) (.cells #[.int .i64 0, .int .i64 0, .int .i64 0, .int .i64 0] 23))
          generalize (((w.alloc (.cells #[.int .i64 x0, .int .i64 x1, .int .i64 y0, .int .i64 y1] 23)).alloc (.cells #[.int .i64 u0, .int .i64 u1, .int .i64 v0, .int .i64 v1] 23)).alloc (.cells #[.int .i64 0, .int .i64 0, .int .i64 0, .int .i64 0] 23)) = Vu1000_1 at RA_u1000_1 RB_u1000_1 RC_u1000_1 B_u1000_1 ⊢
          have cu1000_3_0 := RA_u1000_1.out.cell 0
          have cu1000_3_1 := RA_u1000_1.out.cell 1
          have cu1000_3_2 := RA_u1000_1.out.cell 2
          have cu1000_3_3 := RA_u1000_1.out.cell 3
          simp only [List.getElem?_cons_zero, List.getElem?_cons_succ] at cu1000_3_0 cu1000_3_1 cu1000_3_2 cu1000_3_3
          go_wp2_with fail
          refine (HA.out _).mono ?_
          rintro e Wu1000_2 ⟨rfl, hb⟩
          clear cu1000_3_0 cu1000_3_1 cu1000_3_2 cu1000_3_3
          have RA_u1000_4 := Lib.hid (RA_u1000_1.out.below hb RA_u1000_1.out.lt)
          have RB_u1000_4 := Lib.hid (RB_u1000_1.out.below hb RB_u1000_1.out.lt)
          have RC_u1000_4 := Lib.hid (RC_u1000_1.out.below hb RC_u1000_1.out.lt)
          have B_u1000_4 := Lib.hid (B_u1000_1.out.trans (hb.mono B_u1000_1.out.size))
          clear hb RA_u1000_1 RB_u1000_1 RC_u1000_1 B_u1000_1
          have cu1000_6_0 := RB_u1000_4.out.cell 0
          have cu1000_6_1 := RB_u1000_4.out.cell 1
          have cu1000_6_2 := RB_u1000_4.out.cell 2
          have cu1000_6_3 := RB_u1000_4.out.cell 3
          simp only [List.getElem?_cons_zero, List.getElem?_cons_succ] at cu1000_6_0 cu1000_6_1 cu1000_6_2 cu1000_6_3
          go_wp2_with fail
          refine (HB.out _).mono ?_
          rintro e Wu1000_5 ⟨rfl, hb⟩
          clear cu1000_6_0 cu1000_6_1 cu1000_6_2 cu1000_6_3
          have RA_u1000_7 := Lib.hid (RA_u1000_4.out.below hb RA_u1000_4.out.lt)
          have RB_u1000_7 := Lib.hid (RB_u1000_4.out.below hb RB_u1000_4.out.lt)
          have RC_u1000_7 := Lib.hid (RC_u1000_4.out.below hb RC_u1000_4.out.lt)
          have B_u1000_7 := Lib.hid (B_u1000_4.out.trans (hb.mono B_u1000_4.out.size))
          clear hb RA_u1000_4 RB_u1000_4 RC_u1000_4 B_u1000_4
          have cu1000_8_0 := RA_u1000_7.out.cell 0
          have cu1000_8_1 := RA_u1000_7.out.cell 1
          have cu1000_8_2 := RA_u1000_7.out.cell 2
          have cu1000_8_3 := RA_u1000_7.out.cell 3
          simp only [List.getElem?_cons_zero, List.getElem?_cons_succ] at cu1000_8_0 cu1000_8_1 cu1000_8_2 cu1000_8_3
          have fu1000_8_0 := RA_u1000_7.out.frozen 0
          have fu1000_8_1 := RA_u1000_7.out.frozen 1
          have fu1000_8_2 := RA_u1000_7.out.frozen 2
          have fu1000_8_3 := RA_u1000_7.out.frozen 3
          have cu1000_9_0 := RB_u1000_7.out.cell 0
          have cu1000_9_1 := RB_u1000_7.out.cell 1
          have cu1000_9_2 := RB_u1000_7.out.cell 2
          have cu1000_9_3 := RB_u1000_7.out.cell 3
          simp only [List.getElem?_cons_zero, List.getElem?_cons_succ] at cu1000_9_0 cu1000_9_1 cu1000_9_2 cu1000_9_3
          go_upto_region 5 with fail
          clear cu1000_8_0 cu1000_8_1 cu1000_8_2 cu1000_8_3 fu1000_8_0 fu1000_8_1 fu1000_8_2 fu1000_8_3 cu1000_9_0 cu1000_9_1 cu1000_9_2 cu1000_9_3
          have RA_u1000_10 : Hid (Row (Wu1000_5.setCell ⟨w.heap.size, 0, none⟩ (.int .i64 u0)) (w.heap.size) 23 [.int .i64 u0, .int .i64 x1, .int .i64 y0, .int .i64 y1]) := Lib.hid (RA_u1000_7.out.store 0 (.int .i64 u0))
          have RB_u1000_10 := Lib.hid (RB_u1000_7.out.far (p := ⟨w.heap.size, 0, none⟩) (by dsimp only; omega) (.int .i64 u0))
          have RC_u1000_10 := Lib.hid (RC_u1000_7.out.far (p := ⟨w.heap.size, 0, none⟩) (by dsimp only; omega) (.int .i64 u0))
          have B_u1000_10 := Lib.hid (B_u1000_7.out.setCell (p := ⟨w.heap.size, 0, none⟩) (by dsimp only; omega) (.int .i64 u0))
          clear RA_u1000_7 RB_u1000_7 RC_u1000_7 B_u1000_7
          generalize (Wu1000_5.setCell ⟨w.heap.size, 0, none⟩ (.int .i64 u0)) = Vu1000_10 at RA_u1000_10 RB_u1000_10 RC_u1000_10 B_u1000_10 ⊢
          have cu1000_11_0 := RA_u1000_10.out.cell 0
          have cu1000_11_1 := RA_u1000_10.out.cell 1
          have cu1000_11_2 := RA_u1000_10.out.cell 2
          have cu1000_11_3 := RA_u1000_10.out.cell 3
          simp only [List.getElem?_cons_zero, List.getElem?_cons_succ] at cu1000_11_0 cu1000_11_1 cu1000_11_2 cu1000_11_3
          have fu1000_11_0 := RA_u1000_10.out.frozen 0
          have fu1000_11_1 := RA_u1000_10.out.frozen 1
          have fu1000_11_2 := RA_u1000_10.out.frozen 2
          have fu1000_11_3 := RA_u1000_10.out.frozen 3
          have cu1000_12_0 := RB_u1000_10.out.cell 0
          have cu1000_12_1 := RB_u1000_10.out.cell 1
          have cu1000_12_2 := RB_u1000_10.out.cell 2
          have cu1000_12_3 := RB_u1000_10.out.cell 3
          simp only [List.getElem?_cons_zero, List.getElem?_cons_succ] at cu1000_12_0 cu1000_12_1 cu1000_12_2 cu1000_12_3
          go_upto_region 7 with fail
          clear cu1000_11_0 cu1000_11_1 cu1000_11_2 cu1000_11_3 fu1000_11_0 fu1000_11_1 fu1000_11_2 fu1000_11_3 cu1000_12_0 cu1000_12_1 cu1000_12_2 cu1000_12_3
          have cu1000_13_0 := RA_u1000_10.out.cell 0
          have cu1000_13_1 := RA_u1000_10.out.cell 1
          have cu1000_13_2 := RA_u1000_10.out.cell 2
          have cu1000_13_3 := RA_u1000_10.out.cell 3
          simp only [List.getElem?_cons_zero, List.getElem?_cons_succ] at cu1000_13_0 cu1000_13_1 cu1000_13_2 cu1000_13_3
          have fu1000_13_0 := RA_u1000_10.out.frozen 0
          have fu1000_13_1 := RA_u1000_10.out.frozen 1
          have fu1000_13_2 := RA_u1000_10.out.frozen 2
          have fu1000_13_3 := RA_u1000_10.out.frozen 3
          have cu1000_14_0 := RB_u1000_10.out.cell 0
          have cu1000_14_1 := RB_u1000_10.out.cell 1
          have cu1000_14_2 := RB_u1000_10.out.cell 2
          have cu1000_14_3 := RB_u1000_10.out.cell 3
          simp only [List.getElem?_cons_zero, List.getElem?_cons_succ] at cu1000_14_0 cu1000_14_1 cu1000_14_2 cu1000_14_3
          go_upto_region 9 with fail
          clear cu1000_13_0 cu1000_13_1 cu1000_13_2 cu1000_13_3 fu1000_13_0 fu1000_13_1 fu1000_13_2 fu1000_13_3 cu1000_14_0 cu1000_14_1 cu1000_14_2 cu1000_14_3
          have cu1000_15_0 := RA_u1000_10.out.cell 0
          have cu1000_15_1 := RA_u1000_10.out.cell 1
          have cu1000_15_2 := RA_u1000_10.out.cell 2
          have cu1000_15_3 := RA_u1000_10.out.cell 3
          simp only [List.getElem?_cons_zero, List.getElem?_cons_succ] at cu1000_15_0 cu1000_15_1 cu1000_15_2 cu1000_15_3
          have fu1000_15_0 := RA_u1000_10.out.frozen 0
          have fu1000_15_1 := RA_u1000_10.out.frozen 1
          have fu1000_15_2 := RA_u1000_10.out.frozen 2
          have fu1000_15_3 := RA_u1000_10.out.frozen 3
          have cu1000_16_0 := RB_u1000_10.out.cell 0
          have cu1000_16_1 := RB_u1000_10.out.cell 1
          have cu1000_16_2 := RB_u1000_10.out.cell 2
          have cu1000_16_3 := RB_u1000_10.out.cell 3
          simp only [List.getElem?_cons_zero, List.getElem?_cons_succ] at cu1000_16_0 cu1000_16_1 cu1000_16_2 cu1000_16_3
          go_upto_region 11 with fail
          clear cu1000_15_0 cu1000_15_1 cu1000_15_2 cu1000_15_3 fu1000_15_0 fu1000_15_1 fu1000_15_2 fu1000_15_3 cu1000_16_0 cu1000_16_1 cu1000_16_2 cu1000_16_3
          have cu1000_17_0 := RA_u1000_10.out.cell 0
          have cu1000_17_1 := RA_u1000_10.out.cell 1
          have cu1000_17_2 := RA_u1000_10.out.cell 2
          have cu1000_17_3 := RA_u1000_10.out.cell 3
          simp only [List.getElem?_cons_zero, List.getElem?_cons_succ] at cu1000_17_0 cu1000_17_1 cu1000_17_2 cu1000_17_3
          have cu1000_18_0 := RC_u1000_10.out.cell 0
          have cu1000_18_1 := RC_u1000_10.out.cell 1
          have cu1000_18_2 := RC_u1000_10.out.cell 2
          have cu1000_18_3 := RC_u1000_10.out.cell 3
          simp only [List.getElem?_cons_zero, List.getElem?_cons_succ] at cu1000_18_0 cu1000_18_1 cu1000_18_2 cu1000_18_3
          have fu1000_18_0 := RC_u1000_10.out.frozen 0
          have fu1000_18_1 := RC_u1000_10.out.frozen 1
          have fu1000_18_2 := RC_u1000_10.out.frozen 2
          have fu1000_18_3 := RC_u1000_10.out.frozen 3
          go_wp2
          exact bodyPost_ret (v := KV u0 x1 y0 y1) (by simp [results, Try.results16, go_sem, *]) rfl ⟨rfl, by repeat (first | exact B_u1000_10.out | refine Below.setCell ?_ (by first | omega | (simp; done) | (simp; omega)) _ | refine Below.alloc ?_ (by have := B_u1000_10.out.size; first | omega | (simp; done) | (simp; omega)) _)⟩
  · by_cases h1 : x1 < u1
    · by_cases h2 : v0 < y0
      · by_cases h3 : y1 < v1
        · rw [if_neg h0, if_pos h1, if_pos h2, if_pos h3]
          go_enter Try.func16, Try.ntmps16
          go_upto_region 1 with fail
          have RA_u0111_1 := Lib.hid (((row_last w (w.heap.size) 23 [.int .i64 x0, .int .i64 x1, .int .i64 y0, .int .i64 y1] (by simp)).alloc (.cells #[.int .i64 u0, .int .i64 u1, .int .i64 v0, .int .i64 v1] 23)).alloc (.cells #[.int .i64 0, .int .i64 0, .int .i64 0, .int .i64 0] 23))
          have RB_u0111_1 := Lib.hid ((row_last (w.alloc (.cells #[.int .i64 x0, .int .i64 x1, .int .i64 y0, .int .i64 y1] 23)) (w.heap.size + 1) 23 [.int .i64 u0, .int .i64 u1, .int .i64 v0, .int .i64 v1] (by simp)).alloc (.cells #[.int .i64 0, .int .i64 0, .int .i64 0, .int .i64 0] 23))
          have RC_u0111_1 := Lib.hid (row_last ((w.alloc (.cells #[.int .i64 x0, .int .i64 x1, .int .i64 y0, .int .i64 y1] 23)).alloc (.cells #[.int .i64 u0, .int .i64 u1, .int .i64 v0, .int .i64 v1] 23)) (w.heap.size + 1 + 1) 23 [.int .i64 0, .int .i64 0, .int .i64 0, .int .i64 0] (by simp))
          have B_u0111_1 := Lib.hid ((((Below.refl w.heap.size w).alloc (Nat.le_refl _) (.cells #[.int .i64 x0, .int .i64 x1, .int .i64 y0, .int .i64 y1] 23)).alloc (by have := Nat.le_refl w.heap.size; simp <;> omega) (.cells #[.int .i64 u0, .int .i64 u1, .int .i64 v0, .int .i64 v1] 23)).alloc (by have := Nat.le_refl w.heap.size; simp <;> omega) (.cells #[.int .i64 0, .int .i64 0, .int .i64 0, .int .i64 0] 23))
          generalize (((w.alloc (.cells #[.int .i64 x0, .int .i64 x1, .int .i64 y0, .int .i64 y1] 23)).alloc (.cells #[.int .i64 u0, .int .i64 u1, .int .i64 v0, .int .i64 v1] 23)).alloc (.cells #[.int .i64 0, .int .i64 0, .int .i64 0, .int .i64 0] 23)) = Vu0111_1 at RA_u0111_1 RB_u0111_1 RC_u0111_1 B_u0111_1 ⊢
          have cu0111_3_0 := RA_u0111_1.out.cell 0
          have cu0111_3_1 := RA_u0111_1.out.cell 1
          have cu0111_3_2 := RA_u0111_1.out.cell 2
          have cu0111_3_3 := RA_u0111_1.out.cell 3
          simp only [List.getElem?_cons_zero, List.getElem?_cons_succ] at cu0111_3_0 cu0111_3_1 cu0111_3_2 cu0111_3_3
          go_wp2_with fail
          refine (HA.out _).mono ?_
          rintro e Wu0111_2 ⟨rfl, hb⟩
          clear cu0111_3_0 cu0111_3_1 cu0111_3_2 cu0111_3_3
          have RA_u0111_4 := Lib.hid (RA_u0111_1.out.below hb RA_u0111_1.out.lt)
          have RB_u0111_4 := Lib.hid (RB_u0111_1.out.below hb RB_u0111_1.out.lt)
          have RC_u0111_4 := Lib.hid (RC_u0111_1.out.below hb RC_u0111_1.out.lt)
          have B_u0111_4 := Lib.hid (B_u0111_1.out.trans (hb.mono B_u0111_1.out.size))
          clear hb RA_u0111_1 RB_u0111_1 RC_u0111_1 B_u0111_1
          have cu0111_6_0 := RB_u0111_4.out.cell 0
          have cu0111_6_1 := RB_u0111_4.out.cell 1
          have cu0111_6_2 := RB_u0111_4.out.cell 2
          have cu0111_6_3 := RB_u0111_4.out.cell 3
          simp only [List.getElem?_cons_zero, List.getElem?_cons_succ] at cu0111_6_0 cu0111_6_1 cu0111_6_2 cu0111_6_3
          go_wp2_with fail
          refine (HB.out _).mono ?_
          rintro e Wu0111_5 ⟨rfl, hb⟩
          clear cu0111_6_0 cu0111_6_1 cu0111_6_2 cu0111_6_3
          have RA_u0111_7 := Lib.hid (RA_u0111_4.out.below hb RA_u0111_4.out.lt)
          have RB_u0111_7 := Lib.hid (RB_u0111_4.out.below hb RB_u0111_4.out.lt)
          have RC_u0111_7 := Lib.hid (RC_u0111_4.out.below hb RC_u0111_4.out.lt)
          have B_u0111_7 := Lib.hid (B_u0111_4.out.trans (hb.mono B_u0111_4.out.size))
          clear hb RA_u0111_4 RB_u0111_4 RC_u0111_4 B_u0111_4
          have cu0111_8_0 := RA_u0111_7.out.cell 0
          have cu0111_8_1 := RA_u0111_7.out.cell 1
          have cu0111_8_2 := RA_u0111_7.out.cell 2
          have cu0111_8_3 := RA_u0111_7.out.cell 3
          simp only [List.getElem?_cons_zero, List.getElem?_cons_succ] at cu0111_8_0 cu0111_8_1 cu0111_8_2 cu0111_8_3
          have fu0111_8_0 := RA_u0111_7.out.frozen 0
          have fu0111_8_1 := RA_u0111_7.out.frozen 1
          have fu0111_8_2 := RA_u0111_7.out.frozen 2
          have fu0111_8_3 := RA_u0111_7.out.frozen 3
          have cu0111_9_0 := RB_u0111_7.out.cell 0
          have cu0111_9_1 := RB_u0111_7.out.cell 1
          have cu0111_9_2 := RB_u0111_7.out.cell 2
          have cu0111_9_3 := RB_u0111_7.out.cell 3
          simp only [List.getElem?_cons_zero, List.getElem?_cons_succ] at cu0111_9_0 cu0111_9_1 cu0111_9_2 cu0111_9_3
          go_upto_region 5 with fail
          clear cu0111_8_0 cu0111_8_1 cu0111_8_2 cu0111_8_3 fu0111_8_0 fu0111_8_1 fu0111_8_2 fu0111_8_3 cu0111_9_0 cu0111_9_1 cu0111_9_2 cu0111_9_3
          have cu0111_10_0 := RA_u0111_7.out.cell 0
          have cu0111_10_1 := RA_u0111_7.out.cell 1
          have cu0111_10_2 := RA_u0111_7.out.cell 2
          have cu0111_10_3 := RA_u0111_7.out.cell 3
          simp only [List.getElem?_cons_zero, List.getElem?_cons_succ] at cu0111_10_0 cu0111_10_1 cu0111_10_2 cu0111_10_3
          have fu0111_10_0 := RA_u0111_7.out.frozen 0
          have fu0111_10_1 := RA_u0111_7.out.frozen 1
          have fu0111_10_2 := RA_u0111_7.out.frozen 2
          have fu0111_10_3 := RA_u0111_7.out.frozen 3
          have cu0111_11_0 := RB_u0111_7.out.cell 0
          have cu0111_11_1 := RB_u0111_7.out.cell 1
          have cu0111_11_2 := RB_u0111_7.out.cell 2
          have cu0111_11_3 := RB_u0111_7.out.cell 3
          simp only [List.getElem?_cons_zero, List.getElem?_cons_succ] at cu0111_11_0 cu0111_11_1 cu0111_11_2 cu0111_11_3
          go_upto_region 7 with fail
          clear cu0111_10_0 cu0111_10_1 cu0111_10_2 cu0111_10_3 fu0111_10_0 fu0111_10_1 fu0111_10_2 fu0111_10_3 cu0111_11_0 cu0111_11_1 cu0111_11_2 cu0111_11_3
          have RA_u0111_12 : Hid (Row (Wu0111_5.setCell ⟨w.heap.size, 1, none⟩ (.int .i64 u1)) (w.heap.size) 23 [.int .i64 x0, .int .i64 u1, .int .i64 y0, .int .i64 y1]) := Lib.hid (RA_u0111_7.out.store 1 (.int .i64 u1))
          have RB_u0111_12 := Lib.hid (RB_u0111_7.out.far (p := ⟨w.heap.size, 1, none⟩) (by dsimp only; omega) (.int .i64 u1))
          have RC_u0111_12 := Lib.hid (RC_u0111_7.out.far (p := ⟨w.heap.size, 1, none⟩) (by dsimp only; omega) (.int .i64 u1))
          have B_u0111_12 := Lib.hid (B_u0111_7.out.setCell (p := ⟨w.heap.size, 1, none⟩) (by dsimp only; omega) (.int .i64 u1))
          clear RA_u0111_7 RB_u0111_7 RC_u0111_7 B_u0111_7
          generalize (Wu0111_5.setCell ⟨w.heap.size, 1, none⟩ (.int .i64 u1)) = Vu0111_12 at RA_u0111_12 RB_u0111_12 RC_u0111_12 B_u0111_12 ⊢
          have cu0111_13_0 := RA_u0111_12.out.cell 0
          have cu0111_13_1 := RA_u0111_12.out.cell 1
          have cu0111_13_2 := RA_u0111_12.out.cell 2
          have cu0111_13_3 := RA_u0111_12.out.cell 3
          simp only [List.getElem?_cons_zero, List.getElem?_cons_succ] at cu0111_13_0 cu0111_13_1 cu0111_13_2 cu0111_13_3
          have fu0111_13_0 := RA_u0111_12.out.frozen 0
          have fu0111_13_1 := RA_u0111_12.out.frozen 1
          have fu0111_13_2 := RA_u0111_12.out.frozen 2
          have fu0111_13_3 := RA_u0111_12.out.frozen 3
          have cu0111_14_0 := RB_u0111_12.out.cell 0
          have cu0111_14_1 := RB_u0111_12.out.cell 1
          have cu0111_14_2 := RB_u0111_12.out.cell 2
          have cu0111_14_3 := RB_u0111_12.out.cell 3
          simp only [List.getElem?_cons_zero, List.getElem?_cons_succ] at cu0111_14_0 cu0111_14_1 cu0111_14_2 cu0111_14_3
          go_upto_region 9 with fail
          clear cu0111_13_0 cu0111_13_1 cu0111_13_2 cu0111_13_3 fu0111_13_0 fu0111_13_1 fu0111_13_2 fu0111_13_3 cu0111_14_0 cu0111_14_1 cu0111_14_2 cu0111_14_3
          have RA_u0111_15 : Hid (Row (Vu0111_12.setCell ⟨w.heap.size, 2, none⟩ (.int .i64 v0)) (w.heap.size) 23 [.int .i64 x0, .int .i64 u1, .int .i64 v0, .int .i64 y1]) := Lib.hid (RA_u0111_12.out.store 2 (.int .i64 v0))
          have RB_u0111_15 := Lib.hid (RB_u0111_12.out.far (p := ⟨w.heap.size, 2, none⟩) (by dsimp only; omega) (.int .i64 v0))
          have RC_u0111_15 := Lib.hid (RC_u0111_12.out.far (p := ⟨w.heap.size, 2, none⟩) (by dsimp only; omega) (.int .i64 v0))
          have B_u0111_15 := Lib.hid (B_u0111_12.out.setCell (p := ⟨w.heap.size, 2, none⟩) (by dsimp only; omega) (.int .i64 v0))
          clear RA_u0111_12 RB_u0111_12 RC_u0111_12 B_u0111_12
          generalize (Vu0111_12.setCell ⟨w.heap.size, 2, none⟩ (.int .i64 v0)) = Vu0111_15 at RA_u0111_15 RB_u0111_15 RC_u0111_15 B_u0111_15 ⊢
          have cu0111_16_0 := RA_u0111_15.out.cell 0
          have cu0111_16_1 := RA_u0111_15.out.cell 1
          have cu0111_16_2 := RA_u0111_15.out.cell 2
          have cu0111_16_3 := RA_u0111_15.out.cell 3
          simp only [List.getElem?_cons_zero, List.getElem?_cons_succ] at cu0111_16_0 cu0111_16_1 cu0111_16_2 cu0111_16_3
          have fu0111_16_0 := RA_u0111_15.out.frozen 0
          have fu0111_16_1 := RA_u0111_15.out.frozen 1
          have fu0111_16_2 := RA_u0111_15.out.frozen 2
          have fu0111_16_3 := RA_u0111_15.out.frozen 3
          have cu0111_17_0 := RB_u0111_15.out.cell 0
          have cu0111_17_1 := RB_u0111_15.out.cell 1
          have cu0111_17_2 := RB_u0111_15.out.cell 2
          have cu0111_17_3 := RB_u0111_15.out.cell 3
          simp only [List.getElem?_cons_zero, List.getElem?_cons_succ] at cu0111_17_0 cu0111_17_1 cu0111_17_2 cu0111_17_3
          go_upto_region 11 with fail
          clear cu0111_16_0 cu0111_16_1 cu0111_16_2 cu0111_16_3 fu0111_16_0 fu0111_16_1 fu0111_16_2 fu0111_16_3 cu0111_17_0 cu0111_17_1 cu0111_17_2 cu0111_17_3
          have RA_u0111_18 : Hid (Row (Vu0111_15.setCell ⟨w.heap.size, 3, none⟩ (.int .i64 v1)) (w.heap.size) 23 [.int .i64 x0, .int .i64 u1, .int .i64 v0, .int .i64 v1]) := Lib.hid (RA_u0111_15.out.store 3 (.int .i64 v1))
          have RB_u0111_18 := Lib.hid (RB_u0111_15.out.far (p := ⟨w.heap.size, 3, none⟩) (by dsimp only; omega) (.int .i64 v1))
          have RC_u0111_18 := Lib.hid (RC_u0111_15.out.far (p := ⟨w.heap.size, 3, none⟩) (by dsimp only; omega) (.int .i64 v1))
          have B_u0111_18 := Lib.hid (B_u0111_15.out.setCell (p := ⟨w.heap.size, 3, none⟩) (by dsimp only; omega) (.int .i64 v1))
          clear RA_u0111_15 RB_u0111_15 RC_u0111_15 B_u0111_15
          generalize (Vu0111_15.setCell ⟨w.heap.size, 3, none⟩ (.int .i64 v1)) = Vu0111_18 at RA_u0111_18 RB_u0111_18 RC_u0111_18 B_u0111_18 ⊢
          have cu0111_19_0 := RA_u0111_18.out.cell 0
          have cu0111_19_1 := RA_u0111_18.out.cell 1
          have cu0111_19_2 := RA_u0111_18.out.cell 2
          have cu0111_19_3 := RA_u0111_18.out.cell 3
          simp only [List.getElem?_cons_zero, List.getElem?_cons_succ] at cu0111_19_0 cu0111_19_1 cu0111_19_2 cu0111_19_3
          have cu0111_20_0 := RC_u0111_18.out.cell 0
          have cu0111_20_1 := RC_u0111_18.out.cell 1
          have cu0111_20_2 := RC_u0111_18.out.cell 2
          have cu0111_20_3 := RC_u0111_18.out.cell 3
          simp only [List.getElem?_cons_zero, List.getElem?_cons_succ] at cu0111_20_0 cu0111_20_1 cu0111_20_2 cu0111_20_3
          have fu0111_20_0 := RC_u0111_18.out.frozen 0
          have fu0111_20_1 := RC_u0111_18.out.frozen 1
          have fu0111_20_2 := RC_u0111_18.out.frozen 2
          have fu0111_20_3 := RC_u0111_18.out.frozen 3
          go_wp2
          exact bodyPost_ret (v := KV x0 u1 v0 v1) (by simp [results, Try.results16, go_sem, *]) rfl ⟨rfl, by repeat (first | exact B_u0111_18.out | refine Below.setCell ?_ (by first | omega | (simp; done) | (simp; omega)) _ | refine Below.alloc ?_ (by have := B_u0111_18.out.size; first | omega | (simp; done) | (simp; omega)) _)⟩
        · rw [if_neg h0, if_pos h1, if_pos h2, if_neg h3]
          go_enter Try.func16, Try.ntmps16
          go_upto_region 1 with fail
          have RA_u0110_1 := Lib.hid (((row_last w (w.heap.size) 23 [.int .i64 x0, .int .i64 x1, .int .i64 y0, .int .i64 y1] (by simp)).alloc (.cells #[.int .i64 u0, .int .i64 u1, .int .i64 v0, .int .i64 v1] 23)).alloc (.cells #[.int .i64 0, .int .i64 0, .int .i64 0, .int .i64 0] 23))
          have RB_u0110_1 := Lib.hid ((row_last (w.alloc (.cells #[.int .i64 x0, .int .i64 x1, .int .i64 y0, .int .i64 y1] 23)) (w.heap.size + 1) 23 [.int .i64 u0, .int .i64 u1, .int .i64 v0, .int .i64 v1] (by simp)).alloc (.cells #[.int .i64 0, .int .i64 0, .int .i64 0, .int .i64 0] 23))
          have RC_u0110_1 := Lib.hid (row_last ((w.alloc (.cells #[.int .i64 x0, .int .i64 x1, .int .i64 y0, .int .i64 y1] 23)).alloc (.cells #[.int .i64 u0, .int .i64 u1, .int .i64 v0, .int .i64 v1] 23)) (w.heap.size + 1 + 1) 23 [.int .i64 0, .int .i64 0, .int .i64 0, .int .i64 0] (by simp))
          have B_u0110_1 := Lib.hid ((((Below.refl w.heap.size w).alloc (Nat.le_refl _) (.cells #[.int .i64 x0, .int .i64 x1, .int .i64 y0, .int .i64 y1] 23)).alloc (by have := Nat.le_refl w.heap.size; simp <;> omega) (.cells #[.int .i64 u0, .int .i64 u1, .int .i64 v0, .int .i64 v1] 23)).alloc (by have := Nat.le_refl w.heap.size; simp <;> omega) (.cells #[.int .i64 0, .int .i64 0, .int .i64 0, .int .i64 0] 23))
          generalize (((w.alloc (.cells #[.int .i64 x0, .int .i64 x1, .int .i64 y0, .int .i64 y1] 23)).alloc (.cells #[.int .i64 u0, .int .i64 u1, .int .i64 v0, .int .i64 v1] 23)).alloc (.cells #[.int .i64 0, .int .i64 0, .int .i64 0, .int .i64 0] 23)) = Vu0110_1 at RA_u0110_1 RB_u0110_1 RC_u0110_1 B_u0110_1 ⊢
          have cu0110_3_0 := RA_u0110_1.out.cell 0
          have cu0110_3_1 := RA_u0110_1.out.cell 1
          have cu0110_3_2 := RA_u0110_1.out.cell 2
          have cu0110_3_3 := RA_u0110_1.out.cell 3
          simp only [List.getElem?_cons_zero, List.getElem?_cons_succ] at cu0110_3_0 cu0110_3_1 cu0110_3_2 cu0110_3_3
          go_wp2_with fail
          refine (HA.out _).mono ?_
          rintro e Wu0110_2 ⟨rfl, hb⟩
          clear cu0110_3_0 cu0110_3_1 cu0110_3_2 cu0110_3_3
          have RA_u0110_4 := Lib.hid (RA_u0110_1.out.below hb RA_u0110_1.out.lt)
          have RB_u0110_4 := Lib.hid (RB_u0110_1.out.below hb RB_u0110_1.out.lt)
          have RC_u0110_4 := Lib.hid (RC_u0110_1.out.below hb RC_u0110_1.out.lt)
          have B_u0110_4 := Lib.hid (B_u0110_1.out.trans (hb.mono B_u0110_1.out.size))
          clear hb RA_u0110_1 RB_u0110_1 RC_u0110_1 B_u0110_1
          have cu0110_6_0 := RB_u0110_4.out.cell 0
          have cu0110_6_1 := RB_u0110_4.out.cell 1
          have cu0110_6_2 := RB_u0110_4.out.cell 2
          have cu0110_6_3 := RB_u0110_4.out.cell 3
          simp only [List.getElem?_cons_zero, List.getElem?_cons_succ] at cu0110_6_0 cu0110_6_1 cu0110_6_2 cu0110_6_3
          go_wp2_with fail
          refine (HB.out _).mono ?_
          rintro e Wu0110_5 ⟨rfl, hb⟩
          clear cu0110_6_0 cu0110_6_1 cu0110_6_2 cu0110_6_3
          have RA_u0110_7 := Lib.hid (RA_u0110_4.out.below hb RA_u0110_4.out.lt)
          have RB_u0110_7 := Lib.hid (RB_u0110_4.out.below hb RB_u0110_4.out.lt)
          have RC_u0110_7 := Lib.hid (RC_u0110_4.out.below hb RC_u0110_4.out.lt)
          have B_u0110_7 := Lib.hid (B_u0110_4.out.trans (hb.mono B_u0110_4.out.size))
          clear hb RA_u0110_4 RB_u0110_4 RC_u0110_4 B_u0110_4
          have cu0110_8_0 := RA_u0110_7.out.cell 0
          have cu0110_8_1 := RA_u0110_7.out.cell 1
          have cu0110_8_2 := RA_u0110_7.out.cell 2
          have cu0110_8_3 := RA_u0110_7.out.cell 3
          simp only [List.getElem?_cons_zero, List.getElem?_cons_succ] at cu0110_8_0 cu0110_8_1 cu0110_8_2 cu0110_8_3
          have fu0110_8_0 := RA_u0110_7.out.frozen 0
          have fu0110_8_1 := RA_u0110_7.out.frozen 1
          have fu0110_8_2 := RA_u0110_7.out.frozen 2
          have fu0110_8_3 := RA_u0110_7.out.frozen 3
          have cu0110_9_0 := RB_u0110_7.out.cell 0
          have cu0110_9_1 := RB_u0110_7.out.cell 1
          have cu0110_9_2 := RB_u0110_7.out.cell 2
          have cu0110_9_3 := RB_u0110_7.out.cell 3
          simp only [List.getElem?_cons_zero, List.getElem?_cons_succ] at cu0110_9_0 cu0110_9_1 cu0110_9_2 cu0110_9_3
          go_upto_region 5 with fail
          clear cu0110_8_0 cu0110_8_1 cu0110_8_2 cu0110_8_3 fu0110_8_0 fu0110_8_1 fu0110_8_2 fu0110_8_3 cu0110_9_0 cu0110_9_1 cu0110_9_2 cu0110_9_3
          have cu0110_10_0 := RA_u0110_7.out.cell 0
          have cu0110_10_1 := RA_u0110_7.out.cell 1
          have cu0110_10_2 := RA_u0110_7.out.cell 2
          have cu0110_10_3 := RA_u0110_7.out.cell 3
          simp only [List.getElem?_cons_zero, List.getElem?_cons_succ] at cu0110_10_0 cu0110_10_1 cu0110_10_2 cu0110_10_3
          have fu0110_10_0 := RA_u0110_7.out.frozen 0
          have fu0110_10_1 := RA_u0110_7.out.frozen 1
          have fu0110_10_2 := RA_u0110_7.out.frozen 2
          have fu0110_10_3 := RA_u0110_7.out.frozen 3
          have cu0110_11_0 := RB_u0110_7.out.cell 0
          have cu0110_11_1 := RB_u0110_7.out.cell 1
          have cu0110_11_2 := RB_u0110_7.out.cell 2
          have cu0110_11_3 := RB_u0110_7.out.cell 3
          simp only [List.getElem?_cons_zero, List.getElem?_cons_succ] at cu0110_11_0 cu0110_11_1 cu0110_11_2 cu0110_11_3
          go_upto_region 7 with fail
          clear cu0110_10_0 cu0110_10_1 cu0110_10_2 cu0110_10_3 fu0110_10_0 fu0110_10_1 fu0110_10_2 fu0110_10_3 cu0110_11_0 cu0110_11_1 cu0110_11_2 cu0110_11_3
          have RA_u0110_12 : Hid (Row (Wu0110_5.setCell ⟨w.heap.size, 1, none⟩ (.int .i64 u1)) (w.heap.size) 23 [.int .i64 x0, .int .i64 u1, .int .i64 y0, .int .i64 y1]) := Lib.hid (RA_u0110_7.out.store 1 (.int .i64 u1))
          have RB_u0110_12 := Lib.hid (RB_u0110_7.out.far (p := ⟨w.heap.size, 1, none⟩) (by dsimp only; omega) (.int .i64 u1))
          have RC_u0110_12 := Lib.hid (RC_u0110_7.out.far (p := ⟨w.heap.size, 1, none⟩) (by dsimp only; omega) (.int .i64 u1))
          have B_u0110_12 := Lib.hid (B_u0110_7.out.setCell (p := ⟨w.heap.size, 1, none⟩) (by dsimp only; omega) (.int .i64 u1))
          clear RA_u0110_7 RB_u0110_7 RC_u0110_7 B_u0110_7
          generalize (Wu0110_5.setCell ⟨w.heap.size, 1, none⟩ (.int .i64 u1)) = Vu0110_12 at RA_u0110_12 RB_u0110_12 RC_u0110_12 B_u0110_12 ⊢
          have cu0110_13_0 := RA_u0110_12.out.cell 0
          have cu0110_13_1 := RA_u0110_12.out.cell 1
          have cu0110_13_2 := RA_u0110_12.out.cell 2
          have cu0110_13_3 := RA_u0110_12.out.cell 3
          simp only [List.getElem?_cons_zero, List.getElem?_cons_succ] at cu0110_13_0 cu0110_13_1 cu0110_13_2 cu0110_13_3
          have fu0110_13_0 := RA_u0110_12.out.frozen 0
          have fu0110_13_1 := RA_u0110_12.out.frozen 1
          have fu0110_13_2 := RA_u0110_12.out.frozen 2
          have fu0110_13_3 := RA_u0110_12.out.frozen 3
          have cu0110_14_0 := RB_u0110_12.out.cell 0
          have cu0110_14_1 := RB_u0110_12.out.cell 1
          have cu0110_14_2 := RB_u0110_12.out.cell 2
          have cu0110_14_3 := RB_u0110_12.out.cell 3
          simp only [List.getElem?_cons_zero, List.getElem?_cons_succ] at cu0110_14_0 cu0110_14_1 cu0110_14_2 cu0110_14_3
          go_upto_region 9 with fail
          clear cu0110_13_0 cu0110_13_1 cu0110_13_2 cu0110_13_3 fu0110_13_0 fu0110_13_1 fu0110_13_2 fu0110_13_3 cu0110_14_0 cu0110_14_1 cu0110_14_2 cu0110_14_3
          have RA_u0110_15 : Hid (Row (Vu0110_12.setCell ⟨w.heap.size, 2, none⟩ (.int .i64 v0)) (w.heap.size) 23 [.int .i64 x0, .int .i64 u1, .int .i64 v0, .int .i64 y1]) := Lib.hid (RA_u0110_12.out.store 2 (.int .i64 v0))
          have RB_u0110_15 := Lib.hid (RB_u0110_12.out.far (p := ⟨w.heap.size, 2, none⟩) (by dsimp only; omega) (.int .i64 v0))
          have RC_u0110_15 := Lib.hid (RC_u0110_12.out.far (p := ⟨w.heap.size, 2, none⟩) (by dsimp only; omega) (.int .i64 v0))
          have B_u0110_15 := Lib.hid (B_u0110_12.out.setCell (p := ⟨w.heap.size, 2, none⟩) (by dsimp only; omega) (.int .i64 v0))
          clear RA_u0110_12 RB_u0110_12 RC_u0110_12 B_u0110_12
          generalize (Vu0110_12.setCell ⟨w.heap.size, 2, none⟩ (.int .i64 v0)) = Vu0110_15 at RA_u0110_15 RB_u0110_15 RC_u0110_15 B_u0110_15 ⊢
          have cu0110_16_0 := RA_u0110_15.out.cell 0
          have cu0110_16_1 := RA_u0110_15.out.cell 1
          have cu0110_16_2 := RA_u0110_15.out.cell 2
          have cu0110_16_3 := RA_u0110_15.out.cell 3
          simp only [List.getElem?_cons_zero, List.getElem?_cons_succ] at cu0110_16_0 cu0110_16_1 cu0110_16_2 cu0110_16_3
          have fu0110_16_0 := RA_u0110_15.out.frozen 0
          have fu0110_16_1 := RA_u0110_15.out.frozen 1
          have fu0110_16_2 := RA_u0110_15.out.frozen 2
          have fu0110_16_3 := RA_u0110_15.out.frozen 3
          have cu0110_17_0 := RB_u0110_15.out.cell 0
          have cu0110_17_1 := RB_u0110_15.out.cell 1
          have cu0110_17_2 := RB_u0110_15.out.cell 2
          have cu0110_17_3 := RB_u0110_15.out.cell 3
          simp only [List.getElem?_cons_zero, List.getElem?_cons_succ] at cu0110_17_0 cu0110_17_1 cu0110_17_2 cu0110_17_3
          go_upto_region 11 with fail
          clear cu0110_16_0 cu0110_16_1 cu0110_16_2 cu0110_16_3 fu0110_16_0 fu0110_16_1 fu0110_16_2 fu0110_16_3 cu0110_17_0 cu0110_17_1 cu0110_17_2 cu0110_17_3
          have cu0110_18_0 := RA_u0110_15.out.cell 0
          have cu0110_18_1 := RA_u0110_15.out.cell 1
          have cu0110_18_2 := RA_u0110_15.out.cell 2
          have cu0110_18_3 := RA_u0110_15.out.cell 3
          simp only [List.getElem?_cons_zero, List.getElem?_cons_succ] at cu0110_18_0 cu0110_18_1 cu0110_18_2 cu0110_18_3
          have cu0110_19_0 := RC_u0110_15.out.cell 0
          have cu0110_19_1 := RC_u0110_15.out.cell 1
          have cu0110_19_2 := RC_u0110_15.out.cell 2
          have cu0110_19_3 := RC_u0110_15.out.cell 3
          simp only [List.getElem?_cons_zero, List.getElem?_cons_succ] at cu0110_19_0 cu0110_19_1 cu0110_19_2 cu0110_19_3
          have fu0110_19_0 := RC_u0110_15.out.frozen 0
          have fu0110_19_1 := RC_u0110_15.out.frozen 1
          have fu0110_19_2 := RC_u0110_15.out.frozen 2
          have fu0110_19_3 := RC_u0110_15.out.frozen 3
          go_wp2
          exact bodyPost_ret (v := KV x0 u1 v0 y1) (by simp [results, Try.results16, go_sem, *]) rfl ⟨rfl, by repeat (first | exact B_u0110_15.out | refine Below.setCell ?_ (by first | omega | (simp; done) | (simp; omega)) _ | refine Below.alloc ?_ (by have := B_u0110_15.out.size; first | omega | (simp; done) | (simp; omega)) _)⟩
      · by_cases h3 : y1 < v1
        · rw [if_neg h0, if_pos h1, if_neg h2, if_pos h3]
          go_enter Try.func16, Try.ntmps16
          go_upto_region 1 with fail
          have RA_u0101_1 := Lib.hid (((row_last w (w.heap.size) 23 [.int .i64 x0, .int .i64 x1, .int .i64 y0, .int .i64 y1] (by simp)).alloc (.cells #[.int .i64 u0, .int .i64 u1, .int .i64 v0, .int .i64 v1] 23)).alloc (.cells #[.int .i64 0, .int .i64 0, .int .i64 0, .int .i64 0] 23))
          have RB_u0101_1 := Lib.hid ((row_last (w.alloc (.cells #[.int .i64 x0, .int .i64 x1, .int .i64 y0, .int .i64 y1] 23)) (w.heap.size + 1) 23 [.int .i64 u0, .int .i64 u1, .int .i64 v0, .int .i64 v1] (by simp)).alloc (.cells #[.int .i64 0, .int .i64 0, .int .i64 0, .int .i64 0] 23))
          have RC_u0101_1 := Lib.hid (row_last ((w.alloc (.cells #[.int .i64 x0, .int .i64 x1, .int .i64 y0, .int .i64 y1] 23)).alloc (.cells #[.int .i64 u0, .int .i64 u1, .int .i64 v0, .int .i64 v1] 23)) (w.heap.size + 1 + 1) 23 [.int .i64 0, .int .i64 0, .int .i64 0, .int .i64 0] (by simp))
          have B_u0101_1 := Lib.hid ((((Below.refl w.heap.size w).alloc (Nat.le_refl _) (.cells #[.int .i64 x0, .int .i64 x1, .int .i64 y0, .int .i64 y1] 23)).alloc (by have := Nat.le_refl w.heap.size; simp <;> omega) (.cells #[.int .i64 u0, .int .i64 u1, .int .i64 v0, .int .i64 v1] 23)).alloc (by have := Nat.le_refl w.heap.size; simp <;> omega) (.cells #[.int .i64 0, .int .i64 0, .int .i64 0, .int .i64 0] 23))
          generalize (((w.alloc (.cells #[.int .i64 x0, .int .i64 x1, .int .i64 y0, .int .i64 y1] 23)).alloc (.cells #[.int .i64 u0, .int .i64 u1, .int .i64 v0, .int .i64 v1] 23)).alloc (.cells #[.int .i64 0, .int .i64 0, .int .i64 0, .int .i64 0] 23)) = Vu0101_1 at RA_u0101_1 RB_u0101_1 RC_u0101_1 B_u0101_1 ⊢
          have cu0101_3_0 := RA_u0101_1.out.cell 0
          have cu0101_3_1 := RA_u0101_1.out.cell 1
          have cu0101_3_2 := RA_u0101_1.out.cell 2
          have cu0101_3_3 := RA_u0101_1.out.cell 3
          simp only [List.getElem?_cons_zero, List.getElem?_cons_succ] at cu0101_3_0 cu0101_3_1 cu0101_3_2 cu0101_3_3
          go_wp2_with fail
          refine (HA.out _).mono ?_
          rintro e Wu0101_2 ⟨rfl, hb⟩
          clear cu0101_3_0 cu0101_3_1 cu0101_3_2 cu0101_3_3
          have RA_u0101_4 := Lib.hid (RA_u0101_1.out.below hb RA_u0101_1.out.lt)
          have RB_u0101_4 := Lib.hid (RB_u0101_1.out.below hb RB_u0101_1.out.lt)
          have RC_u0101_4 := Lib.hid (RC_u0101_1.out.below hb RC_u0101_1.out.lt)
          have B_u0101_4 := Lib.hid (B_u0101_1.out.trans (hb.mono B_u0101_1.out.size))
          clear hb RA_u0101_1 RB_u0101_1 RC_u0101_1 B_u0101_1
          have cu0101_6_0 := RB_u0101_4.out.cell 0
          have cu0101_6_1 := RB_u0101_4.out.cell 1
          have cu0101_6_2 := RB_u0101_4.out.cell 2
          have cu0101_6_3 := RB_u0101_4.out.cell 3
          simp only [List.getElem?_cons_zero, List.getElem?_cons_succ] at cu0101_6_0 cu0101_6_1 cu0101_6_2 cu0101_6_3
          go_wp2_with fail
          refine (HB.out _).mono ?_
          rintro e Wu0101_5 ⟨rfl, hb⟩
          clear cu0101_6_0 cu0101_6_1 cu0101_6_2 cu0101_6_3
          have RA_u0101_7 := Lib.hid (RA_u0101_4.out.below hb RA_u0101_4.out.lt)
          have RB_u0101_7 := Lib.hid (RB_u0101_4.out.below hb RB_u0101_4.out.lt)
          have RC_u0101_7 := Lib.hid (RC_u0101_4.out.below hb RC_u0101_4.out.lt)
          have B_u0101_7 := Lib.hid (B_u0101_4.out.trans (hb.mono B_u0101_4.out.size))
          clear hb RA_u0101_4 RB_u0101_4 RC_u0101_4 B_u0101_4
          have cu0101_8_0 := RA_u0101_7.out.cell 0
          have cu0101_8_1 := RA_u0101_7.out.cell 1
          have cu0101_8_2 := RA_u0101_7.out.cell 2
          have cu0101_8_3 := RA_u0101_7.out.cell 3
          simp only [List.getElem?_cons_zero, List.getElem?_cons_succ] at cu0101_8_0 cu0101_8_1 cu0101_8_2 cu0101_8_3
          have fu0101_8_0 := RA_u0101_7.out.frozen 0
          have fu0101_8_1 := RA_u0101_7.out.frozen 1
          have fu0101_8_2 := RA_u0101_7.out.frozen 2
          have fu0101_8_3 := RA_u0101_7.out.frozen 3
          have cu0101_9_0 := RB_u0101_7.out.cell 0
          have cu0101_9_1 := RB_u0101_7.out.cell 1
          have cu0101_9_2 := RB_u0101_7.out.cell 2
          have cu0101_9_3 := RB_u0101_7.out.cell 3
          simp only [List.getElem?_cons_zero, List.getElem?_cons_succ] at cu0101_9_0 cu0101_9_1 cu0101_9_2 cu0101_9_3
          go_upto_region 5 with fail
          clear cu0101_8_0 cu0101_8_1 cu0101_8_2 cu0101_8_3 fu0101_8_0 fu0101_8_1 fu0101_8_2 fu0101_8_3 cu0101_9_0 cu0101_9_1 cu0101_9_2 cu0101_9_3
          have cu0101_10_0 := RA_u0101_7.out.cell 0
          have cu0101_10_1 := RA_u0101_7.out.cell 1
          have cu0101_10_2 := RA_u0101_7.out.cell 2
          have cu0101_10_3 := RA_u0101_7.out.cell 3
          simp only [List.getElem?_cons_zero, List.getElem?_cons_succ] at cu0101_10_0 cu0101_10_1 cu0101_10_2 cu0101_10_3
          have fu0101_10_0 := RA_u0101_7.out.frozen 0
          have fu0101_10_1 := RA_u0101_7.out.frozen 1
          have fu0101_10_2 := RA_u0101_7.out.frozen 2
          have fu0101_10_3 := RA_u0101_7.out.frozen 3
          have cu0101_11_0 := RB_u0101_7.out.cell 0
          have cu0101_11_1 := RB_u0101_7.out.cell 1
          have cu0101_11_2 := RB_u0101_7.out.cell 2
          have cu0101_11_3 := RB_u0101_7.out.cell 3
          simp only [List.getElem?_cons_zero, List.getElem?_cons_succ] at cu0101_11_0 cu0101_11_1 cu0101_11_2 cu0101_11_3
          go_upto_region 7 with fail
          clear cu0101_10_0 cu0101_10_1 cu0101_10_2 cu0101_10_3 fu0101_10_0 fu0101_10_1 fu0101_10_2 fu0101_10_3 cu0101_11_0 cu0101_11_1 cu0101_11_2 cu0101_11_3
          have RA_u0101_12 : Hid (Row (Wu0101_5.setCell ⟨w.heap.size, 1, none⟩ (.int .i64 u1)) (w.heap.size) 23 [.int .i64 x0, .int .i64 u1, .int .i64 y0, .int .i64 y1]) := Lib.hid (RA_u0101_7.out.store 1 (.int .i64 u1))
          have RB_u0101_12 := Lib.hid (RB_u0101_7.out.far (p := ⟨w.heap.size, 1, none⟩) (by dsimp only; omega) (.int .i64 u1))
          have RC_u0101_12 := Lib.hid (RC_u0101_7.out.far (p := ⟨w.heap.size, 1, none⟩) (by dsimp only; omega) (.int .i64 u1))
          have B_u0101_12 := Lib.hid (B_u0101_7.out.setCell (p := ⟨w.heap.size, 1, none⟩) (by dsimp only; omega) (.int .i64 u1))
          clear RA_u0101_7 RB_u0101_7 RC_u0101_7 B_u0101_7
          generalize (Wu0101_5.setCell ⟨w.heap.size, 1, none⟩ (.int .i64 u1)) = Vu0101_12 at RA_u0101_12 RB_u0101_12 RC_u0101_12 B_u0101_12 ⊢
          have cu0101_13_0 := RA_u0101_12.out.cell 0
          have cu0101_13_1 := RA_u0101_12.out.cell 1
          have cu0101_13_2 := RA_u0101_12.out.cell 2
          have cu0101_13_3 := RA_u0101_12.out.cell 3
          simp only [List.getElem?_cons_zero, List.getElem?_cons_succ] at cu0101_13_0 cu0101_13_1 cu0101_13_2 cu0101_13_3
          have fu0101_13_0 := RA_u0101_12.out.frozen 0
          have fu0101_13_1 := RA_u0101_12.out.frozen 1
          have fu0101_13_2 := RA_u0101_12.out.frozen 2
          have fu0101_13_3 := RA_u0101_12.out.frozen 3
          have cu0101_14_0 := RB_u0101_12.out.cell 0
          have cu0101_14_1 := RB_u0101_12.out.cell 1
          have cu0101_14_2 := RB_u0101_12.out.cell 2
          have cu0101_14_3 := RB_u0101_12.out.cell 3
          simp only [List.getElem?_cons_zero, List.getElem?_cons_succ] at cu0101_14_0 cu0101_14_1 cu0101_14_2 cu0101_14_3
          go_upto_region 9 with fail
          clear cu0101_13_0 cu0101_13_1 cu0101_13_2 cu0101_13_3 fu0101_13_0 fu0101_13_1 fu0101_13_2 fu0101_13_3 cu0101_14_0 cu0101_14_1 cu0101_14_2 cu0101_14_3
          have cu0101_15_0 := RA_u0101_12.out.cell 0
          have cu0101_15_1 := RA_u0101_12.out.cell 1
          have cu0101_15_2 := RA_u0101_12.out.cell 2
          have cu0101_15_3 := RA_u0101_12.out.cell 3
          simp only [List.getElem?_cons_zero, List.getElem?_cons_succ] at cu0101_15_0 cu0101_15_1 cu0101_15_2 cu0101_15_3
          have fu0101_15_0 := RA_u0101_12.out.frozen 0
          have fu0101_15_1 := RA_u0101_12.out.frozen 1
          have fu0101_15_2 := RA_u0101_12.out.frozen 2
          have fu0101_15_3 := RA_u0101_12.out.frozen 3
          have cu0101_16_0 := RB_u0101_12.out.cell 0
          have cu0101_16_1 := RB_u0101_12.out.cell 1
          have cu0101_16_2 := RB_u0101_12.out.cell 2
          have cu0101_16_3 := RB_u0101_12.out.cell 3
          simp only [List.getElem?_cons_zero, List.getElem?_cons_succ] at cu0101_16_0 cu0101_16_1 cu0101_16_2 cu0101_16_3
          go_upto_region 11 with fail
          clear cu0101_15_0 cu0101_15_1 cu0101_15_2 cu0101_15_3 fu0101_15_0 fu0101_15_1 fu0101_15_2 fu0101_15_3 cu0101_16_0 cu0101_16_1 cu0101_16_2 cu0101_16_3
          have RA_u0101_17 : Hid (Row (Vu0101_12.setCell ⟨w.heap.size, 3, none⟩ (.int .i64 v1)) (w.heap.size) 23 [.int .i64 x0, .int .i64 u1, .int .i64 y0, .int .i64 v1]) := Lib.hid (RA_u0101_12.out.store 3 (.int .i64 v1))
          have RB_u0101_17 := Lib.hid (RB_u0101_12.out.far (p := ⟨w.heap.size, 3, none⟩) (by dsimp only; omega) (.int .i64 v1))
          have RC_u0101_17 := Lib.hid (RC_u0101_12.out.far (p := ⟨w.heap.size, 3, none⟩) (by dsimp only; omega) (.int .i64 v1))
          have B_u0101_17 := Lib.hid (B_u0101_12.out.setCell (p := ⟨w.heap.size, 3, none⟩) (by dsimp only; omega) (.int .i64 v1))
          clear RA_u0101_12 RB_u0101_12 RC_u0101_12 B_u0101_12
          generalize (Vu0101_12.setCell ⟨w.heap.size, 3, none⟩ (.int .i64 v1)) = Vu0101_17 at RA_u0101_17 RB_u0101_17 RC_u0101_17 B_u0101_17 ⊢
          have cu0101_18_0 := RA_u0101_17.out.cell 0
          have cu0101_18_1 := RA_u0101_17.out.cell 1
          have cu0101_18_2 := RA_u0101_17.out.cell 2
          have cu0101_18_3 := RA_u0101_17.out.cell 3
          simp only [List.getElem?_cons_zero, List.getElem?_cons_succ] at cu0101_18_0 cu0101_18_1 cu0101_18_2 cu0101_18_3
          have cu0101_19_0 := RC_u0101_17.out.cell 0
          have cu0101_19_1 := RC_u0101_17.out.cell 1
          have cu0101_19_2 := RC_u0101_17.out.cell 2
          have cu0101_19_3 := RC_u0101_17.out.cell 3
          simp only [List.getElem?_cons_zero, List.getElem?_cons_succ] at cu0101_19_0 cu0101_19_1 cu0101_19_2 cu0101_19_3
          have fu0101_19_0 := RC_u0101_17.out.frozen 0
          have fu0101_19_1 := RC_u0101_17.out.frozen 1
          have fu0101_19_2 := RC_u0101_17.out.frozen 2
          have fu0101_19_3 := RC_u0101_17.out.frozen 3
          go_wp2
          exact bodyPost_ret (v := KV x0 u1 y0 v1) (by simp [results, Try.results16, go_sem, *]) rfl ⟨rfl, by repeat (first | exact B_u0101_17.out | refine Below.setCell ?_ (by first | omega | (simp; done) | (simp; omega)) _ | refine Below.alloc ?_ (by have := B_u0101_17.out.size; first | omega | (simp; done) | (simp; omega)) _)⟩
        · rw [if_neg h0, if_pos h1, if_neg h2, if_neg h3]
          go_enter Try.func16, Try.ntmps16
          go_upto_region 1 with fail
          have RA_u0100_1 := Lib.hid (((row_last w (w.heap.size) 23 [.int .i64 x0, .int .i64 x1, .int .i64 y0, .int .i64 y1] (by simp)).alloc (.cells #[.int .i64 u0, .int .i64 u1, .int .i64 v0, .int .i64 v1] 23)).alloc (.cells #[.int .i64 0, .int .i64 0, .int .i64 0, .int .i64 0] 23))
          have RB_u0100_1 := Lib.hid ((row_last (w.alloc (.cells #[.int .i64 x0, .int .i64 x1, .int .i64 y0, .int .i64 y1] 23)) (w.heap.size + 1) 23 [.int .i64 u0, .int .i64 u1, .int .i64 v0, .int .i64 v1] (by simp)).alloc (.cells #[.int .i64 0, .int .i64 0, .int .i64 0, .int .i64 0] 23))
          have RC_u0100_1 := Lib.hid (row_last ((w.alloc (.cells #[.int .i64 x0, .int .i64 x1, .int .i64 y0, .int .i64 y1] 23)).alloc (.cells #[.int .i64 u0, .int .i64 u1, .int .i64 v0, .int .i64 v1] 23)) (w.heap.size + 1 + 1) 23 [.int .i64 0, .int .i64 0, .int .i64 0, .int .i64 0] (by simp))
          have B_u0100_1 := Lib.hid ((((Below.refl w.heap.size w).alloc (Nat.le_refl _) (.cells #[.int .i64 x0, .int .i64 x1, .int .i64 y0, .int .i64 y1] 23)).alloc (by have := Nat.le_refl w.heap.size; simp <;> omega) (.cells #[.int .i64 u0, .int .i64 u1, .int .i64 v0, .int .i64 v1] 23)).alloc (by have := Nat.le_refl w.heap.size; simp <;> omega) (.cells #[.int .i64 0, .int .i64 0, .int .i64 0, .int .i64 0] 23))
          generalize (((w.alloc (.cells #[.int .i64 x0, .int .i64 x1, .int .i64 y0, .int .i64 y1] 23)).alloc (.cells #[.int .i64 u0, .int .i64 u1, .int .i64 v0, .int .i64 v1] 23)).alloc (.cells #[.int .i64 0, .int .i64 0, .int .i64 0, .int .i64 0] 23)) = Vu0100_1 at RA_u0100_1 RB_u0100_1 RC_u0100_1 B_u0100_1 ⊢
          have cu0100_3_0 := RA_u0100_1.out.cell 0
          have cu0100_3_1 := RA_u0100_1.out.cell 1
          have cu0100_3_2 := RA_u0100_1.out.cell 2
          have cu0100_3_3 := RA_u0100_1.out.cell 3
          simp only [List.getElem?_cons_zero, List.getElem?_cons_succ] at cu0100_3_0 cu0100_3_1 cu0100_3_2 cu0100_3_3
          go_wp2_with fail
          refine (HA.out _).mono ?_
          rintro e Wu0100_2 ⟨rfl, hb⟩
          clear cu0100_3_0 cu0100_3_1 cu0100_3_2 cu0100_3_3
          have RA_u0100_4 := Lib.hid (RA_u0100_1.out.below hb RA_u0100_1.out.lt)
          have RB_u0100_4 := Lib.hid (RB_u0100_1.out.below hb RB_u0100_1.out.lt)
          have RC_u0100_4 := Lib.hid (RC_u0100_1.out.below hb RC_u0100_1.out.lt)
          have B_u0100_4 := Lib.hid (B_u0100_1.out.trans (hb.mono B_u0100_1.out.size))
          clear hb RA_u0100_1 RB_u0100_1 RC_u0100_1 B_u0100_1
          have cu0100_6_0 := RB_u0100_4.out.cell 0
          have cu0100_6_1 := RB_u0100_4.out.cell 1
          have cu0100_6_2 := RB_u0100_4.out.cell 2
          have cu0100_6_3 := RB_u0100_4.out.cell 3
          simp only [List.getElem?_cons_zero, List.getElem?_cons_succ] at cu0100_6_0 cu0100_6_1 cu0100_6_2 cu0100_6_3
          go_wp2_with fail
          refine (HB.out _).mono ?_
          rintro e Wu0100_5 ⟨rfl, hb⟩
          clear cu0100_6_0 cu0100_6_1 cu0100_6_2 cu0100_6_3
          have RA_u0100_7 := Lib.hid (RA_u0100_4.out.below hb RA_u0100_4.out.lt)
          have RB_u0100_7 := Lib.hid (RB_u0100_4.out.below hb RB_u0100_4.out.lt)
          have RC_u0100_7 := Lib.hid (RC_u0100_4.out.below hb RC_u0100_4.out.lt)
          have B_u0100_7 := Lib.hid (B_u0100_4.out.trans (hb.mono B_u0100_4.out.size))
          clear hb RA_u0100_4 RB_u0100_4 RC_u0100_4 B_u0100_4
          have cu0100_8_0 := RA_u0100_7.out.cell 0
          have cu0100_8_1 := RA_u0100_7.out.cell 1
          have cu0100_8_2 := RA_u0100_7.out.cell 2
          have cu0100_8_3 := RA_u0100_7.out.cell 3
          simp only [List.getElem?_cons_zero, List.getElem?_cons_succ] at cu0100_8_0 cu0100_8_1 cu0100_8_2 cu0100_8_3
          have fu0100_8_0 := RA_u0100_7.out.frozen 0
          have fu0100_8_1 := RA_u0100_7.out.frozen 1
          have fu0100_8_2 := RA_u0100_7.out.frozen 2
          have fu0100_8_3 := RA_u0100_7.out.frozen 3
          have cu0100_9_0 := RB_u0100_7.out.cell 0
          have cu0100_9_1 := RB_u0100_7.out.cell 1
          have cu0100_9_2 := RB_u0100_7.out.cell 2
          have cu0100_9_3 := RB_u0100_7.out.cell 3
          simp only [List.getElem?_cons_zero, List.getElem?_cons_succ] at cu0100_9_0 cu0100_9_1 cu0100_9_2 cu0100_9_3
          go_upto_region 5 with fail
          clear cu0100_8_0 cu0100_8_1 cu0100_8_2 cu0100_8_3 fu0100_8_0 fu0100_8_1 fu0100_8_2 fu0100_8_3 cu0100_9_0 cu0100_9_1 cu0100_9_2 cu0100_9_3
          have cu0100_10_0 := RA_u0100_7.out.cell 0
          have cu0100_10_1 := RA_u0100_7.out.cell 1
          have cu0100_10_2 := RA_u0100_7.out.cell 2
          have cu0100_10_3 := RA_u0100_7.out.cell 3
          simp only [List.getElem?_cons_zero, List.getElem?_cons_succ] at cu0100_10_0 cu0100_10_1 cu0100_10_2 cu0100_10_3
          have fu0100_10_0 := RA_u0100_7.out.frozen 0
          have fu0100_10_1 := RA_u0100_7.out.frozen 1
          have fu0100_10_2 := RA_u0100_7.out.frozen 2
          have fu0100_10_3 := RA_u0100_7.out.frozen 3
          have cu0100_11_0 := RB_u0100_7.out.cell 0
          have cu0100_11_1 := RB_u0100_7.out.cell 1
          have cu0100_11_2 := RB_u0100_7.out.cell 2
          have cu0100_11_3 := RB_u0100_7.out.cell 3
          simp only [List.getElem?_cons_zero, List.getElem?_cons_succ] at cu0100_11_0 cu0100_11_1 cu0100_11_2 cu0100_11_3
          go_upto_region 7 with fail
          clear cu0100_10_0 cu0100_10_1 cu0100_10_2 cu0100_10_3 fu0100_10_0 fu0100_10_1 fu0100_10_2 fu0100_10_3 cu0100_11_0 cu0100_11_1 cu0100_11_2 cu0100_11_3
          have RA_u0100_12 : Hid (Row (Wu0100_5.setCell ⟨w.heap.size, 1, none⟩ (.int .i64 u1)) (w.heap.size) 23 [.int .i64 x0, .int .i64 u1, .int .i64 y0, .int .i64 y1]) := Lib.hid (RA_u0100_7.out.store 1 (.int .i64 u1))
          have RB_u0100_12 := Lib.hid (RB_u0100_7.out.far (p := ⟨w.heap.size, 1, none⟩) (by dsimp only; omega) (.int .i64 u1))
          have RC_u0100_12 := Lib.hid (RC_u0100_7.out.far (p := ⟨w.heap.size, 1, none⟩) (by dsimp only; omega) (.int .i64 u1))
          have B_u0100_12 := Lib.hid (B_u0100_7.out.setCell (p := ⟨w.heap.size, 1, none⟩) (by dsimp only; omega) (.int .i64 u1))
          clear RA_u0100_7 RB_u0100_7 RC_u0100_7 B_u0100_7
          generalize (Wu0100_5.setCell ⟨w.heap.size, 1, none⟩ (.int .i64 u1)) = Vu0100_12 at RA_u0100_12 RB_u0100_12 RC_u0100_12 B_u0100_12 ⊢
          have cu0100_13_0 := RA_u0100_12.out.cell 0
          have cu0100_13_1 := RA_u0100_12.out.cell 1
          have cu0100_13_2 := RA_u0100_12.out.cell 2
          have cu0100_13_3 := RA_u0100_12.out.cell 3
          simp only [List.getElem?_cons_zero, List.getElem?_cons_succ] at cu0100_13_0 cu0100_13_1 cu0100_13_2 cu0100_13_3
          have fu0100_13_0 := RA_u0100_12.out.frozen 0
          have fu0100_13_1 := RA_u0100_12.out.frozen 1
          have fu0100_13_2 := RA_u0100_12.out.frozen 2
          have fu0100_13_3 := RA_u0100_12.out.frozen 3
          have cu0100_14_0 := RB_u0100_12.out.cell 0
          have cu0100_14_1 := RB_u0100_12.out.cell 1
          have cu0100_14_2 := RB_u0100_12.out.cell 2
          have cu0100_14_3 := RB_u0100_12.out.cell 3
          simp only [List.getElem?_cons_zero, List.getElem?_cons_succ] at cu0100_14_0 cu0100_14_1 cu0100_14_2 cu0100_14_3
          go_upto_region 9 with fail
          clear cu0100_13_0 cu0100_13_1 cu0100_13_2 cu0100_13_3 fu0100_13_0 fu0100_13_1 fu0100_13_2 fu0100_13_3 cu0100_14_0 cu0100_14_1 cu0100_14_2 cu0100_14_3
          have cu0100_15_0 := RA_u0100_12.out.cell 0
          have cu0100_15_1 := RA_u0100_12.out.cell 1
          have cu0100_15_2 := RA_u0100_12.out.cell 2
          have cu0100_15_3 := RA_u0100_12.out.cell 3
          simp only [List.getElem?_cons_zero, List.getElem?_cons_succ] at cu0100_15_0 cu0100_15_1 cu0100_15_2 cu0100_15_3
          have fu0100_15_0 := RA_u0100_12.out.frozen 0
          have fu0100_15_1 := RA_u0100_12.out.frozen 1
          have fu0100_15_2 := RA_u0100_12.out.frozen 2
          have fu0100_15_3 := RA_u0100_12.out.frozen 3
          have cu0100_16_0 := RB_u0100_12.out.cell 0
          have cu0100_16_1 := RB_u0100_12.out.cell 1
          have cu0100_16_2 := RB_u0100_12.out.cell 2
          have cu0100_16_3 := RB_u0100_12.out.cell 3
          simp only [List.getElem?_cons_zero, List.getElem?_cons_succ] at cu0100_16_0 cu0100_16_1 cu0100_16_2 cu0100_16_3
          go_upto_region 11 with fail
          clear cu0100_15_0 cu0100_15_1 cu0100_15_2 cu0100_15_3 fu0100_15_0 fu0100_15_1 fu0100_15_2 fu0100_15_3 cu0100_16_0 cu0100_16_1 cu0100_16_2 cu0100_16_3
          have cu0100_17_0 := RA_u0100_12.out.cell 0
          have cu0100_17_1 := RA_u0100_12.out.cell 1
          have cu0100_17_2 := RA_u0100_12.out.cell 2
          have cu0100_17_3 := RA_u0100_12.out.cell 3
          simp only [List.getElem?_cons_zero, List.getElem?_cons_succ] at cu0100_17_0 cu0100_17_1 cu0100_17_2 cu0100_17_3
          have cu0100_18_0 := RC_u0100_12.out.cell 0
          have cu0100_18_1 := RC_u0100_12.out.cell 1
          have cu0100_18_2 := RC_u0100_12.out.cell 2
          have cu0100_18_3 := RC_u0100_12.out.cell 3
          simp only [List.getElem?_cons_zero, List.getElem?_cons_succ] at cu0100_18_0 cu0100_18_1 cu0100_18_2 cu0100_18_3
          have fu0100_18_0 := RC_u0100_12.out.frozen 0
          have fu0100_18_1 := RC_u0100_12.out.frozen 1
          have fu0100_18_2 := RC_u0100_12.out.frozen 2
          have fu0100_18_3 := RC_u0100_12.out.frozen 3
          go_wp2
          exact bodyPost_ret (v := KV x0 u1 y0 y1) (by simp [results, Try.results16, go_sem, *]) rfl ⟨rfl, by repeat (first | exact B_u0100_12.out | refine Below.setCell ?_ (by first | omega | (simp; done) | (simp; omega)) _ | refine Below.alloc ?_ (by have := B_u0100_12.out.size; first | omega | (simp; done) | (simp; omega)) _)⟩
    · by_cases h2 : v0 < y0
      · by_cases h3 : y1 < v1
        · rw [if_neg h0, if_neg h1, if_pos h2, if_pos h3]
          go_enter Try.func16, Try.ntmps16
          go_upto_region 1 with fail
          have RA_u0011_1 := Lib.hid (((row_last w (w.heap.size) 23 [.int .i64 x0, .int .i64 x1, .int .i64 y0, .int .i64 y1] (by simp)).alloc (.cells #[.int .i64 u0, .int .i64 u1, .int .i64 v0, .int .i64 v1] 23)).alloc (.cells #[.int .i64 0, .int .i64 0, .int .i64 0, .int .i64 0] 23))
          have RB_u0011_1 := Lib.hid ((row_last (w.alloc (.cells #[.int .i64 x0, .int .i64 x1, .int .i64 y0, .int .i64 y1] 23)) (w.heap.size + 1) 23 [.int .i64 u0, .int .i64 u1, .int .i64 v0, .int .i64 v1] (by simp)).alloc (.cells #[.int .i64 0, .int .i64 0, .int .i64 0, .int .i64 0] 23))
          have RC_u0011_1 := Lib.hid (row_last ((w.alloc (.cells #[.int .i64 x0, .int .i64 x1, .int .i64 y0, .int .i64 y1] 23)).alloc (.cells #[.int .i64 u0, .int .i64 u1, .int .i64 v0, .int .i64 v1] 23)) (w.heap.size + 1 + 1) 23 [.int .i64 0, .int .i64 0, .int .i64 0, .int .i64 0] (by simp))
          have B_u0011_1 := Lib.hid ((((Below.refl w.heap.size w).alloc (Nat.le_refl _) (.cells #[.int .i64 x0, .int .i64 x1, .int .i64 y0, .int .i64 y1] 23)).alloc (by have := Nat.le_refl w.heap.size; simp <;> omega) (.cells #[.int .i64 u0, .int .i64 u1, .int .i64 v0, .int .i64 v1] 23)).alloc (by have := Nat.le_refl w.heap.size; simp <;> omega) (.cells #[.int .i64 0, .int .i64 0, .int .i64 0, .int .i64 0] 23))
          generalize (((w.alloc (.cells #[.int .i64 x0, .int .i64 x1, .int .i64 y0, .int .i64 y1] 23)).alloc (.cells #[.int .i64 u0, .int .i64 u1, .int .i64 v0, .int .i64 v1] 23)).alloc (.cells #[.int .i64 0, .int .i64 0, .int .i64 0, .int .i64 0] 23)) = Vu0011_1 at RA_u0011_1 RB_u0011_1 RC_u0011_1 B_u0011_1 ⊢
          have cu0011_3_0 := RA_u0011_1.out.cell 0
          have cu0011_3_1 := RA_u0011_1.out.cell 1
          have cu0011_3_2 := RA_u0011_1.out.cell 2
          have cu0011_3_3 := RA_u0011_1.out.cell 3
          simp only [List.getElem?_cons_zero, List.getElem?_cons_succ] at cu0011_3_0 cu0011_3_1 cu0011_3_2 cu0011_3_3
          go_wp2_with fail
          refine (HA.out _).mono ?_
          rintro e Wu0011_2 ⟨rfl, hb⟩
          clear cu0011_3_0 cu0011_3_1 cu0011_3_2 cu0011_3_3
          have RA_u0011_4 := Lib.hid (RA_u0011_1.out.below hb RA_u0011_1.out.lt)
          have RB_u0011_4 := Lib.hid (RB_u0011_1.out.below hb RB_u0011_1.out.lt)
          have RC_u0011_4 := Lib.hid (RC_u0011_1.out.below hb RC_u0011_1.out.lt)
          have B_u0011_4 := Lib.hid (B_u0011_1.out.trans (hb.mono B_u0011_1.out.size))
          clear hb RA_u0011_1 RB_u0011_1 RC_u0011_1 B_u0011_1
          have cu0011_6_0 := RB_u0011_4.out.cell 0
          have cu0011_6_1 := RB_u0011_4.out.cell 1
          have cu0011_6_2 := RB_u0011_4.out.cell 2
          have cu0011_6_3 := RB_u0011_4.out.cell 3
          simp only [List.getElem?_cons_zero, List.getElem?_cons_succ] at cu0011_6_0 cu0011_6_1 cu0011_6_2 cu0011_6_3
          go_wp2_with fail
          refine (HB.out _).mono ?_
          rintro e Wu0011_5 ⟨rfl, hb⟩
          clear cu0011_6_0 cu0011_6_1 cu0011_6_2 cu0011_6_3
          have RA_u0011_7 := Lib.hid (RA_u0011_4.out.below hb RA_u0011_4.out.lt)
          have RB_u0011_7 := Lib.hid (RB_u0011_4.out.below hb RB_u0011_4.out.lt)
          have RC_u0011_7 := Lib.hid (RC_u0011_4.out.below hb RC_u0011_4.out.lt)
          have B_u0011_7 := Lib.hid (B_u0011_4.out.trans (hb.mono B_u0011_4.out.size))
          clear hb RA_u0011_4 RB_u0011_4 RC_u0011_4 B_u0011_4
          have cu0011_8_0 := RA_u0011_7.out.cell 0
          have cu0011_8_1 := RA_u0011_7.out.cell 1
          have cu0011_8_2 := RA_u0011_7.out.cell 2
          have cu0011_8_3 := RA_u0011_7.out.cell 3
          simp only [List.getElem?_cons_zero, List.getElem?_cons_succ] at cu0011_8_0 cu0011_8_1 cu0011_8_2 cu0011_8_3
          have fu0011_8_0 := RA_u0011_7.out.frozen 0
          have fu0011_8_1 := RA_u0011_7.out.frozen 1
          have fu0011_8_2 := RA_u0011_7.out.frozen 2
          have fu0011_8_3 := RA_u0011_7.out.frozen 3
          have cu0011_9_0 := RB_u0011_7.out.cell 0
          have cu0011_9_1 := RB_u0011_7.out.cell 1
          have cu0011_9_2 := RB_u0011_7.out.cell 2
          have cu0011_9_3 := RB_u0011_7.out.cell 3
          simp only [List.getElem?_cons_zero, List.getElem?_cons_succ] at cu0011_9_0 cu0011_9_1 cu0011_9_2 cu0011_9_3
          go_upto_region 5 with fail
          clear cu0011_8_0 cu0011_8_1 cu0011_8_2 cu0011_8_3 fu0011_8_0 fu0011_8_1 fu0011_8_2 fu0011_8_3 cu0011_9_0 cu0011_9_1 cu0011_9_2 cu0011_9_3
          have cu0011_10_0 := RA_u0011_7.out.cell 0
          have cu0011_10_1 := RA_u0011_7.out.cell 1
          have cu0011_10_2 := RA_u0011_7.out.cell 2
          have cu0011_10_3 := RA_u0011_7.out.cell 3
          simp only [List.getElem?_cons_zero, List.getElem?_cons_succ] at cu0011_10_0 cu0011_10_1 cu0011_10_2 cu0011_10_3
          have fu0011_10_0 := RA_u0011_7.out.frozen 0
          have fu0011_10_1 := RA_u0011_7.out.frozen 1
          have fu0011_10_2 := RA_u0011_7.out.frozen 2
          have fu0011_10_3 := RA_u0011_7.out.frozen 3
          have cu0011_11_0 := RB_u0011_7.out.cell 0
          have cu0011_11_1 := RB_u0011_7.out.cell 1
          have cu0011_11_2 := RB_u0011_7.out.cell 2
          have cu0011_11_3 := RB_u0011_7.out.cell 3
          simp only [List.getElem?_cons_zero, List.getElem?_cons_succ] at cu0011_11_0 cu0011_11_1 cu0011_11_2 cu0011_11_3
          go_upto_region 7 with fail
          clear cu0011_10_0 cu0011_10_1 cu0011_10_2 cu0011_10_3 fu0011_10_0 fu0011_10_1 fu0011_10_2 fu0011_10_3 cu0011_11_0 cu0011_11_1 cu0011_11_2 cu0011_11_3
          have cu0011_12_0 := RA_u0011_7.out.cell 0
          have cu0011_12_1 := RA_u0011_7.out.cell 1
          have cu0011_12_2 := RA_u0011_7.out.cell 2
          have cu0011_12_3 := RA_u0011_7.out.cell 3
          simp only [List.getElem?_cons_zero, List.getElem?_cons_succ] at cu0011_12_0 cu0011_12_1 cu0011_12_2 cu0011_12_3
          have fu0011_12_0 := RA_u0011_7.out.frozen 0
          have fu0011_12_1 := RA_u0011_7.out.frozen 1
          have fu0011_12_2 := RA_u0011_7.out.frozen 2
          have fu0011_12_3 := RA_u0011_7.out.frozen 3
          have cu0011_13_0 := RB_u0011_7.out.cell 0
          have cu0011_13_1 := RB_u0011_7.out.cell 1
          have cu0011_13_2 := RB_u0011_7.out.cell 2
          have cu0011_13_3 := RB_u0011_7.out.cell 3
          simp only [List.getElem?_cons_zero, List.getElem?_cons_succ] at cu0011_13_0 cu0011_13_1 cu0011_13_2 cu0011_13_3
          go_upto_region 9 with fail
          clear cu0011_12_0 cu0011_12_1 cu0011_12_2 cu0011_12_3 fu0011_12_0 fu0011_12_1 fu0011_12_2 fu0011_12_3 cu0011_13_0 cu0011_13_1 cu0011_13_2 cu0011_13_3
          have RA_u0011_14 : Hid (Row (Wu0011_5.setCell ⟨w.heap.size, 2, none⟩ (.int .i64 v0)) (w.heap.size) 23 [.int .i64 x0, .int .i64 x1, .int .i64 v0, .int .i64 y1]) := Lib.hid (RA_u0011_7.out.store 2 (.int .i64 v0))
          have RB_u0011_14 := Lib.hid (RB_u0011_7.out.far (p := ⟨w.heap.size, 2, none⟩) (by dsimp only; omega) (.int .i64 v0))
          have RC_u0011_14 := Lib.hid (RC_u0011_7.out.far (p := ⟨w.heap.size, 2, none⟩) (by dsimp only; omega) (.int .i64 v0))
          have B_u0011_14 := Lib.hid (B_u0011_7.out.setCell (p := ⟨w.heap.size, 2, none⟩) (by dsimp only; omega) (.int .i64 v0))
          clear RA_u0011_7 RB_u0011_7 RC_u0011_7 B_u0011_7
          generalize (Wu0011_5.setCell ⟨w.heap.size, 2, none⟩ (.int .i64 v0)) = Vu0011_14 at RA_u0011_14 RB_u0011_14 RC_u0011_14 B_u0011_14 ⊢
          have cu0011_15_0 := RA_u0011_14.out.cell 0
          have cu0011_15_1 := RA_u0011_14.out.cell 1
          have cu0011_15_2 := RA_u0011_14.out.cell 2
          have cu0011_15_3 := RA_u0011_14.out.cell 3
          simp only [List.getElem?_cons_zero, List.getElem?_cons_succ] at cu0011_15_0 cu0011_15_1 cu0011_15_2 cu0011_15_3
          have fu0011_15_0 := RA_u0011_14.out.frozen 0
          have fu0011_15_1 := RA_u0011_14.out.frozen 1
          have fu0011_15_2 := RA_u0011_14.out.frozen 2
          have fu0011_15_3 := RA_u0011_14.out.frozen 3
          have cu0011_16_0 := RB_u0011_14.out.cell 0
          have cu0011_16_1 := RB_u0011_14.out.cell 1
          have cu0011_16_2 := RB_u0011_14.out.cell 2
          have cu0011_16_3 := RB_u0011_14.out.cell 3
          simp only [List.getElem?_cons_zero, List.getElem?_cons_succ] at cu0011_16_0 cu0011_16_1 cu0011_16_2 cu0011_16_3
          go_upto_region 11 with fail
          clear cu0011_15_0 cu0011_15_1 cu0011_15_2 cu0011_15_3 fu0011_15_0 fu0011_15_1 fu0011_15_2 fu0011_15_3 cu0011_16_0 cu0011_16_1 cu0011_16_2 cu0011_16_3
          have RA_u0011_17 : Hid (Row (Vu0011_14.setCell ⟨w.heap.size, 3, none⟩ (.int .i64 v1)) (w.heap.size) 23 [.int .i64 x0, .int .i64 x1, .int .i64 v0, .int .i64 v1]) := Lib.hid (RA_u0011_14.out.store 3 (.int .i64 v1))
          have RB_u0011_17 := Lib.hid (RB_u0011_14.out.far (p := ⟨w.heap.size, 3, none⟩) (by dsimp only; omega) (.int .i64 v1))
          have RC_u0011_17 := Lib.hid (RC_u0011_14.out.far (p := ⟨w.heap.size, 3, none⟩) (by dsimp only; omega) (.int .i64 v1))
          have B_u0011_17 := Lib.hid (B_u0011_14.out.setCell (p := ⟨w.heap.size, 3, none⟩) (by dsimp only; omega) (.int .i64 v1))
          clear RA_u0011_14 RB_u0011_14 RC_u0011_14 B_u0011_14
          generalize (Vu0011_14.setCell ⟨w.heap.size, 3, none⟩ (.int .i64 v1)) = Vu0011_17 at RA_u0011_17 RB_u0011_17 RC_u0011_17 B_u0011_17 ⊢
          have cu0011_18_0 := RA_u0011_17.out.cell 0
          have cu0011_18_1 := RA_u0011_17.out.cell 1
          have cu0011_18_2 := RA_u0011_17.out.cell 2
          have cu0011_18_3 := RA_u0011_17.out.cell 3
          simp only [List.getElem?_cons_zero, List.getElem?_cons_succ] at cu0011_18_0 cu0011_18_1 cu0011_18_2 cu0011_18_3
          have cu0011_19_0 := RC_u0011_17.out.cell 0
          have cu0011_19_1 := RC_u0011_17.out.cell 1
          have cu0011_19_2 := RC_u0011_17.out.cell 2
          have cu0011_19_3 := RC_u0011_17.out.cell 3
          simp only [List.getElem?_cons_zero, List.getElem?_cons_succ] at cu0011_19_0 cu0011_19_1 cu0011_19_2 cu0011_19_3
          have fu0011_19_0 := RC_u0011_17.out.frozen 0
          have fu0011_19_1 := RC_u0011_17.out.frozen 1
          have fu0011_19_2 := RC_u0011_17.out.frozen 2
          have fu0011_19_3 := RC_u0011_17.out.frozen 3
          go_wp2
          exact bodyPost_ret (v := KV x0 x1 v0 v1) (by simp [results, Try.results16, go_sem, *]) rfl ⟨rfl, by repeat (first | exact B_u0011_17.out | refine Below.setCell ?_ (by first | omega | (simp; done) | (simp; omega)) _ | refine Below.alloc ?_ (by have := B_u0011_17.out.size; first | omega | (simp; done) | (simp; omega)) _)⟩
        · rw [if_neg h0, if_neg h1, if_pos h2, if_neg h3]
          go_enter Try.func16, Try.ntmps16
          go_upto_region 1 with fail
          have RA_u0010_1 := Lib.hid (((row_last w (w.heap.size) 23 [.int .i64 x0, .int .i64 x1, .int .i64 y0, .int .i64 y1] (by simp)).alloc (.cells #[.int .i64 u0, .int .i64 u1, .int .i64 v0, .int .i64 v1] 23)).alloc (.cells #[.int .i64 0, .int .i64 0, .int .i64 0, .int .i64 0] 23))
          have RB_u0010_1 := Lib.hid ((row_last (w.alloc (.cells #[.int .i64 x0, .int .i64 x1, .int .i64 y0, .int .i64 y1] 23)) (w.heap.size + 1) 23 [.int .i64 u0, .int .i64 u1, .int .i64 v0, .int .i64 v1] (by simp)).alloc (.cells #[.int .i64 0, .int .i64 0, .int .i64 0, .int .i64 0] 23))
          have RC_u0010_1 := Lib.hid (row_last ((w.alloc (.cells #[.int .i64 x0, .int .i64 x1, .int .i64 y0, .int .i64 y1] 23)).alloc (.cells #[.int .i64 u0, .int .i64 u1, .int .i64 v0, .int .i64 v1] 23)) (w.heap.size + 1 + 1) 23 [.int .i64 0, .int .i64 0, .int .i64 0, .int .i64 0] (by simp))
          have B_u0010_1 := Lib.hid ((((Below.refl w.heap.size w).alloc (Nat.le_refl _) (.cells #[.int .i64 x0, .int .i64 x1, .int .i64 y0, .int .i64 y1] 23)).alloc (by have := Nat.le_refl w.heap.size; simp <;> omega) (.cells #[.int .i64 u0, .int .i64 u1, .int .i64 v0, .int .i64 v1] 23)).alloc (by have := Nat.le_refl w.heap.size; simp <;> omega) (.cells #[.int .i64 0, .int .i64 0, .int .i64 0, .int .i64 0] 23))
          generalize (((w.alloc (.cells #[.int .i64 x0, .int .i64 x1, .int .i64 y0, .int .i64 y1] 23)).alloc (.cells #[.int .i64 u0, .int .i64 u1, .int .i64 v0, .int .i64 v1] 23)).alloc (.cells #[.int .i64 0, .int .i64 0, .int .i64 0, .int .i64 0] 23)) = Vu0010_1 at RA_u0010_1 RB_u0010_1 RC_u0010_1 B_u0010_1 ⊢
          have cu0010_3_0 := RA_u0010_1.out.cell 0
          have cu0010_3_1 := RA_u0010_1.out.cell 1
          have cu0010_3_2 := RA_u0010_1.out.cell 2
          have cu0010_3_3 := RA_u0010_1.out.cell 3
          simp only [List.getElem?_cons_zero, List.getElem?_cons_succ] at cu0010_3_0 cu0010_3_1 cu0010_3_2 cu0010_3_3
          go_wp2_with fail
          refine (HA.out _).mono ?_
          rintro e Wu0010_2 ⟨rfl, hb⟩
          clear cu0010_3_0 cu0010_3_1 cu0010_3_2 cu0010_3_3
          have RA_u0010_4 := Lib.hid (RA_u0010_1.out.below hb RA_u0010_1.out.lt)
          have RB_u0010_4 := Lib.hid (RB_u0010_1.out.below hb RB_u0010_1.out.lt)
          have RC_u0010_4 := Lib.hid (RC_u0010_1.out.below hb RC_u0010_1.out.lt)
          have B_u0010_4 := Lib.hid (B_u0010_1.out.trans (hb.mono B_u0010_1.out.size))
          clear hb RA_u0010_1 RB_u0010_1 RC_u0010_1 B_u0010_1
          have cu0010_6_0 := RB_u0010_4.out.cell 0
          have cu0010_6_1 := RB_u0010_4.out.cell 1
          have cu0010_6_2 := RB_u0010_4.out.cell 2
          have cu0010_6_3 := RB_u0010_4.out.cell 3
          simp only [List.getElem?_cons_zero, List.getElem?_cons_succ] at cu0010_6_0 cu0010_6_1 cu0010_6_2 cu0010_6_3
          go_wp2_with fail
          refine (HB.out _).mono ?_
          rintro e Wu0010_5 ⟨rfl, hb⟩
          clear cu0010_6_0 cu0010_6_1 cu0010_6_2 cu0010_6_3
          have RA_u0010_7 := Lib.hid (RA_u0010_4.out.below hb RA_u0010_4.out.lt)
          have RB_u0010_7 := Lib.hid (RB_u0010_4.out.below hb RB_u0010_4.out.lt)
          have RC_u0010_7 := Lib.hid (RC_u0010_4.out.below hb RC_u0010_4.out.lt)
          have B_u0010_7 := Lib.hid (B_u0010_4.out.trans (hb.mono B_u0010_4.out.size))
          clear hb RA_u0010_4 RB_u0010_4 RC_u0010_4 B_u0010_4
          have cu0010_8_0 := RA_u0010_7.out.cell 0
          have cu0010_8_1 := RA_u0010_7.out.cell 1
          have cu0010_8_2 := RA_u0010_7.out.cell 2
          have cu0010_8_3 := RA_u0010_7.out.cell 3
          simp only [List.getElem?_cons_zero, List.getElem?_cons_succ] at cu0010_8_0 cu0010_8_1 cu0010_8_2 cu0010_8_3
          have fu0010_8_0 := RA_u0010_7.out.frozen 0
          have fu0010_8_1 := RA_u0010_7.out.frozen 1
          have fu0010_8_2 := RA_u0010_7.out.frozen 2
          have fu0010_8_3 := RA_u0010_7.out.frozen 3
          have cu0010_9_0 := RB_u0010_7.out.cell 0
          have cu0010_9_1 := RB_u0010_7.out.cell 1
          have cu0010_9_2 := RB_u0010_7.out.cell 2
          have cu0010_9_3 := RB_u0010_7.out.cell 3
          simp only [List.getElem?_cons_zero, List.getElem?_cons_succ] at cu0010_9_0 cu0010_9_1 cu0010_9_2 cu0010_9_3
          go_upto_region 5 with fail
          clear cu0010_8_0 cu0010_8_1 cu0010_8_2 cu0010_8_3 fu0010_8_0 fu0010_8_1 fu0010_8_2 fu0010_8_3 cu0010_9_0 cu0010_9_1 cu0010_9_2 cu0010_9_3
          have cu0010_10_0 := RA_u0010_7.out.cell 0
          have cu0010_10_1 := RA_u0010_7.out.cell 1
          have cu0010_10_2 := RA_u0010_7.out.cell 2
          have cu0010_10_3 := RA_u0010_7.out.cell 3
          simp only [List.getElem?_cons_zero, List.getElem?_cons_succ] at cu0010_10_0 cu0010_10_1 cu0010_10_2 cu0010_10_3
          have fu0010_10_0 := RA_u0010_7.out.frozen 0
          have fu0010_10_1 := RA_u0010_7.out.frozen 1
          have fu0010_10_2 := RA_u0010_7.out.frozen 2
          have fu0010_10_3 := RA_u0010_7.out.frozen 3
          have cu0010_11_0 := RB_u0010_7.out.cell 0
          have cu0010_11_1 := RB_u0010_7.out.cell 1
          have cu0010_11_2 := RB_u0010_7.out.cell 2
          have cu0010_11_3 := RB_u0010_7.out.cell 3
          simp only [List.getElem?_cons_zero, List.getElem?_cons_succ] at cu0010_11_0 cu0010_11_1 cu0010_11_2 cu0010_11_3
          go_upto_region 7 with fail
          clear cu0010_10_0 cu0010_10_1 cu0010_10_2 cu0010_10_3 fu0010_10_0 fu0010_10_1 fu0010_10_2 fu0010_10_3 cu0010_11_0 cu0010_11_1 cu0010_11_2 cu0010_11_3
          have cu0010_12_0 := RA_u0010_7.out.cell 0
          have cu0010_12_1 := RA_u0010_7.out.cell 1
          have cu0010_12_2 := RA_u0010_7.out.cell 2
          have cu0010_12_3 := RA_u0010_7.out.cell 3
          simp only [List.getElem?_cons_zero, List.getElem?_cons_succ] at cu0010_12_0 cu0010_12_1 cu0010_12_2 cu0010_12_3
          have fu0010_12_0 := RA_u0010_7.out.frozen 0
          have fu0010_12_1 := RA_u0010_7.out.frozen 1
          have fu0010_12_2 := RA_u0010_7.out.frozen 2
          have fu0010_12_3 := RA_u0010_7.out.frozen 3
          have cu0010_13_0 := RB_u0010_7.out.cell 0
          have cu0010_13_1 := RB_u0010_7.out.cell 1
          have cu0010_13_2 := RB_u0010_7.out.cell 2
          have cu0010_13_3 := RB_u0010_7.out.cell 3
          simp only [List.getElem?_cons_zero, List.getElem?_cons_succ] at cu0010_13_0 cu0010_13_1 cu0010_13_2 cu0010_13_3
          go_upto_region 9 with fail
          clear cu0010_12_0 cu0010_12_1 cu0010_12_2 cu0010_12_3 fu0010_12_0 fu0010_12_1 fu0010_12_2 fu0010_12_3 cu0010_13_0 cu0010_13_1 cu0010_13_2 cu0010_13_3
          have RA_u0010_14 : Hid (Row (Wu0010_5.setCell ⟨w.heap.size, 2, none⟩ (.int .i64 v0)) (w.heap.size) 23 [.int .i64 x0, .int .i64 x1, .int .i64 v0, .int .i64 y1]) := Lib.hid (RA_u0010_7.out.store 2 (.int .i64 v0))
          have RB_u0010_14 := Lib.hid (RB_u0010_7.out.far (p := ⟨w.heap.size, 2, none⟩) (by dsimp only; omega) (.int .i64 v0))
          have RC_u0010_14 := Lib.hid (RC_u0010_7.out.far (p := ⟨w.heap.size, 2, none⟩) (by dsimp only; omega) (.int .i64 v0))
          have B_u0010_14 := Lib.hid (B_u0010_7.out.setCell (p := ⟨w.heap.size, 2, none⟩) (by dsimp only; omega) (.int .i64 v0))
          clear RA_u0010_7 RB_u0010_7 RC_u0010_7 B_u0010_7
          generalize (Wu0010_5.setCell ⟨w.heap.size, 2, none⟩ (.int .i64 v0)) = Vu0010_14 at RA_u0010_14 RB_u0010_14 RC_u0010_14 B_u0010_14 ⊢
          have cu0010_15_0 := RA_u0010_14.out.cell 0
          have cu0010_15_1 := RA_u0010_14.out.cell 1
          have cu0010_15_2 := RA_u0010_14.out.cell 2
          have cu0010_15_3 := RA_u0010_14.out.cell 3
          simp only [List.getElem?_cons_zero, List.getElem?_cons_succ] at cu0010_15_0 cu0010_15_1 cu0010_15_2 cu0010_15_3
          have fu0010_15_0 := RA_u0010_14.out.frozen 0
          have fu0010_15_1 := RA_u0010_14.out.frozen 1
          have fu0010_15_2 := RA_u0010_14.out.frozen 2
          have fu0010_15_3 := RA_u0010_14.out.frozen 3
          have cu0010_16_0 := RB_u0010_14.out.cell 0
          have cu0010_16_1 := RB_u0010_14.out.cell 1
          have cu0010_16_2 := RB_u0010_14.out.cell 2
          have cu0010_16_3 := RB_u0010_14.out.cell 3
          simp only [List.getElem?_cons_zero, List.getElem?_cons_succ] at cu0010_16_0 cu0010_16_1 cu0010_16_2 cu0010_16_3
          go_upto_region 11 with fail
          clear cu0010_15_0 cu0010_15_1 cu0010_15_2 cu0010_15_3 fu0010_15_0 fu0010_15_1 fu0010_15_2 fu0010_15_3 cu0010_16_0 cu0010_16_1 cu0010_16_2 cu0010_16_3
          have cu0010_17_0 := RA_u0010_14.out.cell 0
          have cu0010_17_1 := RA_u0010_14.out.cell 1
          have cu0010_17_2 := RA_u0010_14.out.cell 2
          have cu0010_17_3 := RA_u0010_14.out.cell 3
          simp only [List.getElem?_cons_zero, List.getElem?_cons_succ] at cu0010_17_0 cu0010_17_1 cu0010_17_2 cu0010_17_3
          have cu0010_18_0 := RC_u0010_14.out.cell 0
          have cu0010_18_1 := RC_u0010_14.out.cell 1
          have cu0010_18_2 := RC_u0010_14.out.cell 2
          have cu0010_18_3 := RC_u0010_14.out.cell 3
          simp only [List.getElem?_cons_zero, List.getElem?_cons_succ] at cu0010_18_0 cu0010_18_1 cu0010_18_2 cu0010_18_3
          have fu0010_18_0 := RC_u0010_14.out.frozen 0
          have fu0010_18_1 := RC_u0010_14.out.frozen 1
          have fu0010_18_2 := RC_u0010_14.out.frozen 2
          have fu0010_18_3 := RC_u0010_14.out.frozen 3
          go_wp2
          exact bodyPost_ret (v := KV x0 x1 v0 y1) (by simp [results, Try.results16, go_sem, *]) rfl ⟨rfl, by repeat (first | exact B_u0010_14.out | refine Below.setCell ?_ (by first | omega | (simp; done) | (simp; omega)) _ | refine Below.alloc ?_ (by have := B_u0010_14.out.size; first | omega | (simp; done) | (simp; omega)) _)⟩
      · by_cases h3 : y1 < v1
        · rw [if_neg h0, if_neg h1, if_neg h2, if_pos h3]
          go_enter Try.func16, Try.ntmps16
          go_upto_region 1 with fail
          have RA_u0001_1 := Lib.hid (((row_last w (w.heap.size) 23 [.int .i64 x0, .int .i64 x1, .int .i64 y0, .int .i64 y1] (by simp)).alloc (.cells #[.int .i64 u0, .int .i64 u1, .int .i64 v0, .int .i64 v1] 23)).alloc (.cells #[.int .i64 0, .int .i64 0, .int .i64 0, .int .i64 0] 23))
          have RB_u0001_1 := Lib.hid ((row_last (w.alloc (.cells #[.int .i64 x0, .int .i64 x1, .int .i64 y0, .int .i64 y1] 23)) (w.heap.size + 1) 23 [.int .i64 u0, .int .i64 u1, .int .i64 v0, .int .i64 v1] (by simp)).alloc (.cells #[.int .i64 0, .int .i64 0, .int .i64 0, .int .i64 0] 23))
          have RC_u0001_1 := Lib.hid (row_last ((w.alloc (.cells #[.int .i64 x0, .int .i64 x1, .int .i64 y0, .int .i64 y1] 23)).alloc (.cells #[.int .i64 u0, .int .i64 u1, .int .i64 v0, .int .i64 v1] 23)) (w.heap.size + 1 + 1) 23 [.int .i64 0, .int .i64 0, .int .i64 0, .int .i64 0] (by simp))
          have B_u0001_1 := Lib.hid ((((Below.refl w.heap.size w).alloc (Nat.le_refl _) (.cells #[.int .i64 x0, .int .i64 x1, .int .i64 y0, .int .i64 y1] 23)).alloc (by have := Nat.le_refl w.heap.size; simp <;> omega) (.cells #[.int .i64 u0, .int .i64 u1, .int .i64 v0, .int .i64 v1] 23)).alloc (by have := Nat.le_refl w.heap.size; simp <;> omega) (.cells #[.int .i64 0, .int .i64 0, .int .i64 0, .int .i64 0] 23))
          generalize (((w.alloc (.cells #[.int .i64 x0, .int .i64 x1, .int .i64 y0, .int .i64 y1] 23)).alloc (.cells #[.int .i64 u0, .int .i64 u1, .int .i64 v0, .int .i64 v1] 23)).alloc (.cells #[.int .i64 0, .int .i64 0, .int .i64 0, .int .i64 0] 23)) = Vu0001_1 at RA_u0001_1 RB_u0001_1 RC_u0001_1 B_u0001_1 ⊢
          have cu0001_3_0 := RA_u0001_1.out.cell 0
          have cu0001_3_1 := RA_u0001_1.out.cell 1
          have cu0001_3_2 := RA_u0001_1.out.cell 2
          have cu0001_3_3 := RA_u0001_1.out.cell 3
          simp only [List.getElem?_cons_zero, List.getElem?_cons_succ] at cu0001_3_0 cu0001_3_1 cu0001_3_2 cu0001_3_3
          go_wp2_with fail
          refine (HA.out _).mono ?_
          rintro e Wu0001_2 ⟨rfl, hb⟩
          clear cu0001_3_0 cu0001_3_1 cu0001_3_2 cu0001_3_3
          have RA_u0001_4 := Lib.hid (RA_u0001_1.out.below hb RA_u0001_1.out.lt)
          have RB_u0001_4 := Lib.hid (RB_u0001_1.out.below hb RB_u0001_1.out.lt)
          have RC_u0001_4 := Lib.hid (RC_u0001_1.out.below hb RC_u0001_1.out.lt)
          have B_u0001_4 := Lib.hid (B_u0001_1.out.trans (hb.mono B_u0001_1.out.size))
          clear hb RA_u0001_1 RB_u0001_1 RC_u0001_1 B_u0001_1
          have cu0001_6_0 := RB_u0001_4.out.cell 0
          have cu0001_6_1 := RB_u0001_4.out.cell 1
          have cu0001_6_2 := RB_u0001_4.out.cell 2
          have cu0001_6_3 := RB_u0001_4.out.cell 3
          simp only [List.getElem?_cons_zero, List.getElem?_cons_succ] at cu0001_6_0 cu0001_6_1 cu0001_6_2 cu0001_6_3
          go_wp2_with fail
          refine (HB.out _).mono ?_
          rintro e Wu0001_5 ⟨rfl, hb⟩
          clear cu0001_6_0 cu0001_6_1 cu0001_6_2 cu0001_6_3
          have RA_u0001_7 := Lib.hid (RA_u0001_4.out.below hb RA_u0001_4.out.lt)
          have RB_u0001_7 := Lib.hid (RB_u0001_4.out.below hb RB_u0001_4.out.lt)
          have RC_u0001_7 := Lib.hid (RC_u0001_4.out.below hb RC_u0001_4.out.lt)
          have B_u0001_7 := Lib.hid (B_u0001_4.out.trans (hb.mono B_u0001_4.out.size))
          clear hb RA_u0001_4 RB_u0001_4 RC_u0001_4 B_u0001_4
          have cu0001_8_0 := RA_u0001_7.out.cell 0
          have cu0001_8_1 := RA_u0001_7.out.cell 1
          have cu0001_8_2 := RA_u0001_7.out.cell 2
          have cu0001_8_3 := RA_u0001_7.out.cell 3
          simp only [List.getElem?_cons_zero, List.getElem?_cons_succ] at cu0001_8_0 cu0001_8_1 cu0001_8_2 cu0001_8_3
          have fu0001_8_0 := RA_u0001_7.out.frozen 0
          have fu0001_8_1 := RA_u0001_7.out.frozen 1
          have fu0001_8_2 := RA_u0001_7.out.frozen 2
          have fu0001_8_3 := RA_u0001_7.out.frozen 3
          have cu0001_9_0 := RB_u0001_7.out.cell 0
          have cu0001_9_1 := RB_u0001_7.out.cell 1
          have cu0001_9_2 := RB_u0001_7.out.cell 2
          have cu0001_9_3 := RB_u0001_7.out.cell 3
          simp only [List.getElem?_cons_zero, List.getElem?_cons_succ] at cu0001_9_0 cu0001_9_1 cu0001_9_2 cu0001_9_3
          go_upto_region 5 with fail
          clear cu0001_8_0 cu0001_8_1 cu0001_8_2 cu0001_8_3 fu0001_8_0 fu0001_8_1 fu0001_8_2 fu0001_8_3 cu0001_9_0 cu0001_9_1 cu0001_9_2 cu0001_9_3
          have cu0001_10_0 := RA_u0001_7.out.cell 0
          have cu0001_10_1 := RA_u0001_7.out.cell 1
          have cu0001_10_2 := RA_u0001_7.out.cell 2
          have cu0001_10_3 := RA_u0001_7.out.cell 3
          simp only [List.getElem?_cons_zero, List.getElem?_cons_succ] at cu0001_10_0 cu0001_10_1 cu0001_10_2 cu0001_10_3
          have fu0001_10_0 := RA_u0001_7.out.frozen 0
          have fu0001_10_1 := RA_u0001_7.out.frozen 1
          have fu0001_10_2 := RA_u0001_7.out.frozen 2
          have fu0001_10_3 := RA_u0001_7.out.frozen 3
          have cu0001_11_0 := RB_u0001_7.out.cell 0
          have cu0001_11_1 := RB_u0001_7.out.cell 1
          have cu0001_11_2 := RB_u0001_7.out.cell 2
          have cu0001_11_3 := RB_u0001_7.out.cell 3
          simp only [List.getElem?_cons_zero, List.getElem?_cons_succ] at cu0001_11_0 cu0001_11_1 cu0001_11_2 cu0001_11_3
          go_upto_region 7 with fail
          clear cu0001_10_0 cu0001_10_1 cu0001_10_2 cu0001_10_3 fu0001_10_0 fu0001_10_1 fu0001_10_2 fu0001_10_3 cu0001_11_0 cu0001_11_1 cu0001_11_2 cu0001_11_3
          have cu0001_12_0 := RA_u0001_7.out.cell 0
          have cu0001_12_1 := RA_u0001_7.out.cell 1
          have cu0001_12_2 := RA_u0001_7.out.cell 2
          have cu0001_12_3 := RA_u0001_7.out.cell 3
          simp only [List.getElem?_cons_zero, List.getElem?_cons_succ] at cu0001_12_0 cu0001_12_1 cu0001_12_2 cu0001_12_3
          have fu0001_12_0 := RA_u0001_7.out.frozen 0
          have fu0001_12_1 := RA_u0001_7.out.frozen 1
          have fu0001_12_2 := RA_u0001_7.out.frozen 2
          have fu0001_12_3 := RA_u0001_7.out.frozen 3
          have cu0001_13_0 := RB_u0001_7.out.cell 0
          have cu0001_13_1 := RB_u0001_7.out.cell 1
          have cu0001_13_2 := RB_u0001_7.out.cell 2
          have cu0001_13_3 := RB_u0001_7.out.cell 3
          simp only [List.getElem?_cons_zero, List.getElem?_cons_succ] at cu0001_13_0 cu0001_13_1 cu0001_13_2 cu0001_13_3
          go_upto_region 9 with fail
          clear cu0001_12_0 cu0001_12_1 cu0001_12_2 cu0001_12_3 fu0001_12_0 fu0001_12_1 fu0001_12_2 fu0001_12_3 cu0001_13_0 cu0001_13_1 cu0001_13_2 cu0001_13_3
          have cu0001_14_0 := RA_u0001_7.out.cell 0
          have cu0001_14_1 := RA_u0001_7.out.cell 1
          have cu0001_14_2 := RA_u0001_7.out.cell 2
          have cu0001_14_3 := RA_u0001_7.out.cell 3
          simp only [List.getElem?_cons_zero, List.getElem?_cons_succ] at cu0001_14_0 cu0001_14_1 cu0001_14_2 cu0001_14_3
          have fu0001_14_0 := RA_u0001_7.out.frozen 0
          have fu0001_14_1 := RA_u0001_7.out.frozen 1
          have fu0001_14_2 := RA_u0001_7.out.frozen 2
          have fu0001_14_3 := RA_u0001_7.out.frozen 3
          have cu0001_15_0 := RB_u0001_7.out.cell 0
          have cu0001_15_1 := RB_u0001_7.out.cell 1
          have cu0001_15_2 := RB_u0001_7.out.cell 2
          have cu0001_15_3 := RB_u0001_7.out.cell 3
          simp only [List.getElem?_cons_zero, List.getElem?_cons_succ] at cu0001_15_0 cu0001_15_1 cu0001_15_2 cu0001_15_3
          go_upto_region 11 with fail
          clear cu0001_14_0 cu0001_14_1 cu0001_14_2 cu0001_14_3 fu0001_14_0 fu0001_14_1 fu0001_14_2 fu0001_14_3 cu0001_15_0 cu0001_15_1 cu0001_15_2 cu0001_15_3
          have RA_u0001_16 : Hid (Row (Wu0001_5.setCell ⟨w.heap.size, 3, none⟩ (.int .i64 v1)) (w.heap.size) 23 [.int .i64 x0, .int .i64 x1, .int .i64 y0, .int .i64 v1]) := Lib.hid (RA_u0001_7.out.store 3 (.int .i64 v1))
          have RB_u0001_16 := Lib.hid (RB_u0001_7.out.far (p := ⟨w.heap.size, 3, none⟩) (by dsimp only; omega) (.int .i64 v1))
          have RC_u0001_16 := Lib.hid (RC_u0001_7.out.far (p := ⟨w.heap.size, 3, none⟩) (by dsimp only; omega) (.int .i64 v1))
          have B_u0001_16 := Lib.hid (B_u0001_7.out.setCell (p := ⟨w.heap.size, 3, none⟩) (by dsimp only; omega) (.int .i64 v1))
          clear RA_u0001_7 RB_u0001_7 RC_u0001_7 B_u0001_7
          generalize (Wu0001_5.setCell ⟨w.heap.size, 3, none⟩ (.int .i64 v1)) = Vu0001_16 at RA_u0001_16 RB_u0001_16 RC_u0001_16 B_u0001_16 ⊢
          have cu0001_17_0 := RA_u0001_16.out.cell 0
          have cu0001_17_1 := RA_u0001_16.out.cell 1
          have cu0001_17_2 := RA_u0001_16.out.cell 2
          have cu0001_17_3 := RA_u0001_16.out.cell 3
          simp only [List.getElem?_cons_zero, List.getElem?_cons_succ] at cu0001_17_0 cu0001_17_1 cu0001_17_2 cu0001_17_3
          have cu0001_18_0 := RC_u0001_16.out.cell 0
          have cu0001_18_1 := RC_u0001_16.out.cell 1
          have cu0001_18_2 := RC_u0001_16.out.cell 2
          have cu0001_18_3 := RC_u0001_16.out.cell 3
          simp only [List.getElem?_cons_zero, List.getElem?_cons_succ] at cu0001_18_0 cu0001_18_1 cu0001_18_2 cu0001_18_3
          have fu0001_18_0 := RC_u0001_16.out.frozen 0
          have fu0001_18_1 := RC_u0001_16.out.frozen 1
          have fu0001_18_2 := RC_u0001_16.out.frozen 2
          have fu0001_18_3 := RC_u0001_16.out.frozen 3
          go_wp2
          exact bodyPost_ret (v := KV x0 x1 y0 v1) (by simp [results, Try.results16, go_sem, *]) rfl ⟨rfl, by repeat (first | exact B_u0001_16.out | refine Below.setCell ?_ (by first | omega | (simp; done) | (simp; omega)) _ | refine Below.alloc ?_ (by have := B_u0001_16.out.size; first | omega | (simp; done) | (simp; omega)) _)⟩
        · rw [if_neg h0, if_neg h1, if_neg h2, if_neg h3]
          go_enter Try.func16, Try.ntmps16
          go_upto_region 1 with fail
          have RA_u0000_1 := Lib.hid (((row_last w (w.heap.size) 23 [.int .i64 x0, .int .i64 x1, .int .i64 y0, .int .i64 y1] (by simp)).alloc (.cells #[.int .i64 u0, .int .i64 u1, .int .i64 v0, .int .i64 v1] 23)).alloc (.cells #[.int .i64 0, .int .i64 0, .int .i64 0, .int .i64 0] 23))
          have RB_u0000_1 := Lib.hid ((row_last (w.alloc (.cells #[.int .i64 x0, .int .i64 x1, .int .i64 y0, .int .i64 y1] 23)) (w.heap.size + 1) 23 [.int .i64 u0, .int .i64 u1, .int .i64 v0, .int .i64 v1] (by simp)).alloc (.cells #[.int .i64 0, .int .i64 0, .int .i64 0, .int .i64 0] 23))
          have RC_u0000_1 := Lib.hid (row_last ((w.alloc (.cells #[.int .i64 x0, .int .i64 x1, .int .i64 y0, .int .i64 y1] 23)).alloc (.cells #[.int .i64 u0, .int .i64 u1, .int .i64 v0, .int .i64 v1] 23)) (w.heap.size + 1 + 1) 23 [.int .i64 0, .int .i64 0, .int .i64 0, .int .i64 0] (by simp))
          have B_u0000_1 := Lib.hid ((((Below.refl w.heap.size w).alloc (Nat.le_refl _) (.cells #[.int .i64 x0, .int .i64 x1, .int .i64 y0, .int .i64 y1] 23)).alloc (by have := Nat.le_refl w.heap.size; simp <;> omega) (.cells #[.int .i64 u0, .int .i64 u1, .int .i64 v0, .int .i64 v1] 23)).alloc (by have := Nat.le_refl w.heap.size; simp <;> omega) (.cells #[.int .i64 0, .int .i64 0, .int .i64 0, .int .i64 0] 23))
          generalize (((w.alloc (.cells #[.int .i64 x0, .int .i64 x1, .int .i64 y0, .int .i64 y1] 23)).alloc (.cells #[.int .i64 u0, .int .i64 u1, .int .i64 v0, .int .i64 v1] 23)).alloc (.cells #[.int .i64 0, .int .i64 0, .int .i64 0, .int .i64 0] 23)) = Vu0000_1 at RA_u0000_1 RB_u0000_1 RC_u0000_1 B_u0000_1 ⊢
          have cu0000_3_0 := RA_u0000_1.out.cell 0
          have cu0000_3_1 := RA_u0000_1.out.cell 1
          have cu0000_3_2 := RA_u0000_1.out.cell 2
          have cu0000_3_3 := RA_u0000_1.out.cell 3
          simp only [List.getElem?_cons_zero, List.getElem?_cons_succ] at cu0000_3_0 cu0000_3_1 cu0000_3_2 cu0000_3_3
          go_wp2_with fail
          refine (HA.out _).mono ?_
          rintro e Wu0000_2 ⟨rfl, hb⟩
          clear cu0000_3_0 cu0000_3_1 cu0000_3_2 cu0000_3_3
          have RA_u0000_4 := Lib.hid (RA_u0000_1.out.below hb RA_u0000_1.out.lt)
          have RB_u0000_4 := Lib.hid (RB_u0000_1.out.below hb RB_u0000_1.out.lt)
          have RC_u0000_4 := Lib.hid (RC_u0000_1.out.below hb RC_u0000_1.out.lt)
          have B_u0000_4 := Lib.hid (B_u0000_1.out.trans (hb.mono B_u0000_1.out.size))
          clear hb RA_u0000_1 RB_u0000_1 RC_u0000_1 B_u0000_1
          have cu0000_6_0 := RB_u0000_4.out.cell 0
          have cu0000_6_1 := RB_u0000_4.out.cell 1
          have cu0000_6_2 := RB_u0000_4.out.cell 2
          have cu0000_6_3 := RB_u0000_4.out.cell 3
          simp only [List.getElem?_cons_zero, List.getElem?_cons_succ] at cu0000_6_0 cu0000_6_1 cu0000_6_2 cu0000_6_3
          go_wp2_with fail
          refine (HB.out _).mono ?_
          rintro e Wu0000_5 ⟨rfl, hb⟩
          clear cu0000_6_0 cu0000_6_1 cu0000_6_2 cu0000_6_3
          have RA_u0000_7 := Lib.hid (RA_u0000_4.out.below hb RA_u0000_4.out.lt)
          have RB_u0000_7 := Lib.hid (RB_u0000_4.out.below hb RB_u0000_4.out.lt)
          have RC_u0000_7 := Lib.hid (RC_u0000_4.out.below hb RC_u0000_4.out.lt)
          have B_u0000_7 := Lib.hid (B_u0000_4.out.trans (hb.mono B_u0000_4.out.size))
          clear hb RA_u0000_4 RB_u0000_4 RC_u0000_4 B_u0000_4
          have cu0000_8_0 := RA_u0000_7.out.cell 0
          have cu0000_8_1 := RA_u0000_7.out.cell 1
          have cu0000_8_2 := RA_u0000_7.out.cell 2
          have cu0000_8_3 := RA_u0000_7.out.cell 3
          simp only [List.getElem?_cons_zero, List.getElem?_cons_succ] at cu0000_8_0 cu0000_8_1 cu0000_8_2 cu0000_8_3
          have fu0000_8_0 := RA_u0000_7.out.frozen 0
          have fu0000_8_1 := RA_u0000_7.out.frozen 1
          have fu0000_8_2 := RA_u0000_7.out.frozen 2
          have fu0000_8_3 := RA_u0000_7.out.frozen 3
          have cu0000_9_0 := RB_u0000_7.out.cell 0
          have cu0000_9_1 := RB_u0000_7.out.cell 1
          have cu0000_9_2 := RB_u0000_7.out.cell 2
          have cu0000_9_3 := RB_u0000_7.out.cell 3
          simp only [List.getElem?_cons_zero, List.getElem?_cons_succ] at cu0000_9_0 cu0000_9_1 cu0000_9_2 cu0000_9_3
          go_upto_region 5 with fail
          clear cu0000_8_0 cu0000_8_1 cu0000_8_2 cu0000_8_3 fu0000_8_0 fu0000_8_1 fu0000_8_2 fu0000_8_3 cu0000_9_0 cu0000_9_1 cu0000_9_2 cu0000_9_3
          have cu0000_10_0 := RA_u0000_7.out.cell 0
          have cu0000_10_1 := RA_u0000_7.out.cell 1
          have cu0000_10_2 := RA_u0000_7.out.cell 2
          have cu0000_10_3 := RA_u0000_7.out.cell 3
          simp only [List.getElem?_cons_zero, List.getElem?_cons_succ] at cu0000_10_0 cu0000_10_1 cu0000_10_2 cu0000_10_3
          have fu0000_10_0 := RA_u0000_7.out.frozen 0
          have fu0000_10_1 := RA_u0000_7.out.frozen 1
          have fu0000_10_2 := RA_u0000_7.out.frozen 2
          have fu0000_10_3 := RA_u0000_7.out.frozen 3
          have cu0000_11_0 := RB_u0000_7.out.cell 0
          have cu0000_11_1 := RB_u0000_7.out.cell 1
          have cu0000_11_2 := RB_u0000_7.out.cell 2
          have cu0000_11_3 := RB_u0000_7.out.cell 3
          simp only [List.getElem?_cons_zero, List.getElem?_cons_succ] at cu0000_11_0 cu0000_11_1 cu0000_11_2 cu0000_11_3
          go_upto_region 7 with fail
          clear cu0000_10_0 cu0000_10_1 cu0000_10_2 cu0000_10_3 fu0000_10_0 fu0000_10_1 fu0000_10_2 fu0000_10_3 cu0000_11_0 cu0000_11_1 cu0000_11_2 cu0000_11_3
          have cu0000_12_0 := RA_u0000_7.out.cell 0
          have cu0000_12_1 := RA_u0000_7.out.cell 1
          have cu0000_12_2 := RA_u0000_7.out.cell 2
          have cu0000_12_3 := RA_u0000_7.out.cell 3
          simp only [List.getElem?_cons_zero, List.getElem?_cons_succ] at cu0000_12_0 cu0000_12_1 cu0000_12_2 cu0000_12_3
          have fu0000_12_0 := RA_u0000_7.out.frozen 0
          have fu0000_12_1 := RA_u0000_7.out.frozen 1
          have fu0000_12_2 := RA_u0000_7.out.frozen 2
          have fu0000_12_3 := RA_u0000_7.out.frozen 3
          have cu0000_13_0 := RB_u0000_7.out.cell 0
          have cu0000_13_1 := RB_u0000_7.out.cell 1
          have cu0000_13_2 := RB_u0000_7.out.cell 2
          have cu0000_13_3 := RB_u0000_7.out.cell 3
          simp only [List.getElem?_cons_zero, List.getElem?_cons_succ] at cu0000_13_0 cu0000_13_1 cu0000_13_2 cu0000_13_3
          go_upto_region 9 with fail
          clear cu0000_12_0 cu0000_12_1 cu0000_12_2 cu0000_12_3 fu0000_12_0 fu0000_12_1 fu0000_12_2 fu0000_12_3 cu0000_13_0 cu0000_13_1 cu0000_13_2 cu0000_13_3
          have cu0000_14_0 := RA_u0000_7.out.cell 0
          have cu0000_14_1 := RA_u0000_7.out.cell 1
          have cu0000_14_2 := RA_u0000_7.out.cell 2
          have cu0000_14_3 := RA_u0000_7.out.cell 3
          simp only [List.getElem?_cons_zero, List.getElem?_cons_succ] at cu0000_14_0 cu0000_14_1 cu0000_14_2 cu0000_14_3
          have fu0000_14_0 := RA_u0000_7.out.frozen 0
          have fu0000_14_1 := RA_u0000_7.out.frozen 1
          have fu0000_14_2 := RA_u0000_7.out.frozen 2
          have fu0000_14_3 := RA_u0000_7.out.frozen 3
          have cu0000_15_0 := RB_u0000_7.out.cell 0
          have cu0000_15_1 := RB_u0000_7.out.cell 1
          have cu0000_15_2 := RB_u0000_7.out.cell 2
          have cu0000_15_3 := RB_u0000_7.out.cell 3
          simp only [List.getElem?_cons_zero, List.getElem?_cons_succ] at cu0000_15_0 cu0000_15_1 cu0000_15_2 cu0000_15_3
          go_upto_region 11 with fail
          clear cu0000_14_0 cu0000_14_1 cu0000_14_2 cu0000_14_3 fu0000_14_0 fu0000_14_1 fu0000_14_2 fu0000_14_3 cu0000_15_0 cu0000_15_1 cu0000_15_2 cu0000_15_3
          have cu0000_16_0 := RA_u0000_7.out.cell 0
          have cu0000_16_1 := RA_u0000_7.out.cell 1
          have cu0000_16_2 := RA_u0000_7.out.cell 2
          have cu0000_16_3 := RA_u0000_7.out.cell 3
          simp only [List.getElem?_cons_zero, List.getElem?_cons_succ] at cu0000_16_0 cu0000_16_1 cu0000_16_2 cu0000_16_3
          have cu0000_17_0 := RC_u0000_7.out.cell 0
          have cu0000_17_1 := RC_u0000_7.out.cell 1
          have cu0000_17_2 := RC_u0000_7.out.cell 2
          have cu0000_17_3 := RC_u0000_7.out.cell 3
          simp only [List.getElem?_cons_zero, List.getElem?_cons_succ] at cu0000_17_0 cu0000_17_1 cu0000_17_2 cu0000_17_3
          have fu0000_17_0 := RC_u0000_7.out.frozen 0
          have fu0000_17_1 := RC_u0000_7.out.frozen 1
          have fu0000_17_2 := RC_u0000_7.out.frozen 2
          have fu0000_17_3 := RC_u0000_7.out.frozen 3
          go_wp2
          exact bodyPost_ret (v := KV x0 x1 y0 y1) (by simp [results, Try.results16, go_sem, *]) rfl ⟨rfl, by repeat (first | exact B_u0000_7.out | refine Below.setCell ?_ (by first | omega | (simp; done) | (simp; omega)) _ | refine Below.alloc ?_ (by have := B_u0000_7.out.size; first | omega | (simp; done) | (simp; omega)) _)⟩
end Go.Proofs.Ytbmfijcckdkmdaa.Ky
