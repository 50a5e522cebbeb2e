/-
  KeyGrows: how much whatever box grows, and which one grows less, is what the document says. No condition.
-/
import Derived.Test.YtbmfijcckdkmdaaKy13
import Derived.Test.YtbmfijcckdkmdaaWiO
import Derived.Test.YtbmfijcckdkmdaaKy18
import Derived.Deep.RegionHeld
import Derived.Deep.Cut
import Derived.WalkLawsBesides
namespace Go.Proofs.Ytbmfijcckdkmdaa.KeyGrows
set_option maxRecDepth 100000
open Go.ChangeShapes Go.WideShapes Go.ChangeAt Go.RowKit Go.Proofs.Ytbmfijcckdkmdaa.Wd Go.Proofs.Ytbmfijcckdkmdaa.Wi Go.Proofs.Ytbmfijcckdkmdaa.Ky

theorem own : ownKnob Try.prog.godebug = none := by kernel_rfl
theorem laidOut : laidOutB Try.prog = true := by kernel_rfl

theorem grows_both {x0 x1 y0 y1 u0 u1 v0 v1 : Int} (kx : KOk x0 x1 y0 y1) (ku : KOk u0 u1 v0 v1) : ∃ gh gl mh ml : Nat,
    (∀ w, Calls Try.prog 17 #[KV x0 x1 y0 y1, KV u0 u1 v0 v1] w fun e w' => e = .returned (.tuple #[.agg #[.int .u64 (gh : Int), .int .u64 (gl : Int)], .agg #[.int .u64 (mh : Int), .int .u64 (ml : Int)]]) ∧ Below w.heap.size w w') ∧
    (∀ w, Calls Try.prog 18 #[KV x0 x1 y0 y1, KV u0 u1 v0 v1] w fun e w' => e = .returned (.tuple #[.agg #[.int .u64 (gh : Int), .int .u64 (gl : Int)], .agg #[.int .u64 (mh : Int), .int .u64 (ml : Int)]]) ∧ Below w.heap.size w w') := by
  cases hr : (boxB x0 x1 y0 y1 && boxB u0 u1 v0 v1)
  · exact ⟨0, 0, 0, 0, Grows_no x0 x1 y0 y1 u0 u1 v0 v1 hr, GrowsR_no x0 x1 y0 y1 u0 u1 v0 v1 hr⟩
  · obtain ⟨ah, al, g1⟩ := wn_of _ (growA_lt kx ku)
    obtain ⟨bh, bl, g2⟩ := wn_of _ (growM_lt kx ku)
    have h := hr
    rw [Bool.and_eq_true] at h
    exact ⟨ah, al, bh, bl, Grows_yes kx ku hr g1 g2, GrowsR_yes kx ku h.1 h.2 g1 g2⟩

set_option maxHeartbeats 8000000 in
theorem walk (x0 x1 y0 y1 u0 u1 v0 v1 z0 z1 t0 t1 : Int) (w : World) (kx : KOk x0 x1 y0 y1) (ku : KOk u0 u1 v0 v1) (kz : KOk z0 z1 t0 t1) : Calls Try.prog 4 #[KV x0 x1 y0 y1, KV u0 u1 v0 v1, KV z0 z1 t0 t1] w fun e w' => e = .returned (.bool true) ∧ Below w.heap.size w w' := by
  have HW := Lib.hid wakes_any
  obtain ⟨gh, gl, mh, ml, hg1, hg2⟩ := grows_both kx kz
  have HG := Lib.hid hg1
  have HGR := Lib.hid hg2
  have HL := Lib.hid (fun w => Less_any kx ku kz w)
  have HLR := Lib.hid (fun w => Less_ref kx ku kz w)
  generalize lessB x0 x1 y0 y1 u0 u1 v0 v1 z0 z1 t0 t1 = r at HL HLR
  clear hg1 hg2 kx ku kz
  go_enter Try.func4, Try.ntmps4
  go_upto_region 1 with fail
  have RA_1 := Lib.hid (((row_last w (w.heap.size) 23 [.int .i64 x0, .int .i64 x1, .int .i64 y0, .int .i64 y1] (by simp)).alloc (.cells #[.int .i64 u0, .int .i64 u1, .int .i64 v0, .int .i64 v1] 23)).alloc (.cells #[.int .i64 z0, .int .i64 z1, .int .i64 t0, .int .i64 t1] 23))
  have RB_1 := Lib.hid ((row_last (w.alloc (.cells #[.int .i64 x0, .int .i64 x1, .int .i64 y0, .int .i64 y1] 23)) (w.heap.size + 1) 23 [.int .i64 u0, .int .i64 u1, .int .i64 v0, .int .i64 v1] (by simp)).alloc (.cells #[.int .i64 z0, .int .i64 z1, .int .i64 t0, .int .i64 t1] 23))
  have RC_1 := Lib.hid (row_last ((w.alloc (.cells #[.int .i64 x0, .int .i64 x1, .int .i64 y0, .int .i64 y1] 23)).alloc (.cells #[.int .i64 u0, .int .i64 u1, .int .i64 v0, .int .i64 v1] 23)) (w.heap.size + 1 + 1) 23 [.int .i64 z0, .int .i64 z1, .int .i64 t0, .int .i64 t1] (by simp))
  have B_1 := Lib.hid ((((Below.refl w.heap.size w).alloc (Nat.le_refl _) (.cells #[.int .i64 x0, .int .i64 x1, .int .i64 y0, .int .i64 y1] 23)).alloc (by have := Nat.le_refl w.heap.size; simp <;> omega) (.cells #[.int .i64 u0, .int .i64 u1, .int .i64 v0, .int .i64 v1] 23)).alloc (by have := Nat.le_refl w.heap.size; simp <;> omega) (.cells #[.int .i64 z0, .int .i64 z1, .int .i64 t0, .int .i64 t1] 23))
  generalize (((w.alloc (.cells #[.int .i64 x0, .int .i64 x1, .int .i64 y0, .int .i64 y1] 23)).alloc (.cells #[.int .i64 u0, .int .i64 u1, .int .i64 v0, .int .i64 v1] 23)).alloc (.cells #[.int .i64 z0, .int .i64 z1, .int .i64 t0, .int .i64 t1] 23)) = V1 at RA_1 RB_1 RC_1 B_1 ⊢
  go_wp2_with fail
  refine (HW.out _).mono ?_
  rintro e W2 ⟨rfl, hb⟩
  have RA_3 := Lib.hid (RA_1.out.below hb RA_1.out.lt)
  have RB_3 := Lib.hid (RB_1.out.below hb RB_1.out.lt)
  have RC_3 := Lib.hid (RC_1.out.below hb RC_1.out.lt)
  have B_3 := Lib.hid (B_1.out.trans (hb.mono B_1.out.size))
  clear hb RA_1 RB_1 RC_1 B_1
  have c5_0 := RA_3.out.cell 0
  have c5_1 := RA_3.out.cell 1
  have c5_2 := RA_3.out.cell 2
  have c5_3 := RA_3.out.cell 3
  simp only [List.getElem?_cons_zero, List.getElem?_cons_succ] at c5_0 c5_1 c5_2 c5_3
  have c6_0 := RC_3.out.cell 0
  have c6_1 := RC_3.out.cell 1
  have c6_2 := RC_3.out.cell 2
  have c6_3 := RC_3.out.cell 3
  simp only [List.getElem?_cons_zero, List.getElem?_cons_succ] at c6_0 c6_1 c6_2 c6_3
  go_wp2_with fail
  refine (HG.out _).mono ?_
  rintro e W4 ⟨rfl, hb⟩
  clear c5_0 c5_1 c5_2 c5_3 c6_0 c6_1 c6_2 c6_3
  have RA_7 := Lib.hid (RA_3.out.below hb RA_3.out.lt)
  have RB_7 := Lib.hid (RB_3.out.below hb RB_3.out.lt)
  have RC_7 := Lib.hid (RC_3.out.below hb RC_3.out.lt)
  have B_7 := Lib.hid (B_3.out.trans (hb.mono B_3.out.size))
  clear hb RA_3 RB_3 RC_3 B_3
  go_upto_region 4 with fail
  have hlt8_0 : w.heap.size < W4.heap.size := RA_7.out.lt
  have hlt8_1 : w.heap.size + 1 < W4.heap.size := RB_7.out.lt
  have hlt8_2 : w.heap.size + 1 + 1 < W4.heap.size := RC_7.out.lt
  have RA_8 := Lib.hid ((RA_7.out.alloc (.cells #[.int .u64 (gh : Int), .int .u64 (gl : Int)] 33)).alloc (.cells #[.int .u64 (mh : Int), .int .u64 (ml : Int)] 33))
  have RB_8 := Lib.hid ((RB_7.out.alloc (.cells #[.int .u64 (gh : Int), .int .u64 (gl : Int)] 33)).alloc (.cells #[.int .u64 (mh : Int), .int .u64 (ml : Int)] 33))
  have RC_8 := Lib.hid ((RC_7.out.alloc (.cells #[.int .u64 (gh : Int), .int .u64 (gl : Int)] 33)).alloc (.cells #[.int .u64 (mh : Int), .int .u64 (ml : Int)] 33))
  have R7_8 := Lib.hid ((row_last W4 (W4.heap.size) 33 [.int .u64 (gh : Int), .int .u64 (gl : Int)] (by simp)).alloc (.cells #[.int .u64 (mh : Int), .int .u64 (ml : Int)] 33))
  have R8_8 := Lib.hid (row_last (W4.alloc (.cells #[.int .u64 (gh : Int), .int .u64 (gl : Int)] 33)) (W4.heap.size + 1) 33 [.int .u64 (mh : Int), .int .u64 (ml : Int)] (by simp))
  have B_8 := Lib.hid ((B_7.out.alloc B_7.out.size (.cells #[.int .u64 (gh : Int), .int .u64 (gl : Int)] 33)).alloc (by have := B_7.out.size; simp <;> omega) (.cells #[.int .u64 (mh : Int), .int .u64 (ml : Int)] 33))
  clear RA_7 RB_7 RC_7 B_7
  generalize ((W4.alloc (.cells #[.int .u64 (gh : Int), .int .u64 (gl : Int)] 33)).alloc (.cells #[.int .u64 (mh : Int), .int .u64 (ml : Int)] 33)) = V8 at RA_8 RB_8 RC_8 R7_8 R8_8 B_8 ⊢
  have c10_0 := RA_8.out.cell 0
  have c10_1 := RA_8.out.cell 1
  have c10_2 := RA_8.out.cell 2
  have c10_3 := RA_8.out.cell 3
  simp only [List.getElem?_cons_zero, List.getElem?_cons_succ] at c10_0 c10_1 c10_2 c10_3
  have c11_0 := RC_8.out.cell 0
  have c11_1 := RC_8.out.cell 1
  have c11_2 := RC_8.out.cell 2
  have c11_3 := RC_8.out.cell 3
  simp only [List.getElem?_cons_zero, List.getElem?_cons_succ] at c11_0 c11_1 c11_2 c11_3
  go_wp2_with fail
  refine (HGR.out _).mono ?_
  rintro e W9 ⟨rfl, hb⟩
  clear c10_0 c10_1 c10_2 c10_3 c11_0 c11_1 c11_2 c11_3
  have RA_12 := Lib.hid (RA_8.out.below hb RA_8.out.lt)
  have RB_12 := Lib.hid (RB_8.out.below hb RB_8.out.lt)
  have RC_12 := Lib.hid (RC_8.out.below hb RC_8.out.lt)
  have R7_12 := Lib.hid (R7_8.out.below hb R7_8.out.lt)
  have R8_12 := Lib.hid (R8_8.out.below hb R8_8.out.lt)
  have B_12 := Lib.hid (B_8.out.trans (hb.mono B_8.out.size))
  clear hb RA_8 RB_8 RC_8 R7_8 R8_8 B_8
  go_upto_region 5 with fail
  have hlt13_0 : w.heap.size < W9.heap.size := RA_12.out.lt
  have hlt13_1 : w.heap.size + 1 < W9.heap.size := RB_12.out.lt
  have hlt13_2 : w.heap.size + 1 + 1 < W9.heap.size := RC_12.out.lt
  have hlt13_3 : W4.heap.size < W9.heap.size := R7_12.out.lt
  have hlt13_4 : W4.heap.size + 1 < W9.heap.size := R8_12.out.lt
  have RA_13 := Lib.hid ((RA_12.out.alloc (.cells #[.int .u64 (gh : Int), .int .u64 (gl : Int)] 33)).alloc (.cells #[.int .u64 (mh : Int), .int .u64 (ml : Int)] 33))
  have RB_13 := Lib.hid ((RB_12.out.alloc (.cells #[.int .u64 (gh : Int), .int .u64 (gl : Int)] 33)).alloc (.cells #[.int .u64 (mh : Int), .int .u64 (ml : Int)] 33))
  have RC_13 := Lib.hid ((RC_12.out.alloc (.cells #[.int .u64 (gh : Int), .int .u64 (gl : Int)] 33)).alloc (.cells #[.int .u64 (mh : Int), .int .u64 (ml : Int)] 33))
  have R7_13 := Lib.hid ((R7_12.out.alloc (.cells #[.int .u64 (gh : Int), .int .u64 (gl : Int)] 33)).alloc (.cells #[.int .u64 (mh : Int), .int .u64 (ml : Int)] 33))
  have R8_13 := Lib.hid ((R8_12.out.alloc (.cells #[.int .u64 (gh : Int), .int .u64 (gl : Int)] 33)).alloc (.cells #[.int .u64 (mh : Int), .int .u64 (ml : Int)] 33))
  have R9_13 := Lib.hid ((row_last W9 (W9.heap.size) 33 [.int .u64 (gh : Int), .int .u64 (gl : Int)] (by simp)).alloc (.cells #[.int .u64 (mh : Int), .int .u64 (ml : Int)] 33))
  have R10_13 := Lib.hid (row_last (W9.alloc (.cells #[.int .u64 (gh : Int), .int .u64 (gl : Int)] 33)) (W9.heap.size + 1) 33 [.int .u64 (mh : Int), .int .u64 (ml : Int)] (by simp))
  have B_13 := Lib.hid ((B_12.out.alloc B_12.out.size (.cells #[.int .u64 (gh : Int), .int .u64 (gl : Int)] 33)).alloc (by have := B_12.out.size; simp <;> omega) (.cells #[.int .u64 (mh : Int), .int .u64 (ml : Int)] 33))
  clear RA_12 RB_12 RC_12 R7_12 R8_12 B_12
  generalize ((W9.alloc (.cells #[.int .u64 (gh : Int), .int .u64 (gl : Int)] 33)).alloc (.cells #[.int .u64 (mh : Int), .int .u64 (ml : Int)] 33)) = V13 at RA_13 RB_13 RC_13 R7_13 R8_13 R9_13 R10_13 B_13 ⊢
  go_wp2_with fail
  refine wp_region_held_drew (S := fun w' => Row w' (W4.heap.size) 33 [.int .u64 (gh : Int), .int .u64 (gl : Int)] ∧ Row w' (W9.heap.size) 33 [.int .u64 (gh : Int), .int .u64 (gl : Int)] ∧ Row w' (W4.heap.size + 1) 33 [.int .u64 (mh : Int), .int .u64 (ml : Int)] ∧ Row w' (W9.heap.size + 1) 33 [.int .u64 (mh : Int), .int .u64 (ml : Int)] ∧ Row w' (w.heap.size) 23 [.int .i64 x0, .int .i64 x1, .int .i64 y0, .int .i64 y1] ∧ Row w' (w.heap.size + 1) 23 [.int .i64 u0, .int .i64 u1, .int .i64 v0, .int .i64 v1] ∧ Row w' (w.heap.size + 1 + 1) 23 [.int .i64 z0, .int .i64 z1, .int .i64 t0, .int .i64 t1]) (by kernel_rfl) ⟨R7_13.out.drew, R9_13.out.drew, R8_13.out.drew, R10_13.out.drew, RA_13.out.drew, RB_13.out.drew, RC_13.out.drew⟩ (fun hHeld => ?_)
  clear hHeld
  have RA_14 := Lib.hid RA_13.out.drew
  have RB_14 := Lib.hid RB_13.out.drew
  have RC_14 := Lib.hid RC_13.out.drew
  have R7_14 := Lib.hid R7_13.out.drew
  have R8_14 := Lib.hid R8_13.out.drew
  have R9_14 := Lib.hid R9_13.out.drew
  have R10_14 := Lib.hid R10_13.out.drew
  have B_14 := Lib.hid B_13.out.drew
  clear RA_13 RB_13 RC_13 R7_13 R8_13 R9_13 R10_13 B_13
  generalize V13.drew = D14 at RA_14 RB_14 RC_14 R7_14 R8_14 R9_14 R10_14 B_14 ⊢
  refine wpAnyH_take (i := 0) (oi := ⟨some 25, _, _, _, _, _⟩) (v := ?vr14_1) rfl (by kernel_rfl) (by kernel_rfl) (by kernel_rfl) (fun _ _ _ h => h) (Or.inl ⟨by rfl, ?yr14_1⟩) ⟨R7_14.out, R9_14.out, R8_14.out, R10_14.out, RA_14.out, RB_14.out, RC_14.out⟩ ?rr14_1
  case yr14_1 =>
    rintro w' hSw
    have k0 := (show Row w' _ _ _ from hSw.1).cell 0
    have k1 := (show Row w' _ _ _ from hSw.1).cell 1
    simp only [List.getElem?_cons_zero, List.getElem?_cons_succ] at k0 k1
    go_simp
    try with_reducible rfl
  try simp only [Act.put, List.setIfInBounds_toArray, List.set_cons_zero, List.set_cons_succ]
  refine wpAnyH_take (i := 1) (oi := ⟨some 26, _, _, _, _, _⟩) (v := ?vr14_2) rfl (by kernel_rfl) (by kernel_rfl) (by kernel_rfl) (fun _ _ _ h => h) (Or.inl ⟨by rfl, ?yr14_2⟩) ⟨R7_14.out, R9_14.out, R8_14.out, R10_14.out, RA_14.out, RB_14.out, RC_14.out⟩ ?rr14_2
  case yr14_2 =>
    rintro w' hSw
    have k0 := (show Row w' _ _ _ from hSw.2.1).cell 0
    have k1 := (show Row w' _ _ _ from hSw.2.1).cell 1
    simp only [List.getElem?_cons_zero, List.getElem?_cons_succ] at k0 k1
    go_simp
    try with_reducible rfl
  try simp only [Act.put, List.setIfInBounds_toArray, List.set_cons_zero, List.set_cons_succ]
  refine wpAnyH_take (i := 2) (oi := ⟨some 27, _, _, _, _, _⟩) (v := ?vr14_3) rfl (by kernel_rfl) (by kernel_rfl) (by kernel_rfl) (fun _ _ _ h => h) (Or.inl ⟨by rfl, ?yr14_3⟩) ⟨R7_14.out, R9_14.out, R8_14.out, R10_14.out, RA_14.out, RB_14.out, RC_14.out⟩ ?rr14_3
  case yr14_3 =>
    rintro w' hSw
    go_simp
    try with_reducible rfl
  try simp only [Act.put, List.setIfInBounds_toArray, List.set_cons_zero, List.set_cons_succ]
  refine wpAnyH_take (i := 3) (oi := ⟨some 28, _, _, _, _, _⟩) (v := ?vr14_4) rfl (by kernel_rfl) (by kernel_rfl) (by kernel_rfl) (fun _ _ _ h => h) (Or.inl ⟨by rfl, ?yr14_4⟩) ⟨R7_14.out, R9_14.out, R8_14.out, R10_14.out, RA_14.out, RB_14.out, RC_14.out⟩ ?rr14_4
  case yr14_4 =>
    rintro w' hSw
    go_simp
    try with_reducible rfl
  try simp only [Act.put, List.setIfInBounds_toArray, List.set_cons_zero, List.set_cons_succ]
  refine wpAnyH_take (i := 4) (oi := ⟨some 29, _, _, _, _, _⟩) (v := ?vr14_5) rfl (by kernel_rfl) (by kernel_rfl) (by kernel_rfl) (fun _ _ _ h => h) (Or.inl ⟨by rfl, ?yr14_5⟩) ⟨R7_14.out, R9_14.out, R8_14.out, R10_14.out, RA_14.out, RB_14.out, RC_14.out⟩ ?rr14_5
  case yr14_5 =>
    rintro w' hSw
    have k0 := (show Row w' _ _ _ from hSw.2.2.1).cell 0
    have k1 := (show Row w' _ _ _ from hSw.2.2.1).cell 1
    simp only [List.getElem?_cons_zero, List.getElem?_cons_succ] at k0 k1
    go_simp
    try with_reducible rfl
  try simp only [Act.put, List.setIfInBounds_toArray, List.set_cons_zero, List.set_cons_succ]
  refine wpAnyH_take (i := 5) (oi := ⟨some 30, _, _, _, _, _⟩) (v := ?vr14_6) rfl (by kernel_rfl) (by kernel_rfl) (by kernel_rfl) (fun _ _ _ h => h) (Or.inl ⟨by rfl, ?yr14_6⟩) ⟨R7_14.out, R9_14.out, R8_14.out, R10_14.out, RA_14.out, RB_14.out, RC_14.out⟩ ?rr14_6
  case yr14_6 =>
    rintro w' hSw
    have k0 := (show Row w' _ _ _ from hSw.2.2.2.1).cell 0
    have k1 := (show Row w' _ _ _ from hSw.2.2.2.1).cell 1
    simp only [List.getElem?_cons_zero, List.getElem?_cons_succ] at k0 k1
    go_simp
    try with_reducible rfl
  try simp only [Act.put, List.setIfInBounds_toArray, List.set_cons_zero, List.set_cons_succ]
  refine wpAnyH_take (i := 6) (oi := ⟨some 31, _, _, _, _, _⟩) (v := ?vr14_7) rfl (by kernel_rfl) (by kernel_rfl) (by kernel_rfl) (fun _ _ _ h => h) (Or.inl ⟨by rfl, ?yr14_7⟩) ⟨R7_14.out, R9_14.out, R8_14.out, R10_14.out, RA_14.out, RB_14.out, RC_14.out⟩ ?rr14_7
  case yr14_7 =>
    rintro w' hSw
    go_simp
    try with_reducible rfl
  try simp only [Act.put, List.setIfInBounds_toArray, List.set_cons_zero, List.set_cons_succ]
  refine wpAnyH_take (i := 7) (oi := ⟨some 32, _, _, _, _, _⟩) (v := ?vr14_8) rfl (by kernel_rfl) (by kernel_rfl) (by kernel_rfl) (fun _ _ _ h => h) (Or.inl ⟨by rfl, ?yr14_8⟩) ⟨R7_14.out, R9_14.out, R8_14.out, R10_14.out, RA_14.out, RB_14.out, RC_14.out⟩ ?rr14_8
  case yr14_8 =>
    rintro w' hSw
    go_simp
    try with_reducible rfl
  try simp only [Act.put, List.setIfInBounds_toArray, List.set_cons_zero, List.set_cons_succ]
  refine wpAnyH_take (i := 8) (oi := ⟨some 33, _, _, _, _, _⟩) (v := ?vr14_9) rfl (by kernel_rfl) (by kernel_rfl) (by kernel_rfl) (fun _ _ _ h => h) (Or.inl ⟨by rfl, ?yr14_9⟩) ⟨R7_14.out, R9_14.out, R8_14.out, R10_14.out, RA_14.out, RB_14.out, RC_14.out⟩ ?rr14_9
  case yr14_9 =>
    rintro w' hSw
    go_simp
    try with_reducible rfl
  try simp only [Act.put, List.setIfInBounds_toArray, List.set_cons_zero, List.set_cons_succ]
  refine wpAnyH_take (i := 9) (oi := ⟨some 34, _, _, _, _, _⟩) (v := ?vr14_10) rfl (by kernel_rfl) (by kernel_rfl) (by kernel_rfl) (fun _ _ _ h => h) (Or.inl ⟨by rfl, ?yr14_10⟩) ⟨R7_14.out, R9_14.out, R8_14.out, R10_14.out, RA_14.out, RB_14.out, RC_14.out⟩ ?rr14_10
  case yr14_10 =>
    rintro w' hSw
    have k0 := (show Row w' _ _ _ from hSw.2.2.2.2.1).cell 0
    have k1 := (show Row w' _ _ _ from hSw.2.2.2.2.1).cell 1
    have k2 := (show Row w' _ _ _ from hSw.2.2.2.2.1).cell 2
    have k3 := (show Row w' _ _ _ from hSw.2.2.2.2.1).cell 3
    simp only [List.getElem?_cons_zero, List.getElem?_cons_succ] at k0 k1 k2 k3
    go_simp
    try with_reducible rfl
  try simp only [Act.put, List.setIfInBounds_toArray, List.set_cons_zero, List.set_cons_succ]
  refine wpAnyH_take (i := 10) (oi := ⟨some 35, _, _, _, _, _⟩) (v := ?vr14_11) rfl (by kernel_rfl) (by kernel_rfl) (by kernel_rfl) (fun _ _ _ h => h) (Or.inl ⟨by rfl, ?yr14_11⟩) ⟨R7_14.out, R9_14.out, R8_14.out, R10_14.out, RA_14.out, RB_14.out, RC_14.out⟩ ?rr14_11
  case yr14_11 =>
    rintro w' hSw
    have k0 := (show Row w' _ _ _ from hSw.2.2.2.2.2.1).cell 0
    have k1 := (show Row w' _ _ _ from hSw.2.2.2.2.2.1).cell 1
    have k2 := (show Row w' _ _ _ from hSw.2.2.2.2.2.1).cell 2
    have k3 := (show Row w' _ _ _ from hSw.2.2.2.2.2.1).cell 3
    simp only [List.getElem?_cons_zero, List.getElem?_cons_succ] at k0 k1 k2 k3
    go_simp
    try with_reducible rfl
  try simp only [Act.put, List.setIfInBounds_toArray, List.set_cons_zero, List.set_cons_succ]
  refine wpAnyH_take (i := 11) (oi := ⟨some 36, _, _, _, _, _⟩) (v := ?vr14_12) rfl (by kernel_rfl) (by kernel_rfl) (by kernel_rfl) (fun _ _ _ h => h) (Or.inl ⟨by rfl, ?yr14_12⟩) ⟨R7_14.out, R9_14.out, R8_14.out, R10_14.out, RA_14.out, RB_14.out, RC_14.out⟩ ?rr14_12
  case yr14_12 =>
    rintro w' hSw
    have k0 := (show Row w' _ _ _ from hSw.2.2.2.2.2.2).cell 0
    have k1 := (show Row w' _ _ _ from hSw.2.2.2.2.2.2).cell 1
    have k2 := (show Row w' _ _ _ from hSw.2.2.2.2.2.2).cell 2
    have k3 := (show Row w' _ _ _ from hSw.2.2.2.2.2.2).cell 3
    simp only [List.getElem?_cons_zero, List.getElem?_cons_succ] at k0 k1 k2 k3
    go_simp
    try with_reducible rfl
  try simp only [Act.put, List.setIfInBounds_toArray, List.set_cons_zero, List.set_cons_succ]
  refine wpAnyH_take (i := 13) (oi := ⟨some 38, _, _, _, _, _⟩) (v := ?vr14_13) rfl (by kernel_rfl) (by kernel_rfl) (by kernel_rfl) (fun _ _ _ h => h) (Or.inl ⟨by rfl, ?yr14_13⟩) ⟨R7_14.out, R9_14.out, R8_14.out, R10_14.out, RA_14.out, RB_14.out, RC_14.out⟩ ?rr14_13
  case yr14_13 =>
    rintro w' hSw
    have k0 := (show Row w' _ _ _ from hSw.2.2.2.2.1).cell 0
    have k1 := (show Row w' _ _ _ from hSw.2.2.2.2.1).cell 1
    have k2 := (show Row w' _ _ _ from hSw.2.2.2.2.1).cell 2
    have k3 := (show Row w' _ _ _ from hSw.2.2.2.2.1).cell 3
    simp only [List.getElem?_cons_zero, List.getElem?_cons_succ] at k0 k1 k2 k3
    go_simp
    try with_reducible rfl
  try simp only [Act.put, List.setIfInBounds_toArray, List.set_cons_zero, List.set_cons_succ]
  refine wpAnyH_take (i := 14) (oi := ⟨some 39, _, _, _, _, _⟩) (v := ?vr14_14) rfl (by kernel_rfl) (by kernel_rfl) (by kernel_rfl) (fun _ _ _ h => h) (Or.inl ⟨by rfl, ?yr14_14⟩) ⟨R7_14.out, R9_14.out, R8_14.out, R10_14.out, RA_14.out, RB_14.out, RC_14.out⟩ ?rr14_14
  case yr14_14 =>
    rintro w' hSw
    have k0 := (show Row w' _ _ _ from hSw.2.2.2.2.2.1).cell 0
    have k1 := (show Row w' _ _ _ from hSw.2.2.2.2.2.1).cell 1
    have k2 := (show Row w' _ _ _ from hSw.2.2.2.2.2.1).cell 2
    have k3 := (show Row w' _ _ _ from hSw.2.2.2.2.2.1).cell 3
    simp only [List.getElem?_cons_zero, List.getElem?_cons_succ] at k0 k1 k2 k3
    go_simp
    try with_reducible rfl
  try simp only [Act.put, List.setIfInBounds_toArray, List.set_cons_zero, List.set_cons_succ]
  refine wpAnyH_take (i := 15) (oi := ⟨some 40, _, _, _, _, _⟩) (v := ?vr14_15) rfl (by kernel_rfl) (by kernel_rfl) (by kernel_rfl) (fun _ _ _ h => h) (Or.inl ⟨by rfl, ?yr14_15⟩) ⟨R7_14.out, R9_14.out, R8_14.out, R10_14.out, RA_14.out, RB_14.out, RC_14.out⟩ ?rr14_15
  case yr14_15 =>
    rintro w' hSw
    have k0 := (show Row w' _ _ _ from hSw.2.2.2.2.2.2).cell 0
    have k1 := (show Row w' _ _ _ from hSw.2.2.2.2.2.2).cell 1
    have k2 := (show Row w' _ _ _ from hSw.2.2.2.2.2.2).cell 2
    have k3 := (show Row w' _ _ _ from hSw.2.2.2.2.2.2).cell 3
    simp only [List.getElem?_cons_zero, List.getElem?_cons_succ] at k0 k1 k2 k3
    go_simp
    try with_reducible rfl
  try simp only [Act.put, List.setIfInBounds_toArray, List.set_cons_zero, List.set_cons_succ]
  refine wpAnyH_ready (rs := [12]) (by kernel_rfl) (by simp) ?_
  refine (AllReadyH.cons rfl (fun K hK => ?_) AllReadyH.nil)
  go_simp
  refine (HL.out _).mono ?_
  rintro e Xr14_16 ⟨rfl, hb⟩
  have RA_r14_16_15 := Lib.hid (RA_14.out.below hb RA_14.out.lt)
  have RB_r14_16_15 := Lib.hid (RB_14.out.below hb RB_14.out.lt)
  have RC_r14_16_15 := Lib.hid (RC_14.out.below hb RC_14.out.lt)
  have R7_r14_16_15 := Lib.hid (R7_14.out.below hb R7_14.out.lt)
  have R8_r14_16_15 := Lib.hid (R8_14.out.below hb R8_14.out.lt)
  have R9_r14_16_15 := Lib.hid (R9_14.out.below hb R9_14.out.lt)
  have R10_r14_16_15 := Lib.hid (R10_14.out.below hb R10_14.out.lt)
  have B_r14_16_15 := Lib.hid (B_14.out.trans (hb.mono B_14.out.size))
  clear hb RA_14 RB_14 RC_14 R7_14 R8_14 R9_14 R10_14 B_14
  refine hK _ _ ⟨R7_r14_16_15.out, R9_r14_16_15.out, R8_r14_16_15.out, R10_r14_16_15.out, RA_r14_16_15.out, RB_r14_16_15.out, RC_r14_16_15.out⟩ (fun _ => ?_)
  clear hK K
  try simp only [Act.put, List.setIfInBounds_toArray, List.set_cons_zero, List.set_cons_succ]
  refine wpAnyH_ready (rs := [16]) (by kernel_rfl) (by simp) ?_
  refine (AllReadyH.cons rfl (fun K hK => ?_) AllReadyH.nil)
  go_simp
  refine (HLR.out _).mono ?_
  rintro e Xr14_17 ⟨rfl, hb⟩
  have RA_r14_17_16 := Lib.hid (RA_r14_16_15.out.below hb RA_r14_16_15.out.lt)
  have RB_r14_17_16 := Lib.hid (RB_r14_16_15.out.below hb RB_r14_16_15.out.lt)
  have RC_r14_17_16 := Lib.hid (RC_r14_16_15.out.below hb RC_r14_16_15.out.lt)
  have R7_r14_17_16 := Lib.hid (R7_r14_16_15.out.below hb R7_r14_16_15.out.lt)
  have R8_r14_17_16 := Lib.hid (R8_r14_16_15.out.below hb R8_r14_16_15.out.lt)
  have R9_r14_17_16 := Lib.hid (R9_r14_16_15.out.below hb R9_r14_16_15.out.lt)
  have R10_r14_17_16 := Lib.hid (R10_r14_16_15.out.below hb R10_r14_16_15.out.lt)
  have B_r14_17_16 := Lib.hid (B_r14_16_15.out.trans (hb.mono B_r14_16_15.out.size))
  clear hb RA_r14_16_15 RB_r14_16_15 RC_r14_16_15 R7_r14_16_15 R8_r14_16_15 R9_r14_16_15 R10_r14_16_15 B_r14_16_15
  refine hK _ _ ⟨R7_r14_17_16.out, R9_r14_17_16.out, R8_r14_17_16.out, R10_r14_17_16.out, RA_r14_17_16.out, RB_r14_17_16.out, RC_r14_17_16.out⟩ (fun _ => ?_)
  clear hK K
  try simp only [Act.put, List.setIfInBounds_toArray, List.set_cons_zero, List.set_cons_succ]
  refine wpAnyH_take (i := 17) (oi := ⟨some 42, _, _, _, _, _⟩) (v := ?vr14_18) rfl (by kernel_rfl) (by kernel_rfl) (by kernel_rfl) (fun _ _ _ h => h) (Or.inl ⟨by rfl, ?yr14_18⟩) ⟨R7_r14_17_16.out, R9_r14_17_16.out, R8_r14_17_16.out, R10_r14_17_16.out, RA_r14_17_16.out, RB_r14_17_16.out, RC_r14_17_16.out⟩ ?rr14_18
  case yr14_18 =>
    rintro w' hSw
    go_simp
    try with_reducible rfl
  try simp only [Act.put, List.setIfInBounds_toArray, List.set_cons_zero, List.set_cons_succ]
  refine wpAnyH_take (i := 18) (oi := ⟨some 43, _, _, _, _, _⟩) (v := ?vr14_19) rfl (by kernel_rfl) (by kernel_rfl) (by kernel_rfl) (fun _ _ _ h => h) (Or.inl ⟨by rfl, ?yr14_19⟩) ⟨R7_r14_17_16.out, R9_r14_17_16.out, R8_r14_17_16.out, R10_r14_17_16.out, RA_r14_17_16.out, RB_r14_17_16.out, RC_r14_17_16.out⟩ ?rr14_19
  case yr14_19 =>
    rintro w' hSw
    go_simp
    try with_reducible rfl
  try simp only [Act.put, List.setIfInBounds_toArray, List.set_cons_zero, List.set_cons_succ]
  refine wpAnyH_take (i := 19) (oi := ⟨some 6, _, _, _, _, _⟩) (v := ?vr14_20) rfl (by kernel_rfl) (by kernel_rfl) (by kernel_rfl) (fun _ _ _ h => h) (Or.inl ⟨by rfl, ?yr14_20⟩) ⟨R7_r14_17_16.out, R9_r14_17_16.out, R8_r14_17_16.out, R10_r14_17_16.out, RA_r14_17_16.out, RB_r14_17_16.out, RC_r14_17_16.out⟩ ?rr14_20
  case yr14_20 =>
    rintro w' hSw
    go_simp
    try with_reducible rfl
  try simp only [Act.put, List.setIfInBounds_toArray, List.set_cons_zero, List.set_cons_succ]
  refine wpAnyH_done (by kernel_rfl) ?_ _
  go_wp2
  go_ret
  exact ⟨rfl, B_r14_17_16.out⟩

theorem resT_KeyGrows : Try.f4.resultTypes = #[4] := by kernel_rfl
set_option maxRecDepth 100000 in
theorem lifted_KeyGrows (os : Os) (started : os.Started) (H : Type) (enc : TypeId × Value → H) :
    ReturnsInHanded {} Try.checked os 4 .any (Rows.keyGrowsSpec.pre6 enc Try.prog Try.f4 Rows.keyGrowsRow.domain false) (Rows.keyGrowsSpec.post enc Try.prog Try.f4 false true false false) := by
  refine Lift.law_lift (C := Try.checked) (s := Rows.keyGrowsSpec) (tb := 4) own laidOut started (by kernel_rfl) Try.func4
    (ChangeSpec.witness6 (enc := enc) (C := Try.checked) false ⟨#[], #[.agg #[.int .i64 0, .int .i64 0, .int .i64 0, .int .i64 0], .agg #[.int .i64 0, .int .i64 0, .int .i64 0, .int .i64 0], .agg #[.int .i64 0, .int .i64 0, .int .i64 0, .int .i64 0]], []⟩ 8 (by kernel_rfl) (by kernel_rfl) (by kernel_rfl) (by kernel_rfl))
    rfl resT_KeyGrows Try.underlying4 (by
      have hr : ∀ t ∈ ([23, 23, 23] : List TypeId), Try.prog.readableRec t = true ∧ t < Try.prog.types.size := by
        intro t ht
        simp only [List.mem_cons, List.not_mem_nil, or_false] at ht
        rcases ht with rfl | rfl | rfl <;> exact ⟨by kernel_rfl, of_decide_eq_true (by kernel_rfl)⟩
      intro t ht
      exact hr t (by
        have ht' : t ∈ Try.f4.params.toList := ht
        rw [Try.params4] at ht'
        exact ht')) ?_
  intro W base args ds p hval0 hA0 hsz0
  have hval : ∀ (j : Nat) t v, Try.f4.params[j]? = some t → args[j]? = some v → Value.okWide Try.prog W .any base t v := hval0
  have hA : DataW.TrodAll enc Try.prog W 0 (fun _ => true) true Try.f4.params.toList args.toList ds p := hA0
  have hsz : (DataW.weightsEach Try.prog Try.f4.params.toList ds).all (· ≤ reachBytes) = true := hsz0
  clear hval0 hA0 hsz0
  rw [Try.params4] at hA hval hsz
  obtain ⟨v0, vs0, d0, ds0, p0, q0, hargs, rfl, rfl, h0, r0⟩ := trodAll_cons hA
  obtain ⟨v1, vs1, d1, ds1, p1, q1, rfl, rfl, rfl, h1, r1⟩ := trodAll_cons r0
  obtain ⟨v2, vs2, d2, ds2, p2, q2, rfl, rfl, rfl, h2, r2⟩ := trodAll_cons r1
  obtain ⟨rfl, rfl, rfl⟩ := trodAll_nil r2
  obtain rfl : args = #[v0, v1, v2] := by cases args; simp_all
  obtain ⟨k0a, k0b, k0c, k0d, ⟨m0a, n0a⟩, ⟨m0b, n0b⟩, ⟨m0c, n0c⟩, ⟨m0d, n0d⟩, rfl⟩ := open_key (hval 0 23 v0 rfl rfl) h0
  obtain ⟨k1a, k1b, k1c, k1d, ⟨m1a, n1a⟩, ⟨m1b, n1b⟩, ⟨m1c, n1c⟩, ⟨m1d, n1d⟩, rfl⟩ := open_key (hval 1 23 v1 rfl rfl) h1
  obtain ⟨k2a, k2b, k2c, k2d, ⟨m2a, n2a⟩, ⟨m2b, n2b⟩, ⟨m2c, n2c⟩, ⟨m2d, n2d⟩, rfl⟩ := open_key (hval 2 23 v2 rfl rfl) h2
  exact ⟨rfl, walk k0a k0b k0c k0d k1a k1b k1c k1d k2a k2b k2c k2d W ⟨m0a, n0a, m0b, n0b, m0c, n0c, m0d, n0d⟩ ⟨m1a, n1a, m1b, n1b, m1c, n1c, m1d, n1d⟩ ⟨m2a, n2a, m2b, n2b, m2c, n2c, m2d, n2d⟩⟩

theorem proved_KeyGrows : Rows.KeyGrowsSaid :=
  OpenClaim.holds_of_wide 4 Try.f4 rfl rfl rfl rfl rfl rfl rfl ⟨rfl, rfl, rfl, rfl, rfl⟩ rfl rfl rfl rfl rfl (by kernel_rfl) Try.func4 (by kernel_rfl)
    (of_decide_eq_true (by kernel_rfl)) (by unfold Func.isWrapper; first | (rw [if_pos (by decide +kernel)]; kernel_rfl) | (rw [if_neg (by decide +kernel)]; exact ⟨rfl, rfl⟩))
    (fun os started H enc _ => lifted_KeyGrows os started H enc)
end Go.Proofs.Ytbmfijcckdkmdaa.KeyGrows
