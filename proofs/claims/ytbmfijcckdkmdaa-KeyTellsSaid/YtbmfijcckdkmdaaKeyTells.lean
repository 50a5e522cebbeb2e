/-
  KeyTells: what whatever boxes are to one another is what the document says. No condition.
-/
import Derived.Test.YtbmfijcckdkmdaaKy13
import Derived.Test.YtbmfijcckdkmdaaWiO
import Derived.Test.YtbmfijcckdkmdaaKy15u
import Derived.Test.YtbmfijcckdkmdaaKy15c
import Derived.Test.YtbmfijcckdkmdaaKy15m
import Derived.Deep.RegionHeld
import Derived.Deep.Cut
import Derived.WalkLawsBesides
namespace Go.Proofs.Ytbmfijcckdkmdaa.KeyTells
set_option maxRecDepth 100000
open Go.ChangeShapes Go.WideShapes Go.ChangeAt Go.RowKit Go.Proofs.Ytbmfijcckdkmdaa.Wd Go.Proofs.Ytbmfijcckdkmdaa.Wi Go.Proofs.Ytbmfijcckdkmdaa.Ky

theorem own : ownKnob Try.prog.godebug = none := by kernel_rfl
theorem laidOut : laidOutB Try.prog = true := by kernel_rfl

theorem itec {α : Type} {a b c d : Int} (f : Bool → α) : (if a = a then if b = b then if c = c then if d = d then f true else f false else f false else f false else f false) = f true := by simp
theorem union_val (x0 x1 y0 y1 u0 u1 v0 v1 : Int) : ∃ m0 m1 m2 m3 : Int, unionV x0 x1 y0 y1 u0 u1 v0 v1 = KV m0 m1 m2 m3 := by
  unfold unionV
  split
  · exact ⟨_, _, _, _, rfl⟩
  · exact ⟨_, _, _, _, rfl⟩

set_option maxHeartbeats 8000000 in
theorem walk_t (c x0 x1 y0 y1 u0 u1 v0 v1 : Int) (w : World) (hr : rightB c x0 x1 y0 y1 = true) : Calls Try.prog 3 #[.int .i64 c, KV x0 x1 y0 y1, KV u0 u1 v0 v1] w fun e w' => e = .returned (.bool true) ∧ Below w.heap.size w w' := by
  have HW := Lib.hid wakes_any
  have HK := Lib.hid (Check_any c x0 x1 y0 y1)
  have HR := Lib.hid (Right_ref c x0 x1 y0 y1)
  rw [hr] at HK HR
  rw [if_pos rfl] at HK
  have HM := Lib.hid (Meets_any x0 x1 y0 y1 u0 u1 v0 v1)
  have HMR := Lib.hid (Meets_ref x0 x1 y0 y1 u0 u1 v0 v1)
  generalize meetB x0 x1 y0 y1 u0 u1 v0 v1 = m at HM HMR
  have HC := Lib.hid (Covers_any x0 x1 y0 y1 u0 u1 v0 v1)
  have HCR := Lib.hid (Covers_ref x0 x1 y0 y1 u0 u1 v0 v1)
  generalize coverB x0 x1 y0 y1 u0 u1 v0 v1 = p at HC HCR
  have HU := Lib.hid (Union_any x0 x1 y0 y1 u0 u1 v0 v1)
  have HUR := Lib.hid (Union_ref x0 x1 y0 y1 u0 u1 v0 v1)
  obtain ⟨m0, m1, m2, m3, hm⟩ := union_val x0 x1 y0 y1 u0 u1 v0 v1
  rw [hm] at HU HUR
  clear hr hm
  go_enter Try.func3, Try.ntmps3
  go_upto_region 1 with fail
  have RA_t1 := Lib.hid ((row_last w (w.heap.size) 23 [.int .i64 x0, .int .i64 x1, .int .i64 y0, .int .i64 y1] (by simp)).alloc (.cells #[.int .i64 u0, .int .i64 u1, .int .i64 v0, .int .i64 v1] 23))
  have RB_t1 := Lib.hid (row_last (w.alloc (.cells #[.int .i64 x0, .int .i64 x1, .int .i64 y0, .int .i64 y1] 23)) (w.heap.size + 1) 23 [.int .i64 u0, .int .i64 u1, .int .i64 v0, .int .i64 v1] (by simp))
  have B_t1 := Lib.hid (((Below.refl w.heap.size w).alloc (Nat.le_refl _) (.cells #[.int .i64 x0, .int .i64 x1, .int .i64 y0, .int .i64 y1] 23)).alloc (by have := Nat.le_refl w.heap.size; simp <;> omega) (.cells #[.int .i64 u0, .int .i64 u1, .int .i64 v0, .int .i64 v1] 23))
  generalize ((w.alloc (.cells #[.int .i64 x0, .int .i64 x1, .int .i64 y0, .int .i64 y1] 23)).alloc (.cells #[.int .i64 u0, .int .i64 u1, .int .i64 v0, .int .i64 v1] 23)) = Vt1 at RA_t1 RB_t1 B_t1 ⊢
  go_wp2_with fail
  refine (HW.out _).mono ?_
  rintro e Wt2 ⟨rfl, hb⟩
  have RA_t3 := Lib.hid (RA_t1.out.below hb RA_t1.out.lt)
  have RB_t3 := Lib.hid (RB_t1.out.below hb RB_t1.out.lt)
  have B_t3 := Lib.hid (B_t1.out.trans (hb.mono B_t1.out.size))
  clear hb RA_t1 RB_t1 B_t1
  go_wp2_with fail
  refine wp_region_held_drew (S := fun w' => Row w' (w.heap.size) 23 [.int .i64 x0, .int .i64 x1, .int .i64 y0, .int .i64 y1]) (by kernel_rfl) RA_t3.out.drew (fun hHeld => ?_)
  clear hHeld
  have RA_t4 := Lib.hid RA_t3.out.drew
  have RB_t4 := Lib.hid RB_t3.out.drew
  have B_t4 := Lib.hid B_t3.out.drew
  clear RA_t3 RB_t3 B_t3
  generalize Wt2.drew = Dt4 at RA_t4 RB_t4 B_t4 ⊢
  refine wpAnyH_take (i := 0) (oi := ⟨some 9, _, _, _, _, _⟩) (v := ?vtrt4_1) rfl (by kernel_rfl) (by kernel_rfl) (by kernel_rfl) (fun _ _ _ h => h) (Or.inl ⟨by rfl, ?ytrt4_1⟩) RA_t4.out ?rtrt4_1
  case ytrt4_1 =>
    rintro w' hSw
    go_simp
    try with_reducible rfl
  try simp only [Act.put, List.setIfInBounds_toArray, List.set_cons_zero, List.set_cons_succ]
  refine wpAnyH_take (i := 1) (oi := ⟨some 10, _, _, _, _, _⟩) (v := ?vtrt4_2) rfl (by kernel_rfl) (by kernel_rfl) (by kernel_rfl) (fun _ _ _ h => h) (Or.inl ⟨by rfl, ?ytrt4_2⟩) RA_t4.out ?rtrt4_2
  case ytrt4_2 =>
    rintro w' hSw
    have k0 := (show Row w' _ _ _ from hSw).cell 0
    have k1 := (show Row w' _ _ _ from hSw).cell 1
    have k2 := (show Row w' _ _ _ from hSw).cell 2
    have k3 := (show Row w' _ _ _ from hSw).cell 3
    simp only [List.getElem?_cons_zero, List.getElem?_cons_succ] at k0 k1 k2 k3
    go_simp
    try with_reducible rfl
  try simp only [Act.put, List.setIfInBounds_toArray, List.set_cons_zero, List.set_cons_succ]
  refine wpAnyH_take (i := 4) (oi := ⟨some 13, _, _, _, _, _⟩) (v := ?vtrt4_3) rfl (by kernel_rfl) (by kernel_rfl) (by kernel_rfl) (fun _ _ _ h => h) (Or.inl ⟨by rfl, ?ytrt4_3⟩) RA_t4.out ?rtrt4_3
  case ytrt4_3 =>
    rintro w' hSw
    go_simp
    try with_reducible rfl
  try simp only [Act.put, List.setIfInBounds_toArray, List.set_cons_zero, List.set_cons_succ]
  refine wpAnyH_take (i := 5) (oi := ⟨some 14, _, _, _, _, _⟩) (v := ?vtrt4_4) rfl (by kernel_rfl) (by kernel_rfl) (by kernel_rfl) (fun _ _ _ h => h) (Or.inl ⟨by rfl, ?ytrt4_4⟩) RA_t4.out ?rtrt4_4
  case ytrt4_4 =>
    rintro w' hSw
    have k0 := (show Row w' _ _ _ from hSw).cell 0
    have k1 := (show Row w' _ _ _ from hSw).cell 1
    have k2 := (show Row w' _ _ _ from hSw).cell 2
    have k3 := (show Row w' _ _ _ from hSw).cell 3
    simp only [List.getElem?_cons_zero, List.getElem?_cons_succ] at k0 k1 k2 k3
    go_simp
    try with_reducible rfl
  try simp only [Act.put, List.setIfInBounds_toArray, List.set_cons_zero, List.set_cons_succ]
  refine wpAnyH_ready (rs := [2]) (by kernel_rfl) (by simp) ?_
  refine (AllReadyH.cons rfl (fun K hK => ?_) AllReadyH.nil)
  go_simp
  refine (HK.out _).mono ?_
  rintro e Xtrt4_5 ⟨rfl, hb⟩
  have RA_trt4_5_5 := Lib.hid (RA_t4.out.below hb RA_t4.out.lt)
  have RB_trt4_5_5 := Lib.hid (RB_t4.out.below hb RB_t4.out.lt)
  have B_trt4_5_5 := Lib.hid (B_t4.out.trans (hb.mono B_t4.out.size))
  clear hb RA_t4 RB_t4 B_t4
  refine hK _ _ RA_trt4_5_5.out (fun _ => ?_)
  clear hK K
  try simp only [Act.put, List.setIfInBounds_toArray, List.set_cons_zero, List.set_cons_succ]
  refine wpAnyH_take (i := 3) (oi := ⟨some 12, _, _, _, _, _⟩) (v := ?vtrt4_6) rfl (by kernel_rfl) (by kernel_rfl) (by kernel_rfl) (fun _ _ _ h => h) (Or.inl ⟨by rfl, ?ytrt4_6⟩) RA_trt4_5_5.out ?rtrt4_6
  case ytrt4_6 =>
    rintro w' hSw
    go_simp
    try with_reducible rfl
  try simp only [Act.put, List.setIfInBounds_toArray, List.set_cons_zero, List.set_cons_succ]
  refine wpAnyH_ready (rs := [6]) (by kernel_rfl) (by simp) ?_
  refine (AllReadyH.cons rfl (fun K hK => ?_) AllReadyH.nil)
  go_simp
  refine (HR.out _).mono ?_
  rintro e Xtrt4_7 ⟨rfl, hb⟩
  have RA_trt4_7_6 := Lib.hid (RA_trt4_5_5.out.below hb RA_trt4_5_5.out.lt)
  have RB_trt4_7_6 := Lib.hid (RB_trt4_5_5.out.below hb RB_trt4_5_5.out.lt)
  have B_trt4_7_6 := Lib.hid (B_trt4_5_5.out.trans (hb.mono B_trt4_5_5.out.size))
  clear hb RA_trt4_5_5 RB_trt4_5_5 B_trt4_5_5
  refine hK _ _ RA_trt4_7_6.out (fun _ => ?_)
  clear hK K
  try simp only [Act.put, List.setIfInBounds_toArray, List.set_cons_zero, List.set_cons_succ]
  refine wpAnyH_take (i := 7) (oi := ⟨some 16, _, _, _, _, _⟩) (v := ?vtrt4_8) rfl (by kernel_rfl) (by kernel_rfl) (by kernel_rfl) (fun _ _ _ h => h) (Or.inl ⟨by rfl, ?ytrt4_8⟩) RA_trt4_7_6.out ?rtrt4_8
  case ytrt4_8 =>
    rintro w' hSw
    go_simp
    try with_reducible rfl
  try simp only [Act.put, List.setIfInBounds_toArray, List.set_cons_zero, List.set_cons_succ]
  refine wpAnyH_take (i := 8) (oi := ⟨some 17, _, _, _, _, _⟩) (v := ?vtrt4_9) rfl (by kernel_rfl) (by kernel_rfl) (by kernel_rfl) (fun _ _ _ h => h) (Or.inl ⟨by rfl, ?ytrt4_9⟩) RA_trt4_7_6.out ?rtrt4_9
  case ytrt4_9 =>
    rintro w' hSw
    go_simp
    try with_reducible rfl
  try simp only [Act.put, List.setIfInBounds_toArray, List.set_cons_zero, List.set_cons_succ]
  refine wpAnyH_take (i := 9) (oi := ⟨some 18, _, _, _, _, _⟩) (v := ?vtrt4_10) rfl (by kernel_rfl) (by kernel_rfl) (by kernel_rfl) (fun _ _ _ h => h) (Or.inl ⟨by rfl, ?ytrt4_10⟩) RA_trt4_7_6.out ?rtrt4_10
  case ytrt4_10 =>
    rintro w' hSw
    go_simp
    try with_reducible rfl
  try simp only [Act.put, List.setIfInBounds_toArray, List.set_cons_zero, List.set_cons_succ]
  refine wpAnyH_take (i := 10) (oi := ⟨some 19, _, _, _, _, _⟩) (v := ?vtrt4_11) rfl (by kernel_rfl) (by kernel_rfl) (by kernel_rfl) (fun _ _ _ h => h) (Or.inl ⟨by rfl, ?ytrt4_11⟩) RA_trt4_7_6.out ?rtrt4_11
  case ytrt4_11 =>
    rintro w' hSw
    have k0 := (show Row w' _ _ _ from hSw).cell 0
    have k1 := (show Row w' _ _ _ from hSw).cell 1
    have k2 := (show Row w' _ _ _ from hSw).cell 2
    have k3 := (show Row w' _ _ _ from hSw).cell 3
    simp only [List.getElem?_cons_zero, List.getElem?_cons_succ] at k0 k1 k2 k3
    go_simp
    try with_reducible rfl
  try simp only [Act.put, List.setIfInBounds_toArray, List.set_cons_zero, List.set_cons_succ]
  refine wpAnyH_ready (rs := [11]) (by kernel_rfl) (by simp) ?_
  refine (AllReadyH.cons rfl (fun K hK => ?_) AllReadyH.nil)
  go_simp
  refine (HK.out _).mono ?_
  rintro e Xtrt4_12 ⟨rfl, hb⟩
  have RA_trt4_12_7 := Lib.hid (RA_trt4_7_6.out.below hb RA_trt4_7_6.out.lt)
  have RB_trt4_12_7 := Lib.hid (RB_trt4_7_6.out.below hb RB_trt4_7_6.out.lt)
  have B_trt4_12_7 := Lib.hid (B_trt4_7_6.out.trans (hb.mono B_trt4_7_6.out.size))
  clear hb RA_trt4_7_6 RB_trt4_7_6 B_trt4_7_6
  refine hK _ _ RA_trt4_12_7.out (fun _ => ?_)
  clear hK K
  try simp only [Act.put, List.setIfInBounds_toArray, List.set_cons_zero, List.set_cons_succ]
  refine wpAnyH_take (i := 12) (oi := ⟨some 21, _, _, _, _, _⟩) (v := ?vtrt4_13) rfl (by kernel_rfl) (by kernel_rfl) (by kernel_rfl) (fun _ _ _ h => h) (Or.inl ⟨by rfl, ?ytrt4_13⟩) RA_trt4_12_7.out ?rtrt4_13
  case ytrt4_13 =>
    rintro w' hSw
    go_simp
    try with_reducible rfl
  try simp only [Act.put, List.setIfInBounds_toArray, List.set_cons_zero, List.set_cons_succ]
  refine wpAnyH_take (i := 13) (oi := ⟨some 22, _, _, _, _, _⟩) (v := ?vtrt4_14) rfl (by kernel_rfl) (by kernel_rfl) (by kernel_rfl) (fun _ _ _ h => h) (Or.inl ⟨by rfl, ?ytrt4_14⟩) RA_trt4_12_7.out ?rtrt4_14
  case ytrt4_14 =>
    rintro w' hSw
    go_simp
    try with_reducible rfl
  try simp only [Act.put, List.setIfInBounds_toArray, List.set_cons_zero, List.set_cons_succ]
  refine wpAnyH_take (i := 14) (oi := ⟨some 23, _, _, _, _, _⟩) (v := undef) rfl (by kernel_rfl) (by kernel_rfl) (by kernel_rfl) (fun _ _ _ h => h) (Or.inr ⟨by rfl, rfl⟩) RA_trt4_12_7.out ?rtrt4_15
  try simp only [Act.put, List.setIfInBounds_toArray, List.set_cons_zero, List.set_cons_succ]
  refine wpAnyH_take (i := 15) (oi := ⟨some 24, _, _, _, _, _⟩) (v := undef) rfl (by kernel_rfl) (by kernel_rfl) (by kernel_rfl) (fun _ _ _ h => h) (Or.inr ⟨by rfl, rfl⟩) RA_trt4_12_7.out ?rtrt4_16
  try simp only [Act.put, List.setIfInBounds_toArray, List.set_cons_zero, List.set_cons_succ]
  refine wpAnyH_take (i := 16) (oi := ⟨some 25, _, _, _, _, _⟩) (v := undef) rfl (by kernel_rfl) (by kernel_rfl) (by kernel_rfl) (fun _ _ _ h => h) (Or.inr ⟨by rfl, rfl⟩) RA_trt4_12_7.out ?rtrt4_17
  try simp only [Act.put, List.setIfInBounds_toArray, List.set_cons_zero, List.set_cons_succ]
  refine wpAnyH_take (i := 17) (oi := ⟨some 26, _, _, _, _, _⟩) (v := undef) rfl (by kernel_rfl) (by kernel_rfl) (by kernel_rfl) (fun _ _ _ h => h) (Or.inr ⟨by rfl, rfl⟩) RA_trt4_12_7.out ?rtrt4_18
  try simp only [Act.put, List.setIfInBounds_toArray, List.set_cons_zero, List.set_cons_succ]
  refine wpAnyH_take (i := 18) (oi := ⟨some 27, _, _, _, _, _⟩) (v := ?vtrt4_19) rfl (by kernel_rfl) (by kernel_rfl) (by kernel_rfl) (fun _ _ _ h => h) (Or.inl ⟨by rfl, ?ytrt4_19⟩) RA_trt4_12_7.out ?rtrt4_19
  case ytrt4_19 =>
    rintro w' hSw
    go_simp
    try with_reducible rfl
  try simp only [Act.put, List.setIfInBounds_toArray, List.set_cons_zero, List.set_cons_succ]
  refine wpAnyH_take (i := 19) (oi := ⟨some 28, _, _, _, _, _⟩) (v := ?vtrt4_20) rfl (by kernel_rfl) (by kernel_rfl) (by kernel_rfl) (fun _ _ _ h => h) (Or.inl ⟨by rfl, ?ytrt4_20⟩) RA_trt4_12_7.out ?rtrt4_20
  case ytrt4_20 =>
    rintro w' hSw
    go_simp
    try with_reducible rfl
  try simp only [Act.put, List.setIfInBounds_toArray, List.set_cons_zero, List.set_cons_succ]
  refine wpAnyH_done (by kernel_rfl) ?_ _
  go_wp2_with fail
  refine wp_region_held_drew (S := fun w' => Row w' (w.heap.size) 23 [.int .i64 x0, .int .i64 x1, .int .i64 y0, .int .i64 y1] ∧ Row w' (w.heap.size + 1) 23 [.int .i64 u0, .int .i64 u1, .int .i64 v0, .int .i64 v1]) (by kernel_rfl) ⟨RA_trt4_12_7.out.drew, RB_trt4_12_7.out.drew⟩ (fun hHeld => ?_)
  clear hHeld
  have RA_ztrt4_12_8 := Lib.hid RA_trt4_12_7.out.drew
  have RB_ztrt4_12_8 := Lib.hid RB_trt4_12_7.out.drew
  have B_ztrt4_12_8 := Lib.hid B_trt4_12_7.out.drew
  clear RA_trt4_12_7 RB_trt4_12_7 B_trt4_12_7
  generalize Xtrt4_12.drew = Dztrt4_12_8 at RA_ztrt4_12_8 RB_ztrt4_12_8 B_ztrt4_12_8 ⊢
  refine wpAnyH_take (i := 0) (oi := ⟨some 29, _, _, _, _, _⟩) (v := ?vztrt4_12_rztrt4_12_8_1) rfl (by kernel_rfl) (by kernel_rfl) (by kernel_rfl) (fun _ _ _ h => h) (Or.inl ⟨by rfl, ?yztrt4_12_rztrt4_12_8_1⟩) ⟨RA_ztrt4_12_8.out, RB_ztrt4_12_8.out⟩ ?rztrt4_12_rztrt4_12_8_1
  case yztrt4_12_rztrt4_12_8_1 =>
    rintro w' hSw
    have k0 := (show Row w' _ _ _ from hSw.1).cell 0
    have k1 := (show Row w' _ _ _ from hSw.1).cell 1
    have k2 := (show Row w' _ _ _ from hSw.1).cell 2
    have k3 := (show Row w' _ _ _ from hSw.1).cell 3
    simp only [List.getElem?_cons_zero, List.getElem?_cons_succ] at k0 k1 k2 k3
    go_simp
    try with_reducible rfl
  try simp only [Act.put, List.setIfInBounds_toArray, List.set_cons_zero, List.set_cons_succ]
  refine wpAnyH_take (i := 1) (oi := ⟨some 30, _, _, _, _, _⟩) (v := ?vztrt4_12_rztrt4_12_8_2) rfl (by kernel_rfl) (by kernel_rfl) (by kernel_rfl) (fun _ _ _ h => h) (Or.inl ⟨by rfl, ?yztrt4_12_rztrt4_12_8_2⟩) ⟨RA_ztrt4_12_8.out, RB_ztrt4_12_8.out⟩ ?rztrt4_12_rztrt4_12_8_2
  case yztrt4_12_rztrt4_12_8_2 =>
    rintro w' hSw
    have k0 := (show Row w' _ _ _ from hSw.2).cell 0
    have k1 := (show Row w' _ _ _ from hSw.2).cell 1
    have k2 := (show Row w' _ _ _ from hSw.2).cell 2
    have k3 := (show Row w' _ _ _ from hSw.2).cell 3
    simp only [List.getElem?_cons_zero, List.getElem?_cons_succ] at k0 k1 k2 k3
    go_simp
    try with_reducible rfl
  try simp only [Act.put, List.setIfInBounds_toArray, List.set_cons_zero, List.set_cons_succ]
  refine wpAnyH_take (i := 3) (oi := ⟨some 32, _, _, _, _, _⟩) (v := ?vztrt4_12_rztrt4_12_8_3) rfl (by kernel_rfl) (by kernel_rfl) (by kernel_rfl) (fun _ _ _ h => h) (Or.inl ⟨by rfl, ?yztrt4_12_rztrt4_12_8_3⟩) ⟨RA_ztrt4_12_8.out, RB_ztrt4_12_8.out⟩ ?rztrt4_12_rztrt4_12_8_3
  case yztrt4_12_rztrt4_12_8_3 =>
    rintro w' hSw
    have k0 := (show Row w' _ _ _ from hSw.1).cell 0
    have k1 := (show Row w' _ _ _ from hSw.1).cell 1
    have k2 := (show Row w' _ _ _ from hSw.1).cell 2
    have k3 := (show Row w' _ _ _ from hSw.1).cell 3
    simp only [List.getElem?_cons_zero, List.getElem?_cons_succ] at k0 k1 k2 k3
    go_simp
    try with_reducible rfl
  try simp only [Act.put, List.setIfInBounds_toArray, List.set_cons_zero, List.set_cons_succ]
  refine wpAnyH_take (i := 4) (oi := ⟨some 33, _, _, _, _, _⟩) (v := ?vztrt4_12_rztrt4_12_8_4) rfl (by kernel_rfl) (by kernel_rfl) (by kernel_rfl) (fun _ _ _ h => h) (Or.inl ⟨by rfl, ?yztrt4_12_rztrt4_12_8_4⟩) ⟨RA_ztrt4_12_8.out, RB_ztrt4_12_8.out⟩ ?rztrt4_12_rztrt4_12_8_4
  case yztrt4_12_rztrt4_12_8_4 =>
    rintro w' hSw
    have k0 := (show Row w' _ _ _ from hSw.2).cell 0
    have k1 := (show Row w' _ _ _ from hSw.2).cell 1
    have k2 := (show Row w' _ _ _ from hSw.2).cell 2
    have k3 := (show Row w' _ _ _ from hSw.2).cell 3
    simp only [List.getElem?_cons_zero, List.getElem?_cons_succ] at k0 k1 k2 k3
    go_simp
    try with_reducible rfl
  try simp only [Act.put, List.setIfInBounds_toArray, List.set_cons_zero, List.set_cons_succ]
  refine wpAnyH_ready (rs := [2]) (by kernel_rfl) (by simp) ?_
  refine (AllReadyH.cons rfl (fun K hK => ?_) AllReadyH.nil)
  go_simp
  refine (HM.out _).mono ?_
  rintro e Xztrt4_12_rztrt4_12_8_5 ⟨rfl, hb⟩
  have RA_ztrt4_12_rztrt4_12_8_5_9 := Lib.hid (RA_ztrt4_12_8.out.below hb RA_ztrt4_12_8.out.lt)
  have RB_ztrt4_12_rztrt4_12_8_5_9 := Lib.hid (RB_ztrt4_12_8.out.below hb RB_ztrt4_12_8.out.lt)
  have B_ztrt4_12_rztrt4_12_8_5_9 := Lib.hid (B_ztrt4_12_8.out.trans (hb.mono B_ztrt4_12_8.out.size))
  clear hb RA_ztrt4_12_8 RB_ztrt4_12_8 B_ztrt4_12_8
  refine hK _ _ ⟨RA_ztrt4_12_rztrt4_12_8_5_9.out, RB_ztrt4_12_rztrt4_12_8_5_9.out⟩ (fun _ => ?_)
  clear hK K
  try simp only [Act.put, List.setIfInBounds_toArray, List.set_cons_zero, List.set_cons_succ]
  refine wpAnyH_ready (rs := [5]) (by kernel_rfl) (by simp) ?_
  refine (AllReadyH.cons rfl (fun K hK => ?_) AllReadyH.nil)
  go_simp
  refine (HMR.out _).mono ?_
  rintro e Xztrt4_12_rztrt4_12_8_6 ⟨rfl, hb⟩
  have RA_ztrt4_12_rztrt4_12_8_6_10 := Lib.hid (RA_ztrt4_12_rztrt4_12_8_5_9.out.below hb RA_ztrt4_12_rztrt4_12_8_5_9.out.lt)
  have RB_ztrt4_12_rztrt4_12_8_6_10 := Lib.hid (RB_ztrt4_12_rztrt4_12_8_5_9.out.below hb RB_ztrt4_12_rztrt4_12_8_5_9.out.lt)
  have B_ztrt4_12_rztrt4_12_8_6_10 := Lib.hid (B_ztrt4_12_rztrt4_12_8_5_9.out.trans (hb.mono B_ztrt4_12_rztrt4_12_8_5_9.out.size))
  clear hb RA_ztrt4_12_rztrt4_12_8_5_9 RB_ztrt4_12_rztrt4_12_8_5_9 B_ztrt4_12_rztrt4_12_8_5_9
  refine hK _ _ ⟨RA_ztrt4_12_rztrt4_12_8_6_10.out, RB_ztrt4_12_rztrt4_12_8_6_10.out⟩ (fun _ => ?_)
  clear hK K
  try simp only [Act.put, List.setIfInBounds_toArray, List.set_cons_zero, List.set_cons_succ]
  refine wpAnyH_take (i := 6) (oi := ⟨some 35, _, _, _, _, _⟩) (v := ?vztrt4_12_rztrt4_12_8_7) rfl (by kernel_rfl) (by kernel_rfl) (by kernel_rfl) (fun _ _ _ h => h) (Or.inl ⟨by rfl, ?yztrt4_12_rztrt4_12_8_7⟩) ⟨RA_ztrt4_12_rztrt4_12_8_6_10.out, RB_ztrt4_12_rztrt4_12_8_6_10.out⟩ ?rztrt4_12_rztrt4_12_8_7
  case yztrt4_12_rztrt4_12_8_7 =>
    rintro w' hSw
    go_simp
    try with_reducible rfl
  try simp only [Act.put, List.setIfInBounds_toArray, List.set_cons_zero, List.set_cons_succ]
  refine wpAnyH_take (i := 7) (oi := ⟨some 36, _, _, _, _, _⟩) (v := ?vztrt4_12_rztrt4_12_8_8) rfl (by kernel_rfl) (by kernel_rfl) (by kernel_rfl) (fun _ _ _ h => h) (Or.inl ⟨by rfl, ?yztrt4_12_rztrt4_12_8_8⟩) ⟨RA_ztrt4_12_rztrt4_12_8_6_10.out, RB_ztrt4_12_rztrt4_12_8_6_10.out⟩ ?rztrt4_12_rztrt4_12_8_8
  case yztrt4_12_rztrt4_12_8_8 =>
    rintro w' hSw
    go_simp
    try with_reducible rfl
  try simp only [Act.put, List.setIfInBounds_toArray, List.set_cons_zero, List.set_cons_succ]
  refine wpAnyH_take (i := 8) (oi := ⟨some 37, _, _, _, _, _⟩) (v := ?vztrt4_12_rztrt4_12_8_9) rfl (by kernel_rfl) (by kernel_rfl) (by kernel_rfl) (fun _ _ _ h => h) (Or.inl ⟨by rfl, ?yztrt4_12_rztrt4_12_8_9⟩) ⟨RA_ztrt4_12_rztrt4_12_8_6_10.out, RB_ztrt4_12_rztrt4_12_8_6_10.out⟩ ?rztrt4_12_rztrt4_12_8_9
  case yztrt4_12_rztrt4_12_8_9 =>
    rintro w' hSw
    have k0 := (show Row w' _ _ _ from hSw.1).cell 0
    have k1 := (show Row w' _ _ _ from hSw.1).cell 1
    have k2 := (show Row w' _ _ _ from hSw.1).cell 2
    have k3 := (show Row w' _ _ _ from hSw.1).cell 3
    simp only [List.getElem?_cons_zero, List.getElem?_cons_succ] at k0 k1 k2 k3
    go_simp
    try with_reducible rfl
  try simp only [Act.put, List.setIfInBounds_toArray, List.set_cons_zero, List.set_cons_succ]
  refine wpAnyH_take (i := 9) (oi := ⟨some 38, _, _, _, _, _⟩) (v := ?vztrt4_12_rztrt4_12_8_10) rfl (by kernel_rfl) (by kernel_rfl) (by kernel_rfl) (fun _ _ _ h => h) (Or.inl ⟨by rfl, ?yztrt4_12_rztrt4_12_8_10⟩) ⟨RA_ztrt4_12_rztrt4_12_8_6_10.out, RB_ztrt4_12_rztrt4_12_8_6_10.out⟩ ?rztrt4_12_rztrt4_12_8_10
  case yztrt4_12_rztrt4_12_8_10 =>
    rintro w' hSw
    have k0 := (show Row w' _ _ _ from hSw.2).cell 0
    have k1 := (show Row w' _ _ _ from hSw.2).cell 1
    have k2 := (show Row w' _ _ _ from hSw.2).cell 2
    have k3 := (show Row w' _ _ _ from hSw.2).cell 3
    simp only [List.getElem?_cons_zero, List.getElem?_cons_succ] at k0 k1 k2 k3
    go_simp
    try with_reducible rfl
  try simp only [Act.put, List.setIfInBounds_toArray, List.set_cons_zero, List.set_cons_succ]
  refine wpAnyH_take (i := 11) (oi := ⟨some 40, _, _, _, _, _⟩) (v := ?vztrt4_12_rztrt4_12_8_11) rfl (by kernel_rfl) (by kernel_rfl) (by kernel_rfl) (fun _ _ _ h => h) (Or.inl ⟨by rfl, ?yztrt4_12_rztrt4_12_8_11⟩) ⟨RA_ztrt4_12_rztrt4_12_8_6_10.out, RB_ztrt4_12_rztrt4_12_8_6_10.out⟩ ?rztrt4_12_rztrt4_12_8_11
  case yztrt4_12_rztrt4_12_8_11 =>
    rintro w' hSw
    have k0 := (show Row w' _ _ _ from hSw.1).cell 0
    have k1 := (show Row w' _ _ _ from hSw.1).cell 1
    have k2 := (show Row w' _ _ _ from hSw.1).cell 2
    have k3 := (show Row w' _ _ _ from hSw.1).cell 3
    simp only [List.getElem?_cons_zero, List.getElem?_cons_succ] at k0 k1 k2 k3
    go_simp
    try with_reducible rfl
  try simp only [Act.put, List.setIfInBounds_toArray, List.set_cons_zero, List.set_cons_succ]
  refine wpAnyH_take (i := 12) (oi := ⟨some 41, _, _, _, _, _⟩) (v := ?vztrt4_12_rztrt4_12_8_12) rfl (by kernel_rfl) (by kernel_rfl) (by kernel_rfl) (fun _ _ _ h => h) (Or.inl ⟨by rfl, ?yztrt4_12_rztrt4_12_8_12⟩) ⟨RA_ztrt4_12_rztrt4_12_8_6_10.out, RB_ztrt4_12_rztrt4_12_8_6_10.out⟩ ?rztrt4_12_rztrt4_12_8_12
  case yztrt4_12_rztrt4_12_8_12 =>
    rintro w' hSw
    have k0 := (show Row w' _ _ _ from hSw.2).cell 0
    have k1 := (show Row w' _ _ _ from hSw.2).cell 1
    have k2 := (show Row w' _ _ _ from hSw.2).cell 2
    have k3 := (show Row w' _ _ _ from hSw.2).cell 3
    simp only [List.getElem?_cons_zero, List.getElem?_cons_succ] at k0 k1 k2 k3
    go_simp
    try with_reducible rfl
  try simp only [Act.put, List.setIfInBounds_toArray, List.set_cons_zero, List.set_cons_succ]
  refine wpAnyH_ready (rs := [10]) (by kernel_rfl) (by simp) ?_
  refine (AllReadyH.cons rfl (fun K hK => ?_) AllReadyH.nil)
  go_simp
  refine (HC.out _).mono ?_
  rintro e Xztrt4_12_rztrt4_12_8_13 ⟨rfl, hb⟩
  have RA_ztrt4_12_rztrt4_12_8_13_11 := Lib.hid (RA_ztrt4_12_rztrt4_12_8_6_10.out.below hb RA_ztrt4_12_rztrt4_12_8_6_10.out.lt)
  have RB_ztrt4_12_rztrt4_12_8_13_11 := Lib.hid (RB_ztrt4_12_rztrt4_12_8_6_10.out.below hb RB_ztrt4_12_rztrt4_12_8_6_10.out.lt)
  have B_ztrt4_12_rztrt4_12_8_13_11 := Lib.hid (B_ztrt4_12_rztrt4_12_8_6_10.out.trans (hb.mono B_ztrt4_12_rztrt4_12_8_6_10.out.size))
  clear hb RA_ztrt4_12_rztrt4_12_8_6_10 RB_ztrt4_12_rztrt4_12_8_6_10 B_ztrt4_12_rztrt4_12_8_6_10
  refine hK _ _ ⟨RA_ztrt4_12_rztrt4_12_8_13_11.out, RB_ztrt4_12_rztrt4_12_8_13_11.out⟩ (fun _ => ?_)
  clear hK K
  try simp only [Act.put, List.setIfInBounds_toArray, List.set_cons_zero, List.set_cons_succ]
  refine wpAnyH_ready (rs := [13]) (by kernel_rfl) (by simp) ?_
  refine (AllReadyH.cons rfl (fun K hK => ?_) AllReadyH.nil)
  go_simp
  refine (HCR.out _).mono ?_
  rintro e Xztrt4_12_rztrt4_12_8_14 ⟨rfl, hb⟩
  have RA_ztrt4_12_rztrt4_12_8_14_12 := Lib.hid (RA_ztrt4_12_rztrt4_12_8_13_11.out.below hb RA_ztrt4_12_rztrt4_12_8_13_11.out.lt)
  have RB_ztrt4_12_rztrt4_12_8_14_12 := Lib.hid (RB_ztrt4_12_rztrt4_12_8_13_11.out.below hb RB_ztrt4_12_rztrt4_12_8_13_11.out.lt)
  have B_ztrt4_12_rztrt4_12_8_14_12 := Lib.hid (B_ztrt4_12_rztrt4_12_8_13_11.out.trans (hb.mono B_ztrt4_12_rztrt4_12_8_13_11.out.size))
  clear hb RA_ztrt4_12_rztrt4_12_8_13_11 RB_ztrt4_12_rztrt4_12_8_13_11 B_ztrt4_12_rztrt4_12_8_13_11
  refine hK _ _ ⟨RA_ztrt4_12_rztrt4_12_8_14_12.out, RB_ztrt4_12_rztrt4_12_8_14_12.out⟩ (fun _ => ?_)
  clear hK K
  try simp only [Act.put, List.setIfInBounds_toArray, List.set_cons_zero, List.set_cons_succ]
  refine wpAnyH_take (i := 14) (oi := ⟨some 43, _, _, _, _, _⟩) (v := ?vztrt4_12_rztrt4_12_8_15) rfl (by kernel_rfl) (by kernel_rfl) (by kernel_rfl) (fun _ _ _ h => h) (Or.inl ⟨by rfl, ?yztrt4_12_rztrt4_12_8_15⟩) ⟨RA_ztrt4_12_rztrt4_12_8_14_12.out, RB_ztrt4_12_rztrt4_12_8_14_12.out⟩ ?rztrt4_12_rztrt4_12_8_15
  case yztrt4_12_rztrt4_12_8_15 =>
    rintro w' hSw
    go_simp
    try with_reducible rfl
  try simp only [Act.put, List.setIfInBounds_toArray, List.set_cons_zero, List.set_cons_succ]
  refine wpAnyH_take (i := 15) (oi := ⟨some 44, _, _, _, _, _⟩) (v := ?vztrt4_12_rztrt4_12_8_16) rfl (by kernel_rfl) (by kernel_rfl) (by kernel_rfl) (fun _ _ _ h => h) (Or.inl ⟨by rfl, ?yztrt4_12_rztrt4_12_8_16⟩) ⟨RA_ztrt4_12_rztrt4_12_8_14_12.out, RB_ztrt4_12_rztrt4_12_8_14_12.out⟩ ?rztrt4_12_rztrt4_12_8_16
  case yztrt4_12_rztrt4_12_8_16 =>
    rintro w' hSw
    go_simp
    try with_reducible rfl
  try simp only [Act.put, List.setIfInBounds_toArray, List.set_cons_zero, List.set_cons_succ]
  refine wpAnyH_take (i := 16) (oi := ⟨some 45, _, _, _, _, _⟩) (v := ?vztrt4_12_rztrt4_12_8_17) rfl (by kernel_rfl) (by kernel_rfl) (by kernel_rfl) (fun _ _ _ h => h) (Or.inl ⟨by rfl, ?yztrt4_12_rztrt4_12_8_17⟩) ⟨RA_ztrt4_12_rztrt4_12_8_14_12.out, RB_ztrt4_12_rztrt4_12_8_14_12.out⟩ ?rztrt4_12_rztrt4_12_8_17
  case yztrt4_12_rztrt4_12_8_17 =>
    rintro w' hSw
    go_simp
    try with_reducible rfl
  try simp only [Act.put, List.setIfInBounds_toArray, List.set_cons_zero, List.set_cons_succ]
  refine wpAnyH_take (i := 17) (oi := ⟨some 46, _, _, _, _, _⟩) (v := ?vztrt4_12_rztrt4_12_8_18) rfl (by kernel_rfl) (by kernel_rfl) (by kernel_rfl) (fun _ _ _ h => h) (Or.inl ⟨by rfl, ?yztrt4_12_rztrt4_12_8_18⟩) ⟨RA_ztrt4_12_rztrt4_12_8_14_12.out, RB_ztrt4_12_rztrt4_12_8_14_12.out⟩ ?rztrt4_12_rztrt4_12_8_18
  case yztrt4_12_rztrt4_12_8_18 =>
    rintro w' hSw
    have k0 := (show Row w' _ _ _ from hSw.1).cell 0
    have k1 := (show Row w' _ _ _ from hSw.1).cell 1
    have k2 := (show Row w' _ _ _ from hSw.1).cell 2
    have k3 := (show Row w' _ _ _ from hSw.1).cell 3
    simp only [List.getElem?_cons_zero, List.getElem?_cons_succ] at k0 k1 k2 k3
    go_simp
    try with_reducible rfl
  try simp only [Act.put, List.setIfInBounds_toArray, List.set_cons_zero, List.set_cons_succ]
  refine wpAnyH_take (i := 18) (oi := ⟨some 47, _, _, _, _, _⟩) (v := ?vztrt4_12_rztrt4_12_8_19) rfl (by kernel_rfl) (by kernel_rfl) (by kernel_rfl) (fun _ _ _ h => h) (Or.inl ⟨by rfl, ?yztrt4_12_rztrt4_12_8_19⟩) ⟨RA_ztrt4_12_rztrt4_12_8_14_12.out, RB_ztrt4_12_rztrt4_12_8_14_12.out⟩ ?rztrt4_12_rztrt4_12_8_19
  case yztrt4_12_rztrt4_12_8_19 =>
    rintro w' hSw
    have k0 := (show Row w' _ _ _ from hSw.2).cell 0
    have k1 := (show Row w' _ _ _ from hSw.2).cell 1
    have k2 := (show Row w' _ _ _ from hSw.2).cell 2
    have k3 := (show Row w' _ _ _ from hSw.2).cell 3
    simp only [List.getElem?_cons_zero, List.getElem?_cons_succ] at k0 k1 k2 k3
    go_simp
    try with_reducible rfl
  try simp only [Act.put, List.setIfInBounds_toArray, List.set_cons_zero, List.set_cons_succ]
  refine wpAnyH_take (i := 20) (oi := ⟨some 49, _, _, _, _, _⟩) (v := ?vztrt4_12_rztrt4_12_8_20) rfl (by kernel_rfl) (by kernel_rfl) (by kernel_rfl) (fun _ _ _ h => h) (Or.inl ⟨by rfl, ?yztrt4_12_rztrt4_12_8_20⟩) ⟨RA_ztrt4_12_rztrt4_12_8_14_12.out, RB_ztrt4_12_rztrt4_12_8_14_12.out⟩ ?rztrt4_12_rztrt4_12_8_20
  case yztrt4_12_rztrt4_12_8_20 =>
    rintro w' hSw
    have k0 := (show Row w' _ _ _ from hSw.1).cell 0
    have k1 := (show Row w' _ _ _ from hSw.1).cell 1
    have k2 := (show Row w' _ _ _ from hSw.1).cell 2
    have k3 := (show Row w' _ _ _ from hSw.1).cell 3
    simp only [List.getElem?_cons_zero, List.getElem?_cons_succ] at k0 k1 k2 k3
    go_simp
    try with_reducible rfl
  try simp only [Act.put, List.setIfInBounds_toArray, List.set_cons_zero, List.set_cons_succ]
  refine wpAnyH_take (i := 21) (oi := ⟨some 50, _, _, _, _, _⟩) (v := ?vztrt4_12_rztrt4_12_8_21) rfl (by kernel_rfl) (by kernel_rfl) (by kernel_rfl) (fun _ _ _ h => h) (Or.inl ⟨by rfl, ?yztrt4_12_rztrt4_12_8_21⟩) ⟨RA_ztrt4_12_rztrt4_12_8_14_12.out, RB_ztrt4_12_rztrt4_12_8_14_12.out⟩ ?rztrt4_12_rztrt4_12_8_21
  case yztrt4_12_rztrt4_12_8_21 =>
    rintro w' hSw
    have k0 := (show Row w' _ _ _ from hSw.2).cell 0
    have k1 := (show Row w' _ _ _ from hSw.2).cell 1
    have k2 := (show Row w' _ _ _ from hSw.2).cell 2
    have k3 := (show Row w' _ _ _ from hSw.2).cell 3
    simp only [List.getElem?_cons_zero, List.getElem?_cons_succ] at k0 k1 k2 k3
    go_simp
    try with_reducible rfl
  try simp only [Act.put, List.setIfInBounds_toArray, List.set_cons_zero, List.set_cons_succ]
  refine wpAnyH_ready (rs := [19]) (by kernel_rfl) (by simp) ?_
  refine (AllReadyH.cons rfl (fun K hK => ?_) AllReadyH.nil)
  go_simp
  refine (HU.out _).mono ?_
  rintro e Xztrt4_12_rztrt4_12_8_22 ⟨rfl, hb⟩
  have RA_ztrt4_12_rztrt4_12_8_22_13 := Lib.hid (RA_ztrt4_12_rztrt4_12_8_14_12.out.below hb RA_ztrt4_12_rztrt4_12_8_14_12.out.lt)
  have RB_ztrt4_12_rztrt4_12_8_22_13 := Lib.hid (RB_ztrt4_12_rztrt4_12_8_14_12.out.below hb RB_ztrt4_12_rztrt4_12_8_14_12.out.lt)
  have B_ztrt4_12_rztrt4_12_8_22_13 := Lib.hid (B_ztrt4_12_rztrt4_12_8_14_12.out.trans (hb.mono B_ztrt4_12_rztrt4_12_8_14_12.out.size))
  clear hb RA_ztrt4_12_rztrt4_12_8_14_12 RB_ztrt4_12_rztrt4_12_8_14_12 B_ztrt4_12_rztrt4_12_8_14_12
  refine hK _ _ ⟨RA_ztrt4_12_rztrt4_12_8_22_13.out, RB_ztrt4_12_rztrt4_12_8_22_13.out⟩ (fun _ => ?_)
  clear hK K
  try simp only [Act.put, List.setIfInBounds_toArray, List.set_cons_zero, List.set_cons_succ]
  refine wpAnyH_ready (rs := [22]) (by kernel_rfl) (by simp) ?_
  refine (AllReadyH.cons rfl (fun K hK => ?_) AllReadyH.nil)
  go_simp
  refine (HUR.out _).mono ?_
  rintro e Xztrt4_12_rztrt4_12_8_23 ⟨rfl, hb⟩
  have RA_ztrt4_12_rztrt4_12_8_23_14 := Lib.hid (RA_ztrt4_12_rztrt4_12_8_22_13.out.below hb RA_ztrt4_12_rztrt4_12_8_22_13.out.lt)
  have RB_ztrt4_12_rztrt4_12_8_23_14 := Lib.hid (RB_ztrt4_12_rztrt4_12_8_22_13.out.below hb RB_ztrt4_12_rztrt4_12_8_22_13.out.lt)
  have B_ztrt4_12_rztrt4_12_8_23_14 := Lib.hid (B_ztrt4_12_rztrt4_12_8_22_13.out.trans (hb.mono B_ztrt4_12_rztrt4_12_8_22_13.out.size))
  clear hb RA_ztrt4_12_rztrt4_12_8_22_13 RB_ztrt4_12_rztrt4_12_8_22_13 B_ztrt4_12_rztrt4_12_8_22_13
  refine hK _ _ ⟨RA_ztrt4_12_rztrt4_12_8_23_14.out, RB_ztrt4_12_rztrt4_12_8_23_14.out⟩ (fun _ => ?_)
  clear hK K
  try simp only [Act.put, List.setIfInBounds_toArray, List.set_cons_zero, List.set_cons_succ]
  refine wpAnyH_take (i := 23) (oi := ⟨some 52, _, _, _, _, _⟩) (v := ?vztrt4_12_rztrt4_12_8_24) rfl (by kernel_rfl) (by kernel_rfl) (by kernel_rfl) (fun _ _ _ h => h) (Or.inl ⟨by rfl, ?yztrt4_12_rztrt4_12_8_24⟩) ⟨RA_ztrt4_12_rztrt4_12_8_23_14.out, RB_ztrt4_12_rztrt4_12_8_23_14.out⟩ ?rztrt4_12_rztrt4_12_8_24
  case yztrt4_12_rztrt4_12_8_24 =>
    rintro w' hSw
    go_simp
    try with_reducible rfl
  try simp only [Act.put, List.setIfInBounds_toArray, List.set_cons_zero, List.set_cons_succ]
  refine wpAnyH_take (i := 24) (oi := ⟨some 53, _, _, _, _, _⟩) (v := ?vztrt4_12_rztrt4_12_8_25) rfl (by kernel_rfl) (by kernel_rfl) (by kernel_rfl) (fun _ _ _ h => h) (Or.inl ⟨by rfl, ?yztrt4_12_rztrt4_12_8_25⟩) ⟨RA_ztrt4_12_rztrt4_12_8_23_14.out, RB_ztrt4_12_rztrt4_12_8_23_14.out⟩ ?rztrt4_12_rztrt4_12_8_25
  case yztrt4_12_rztrt4_12_8_25 =>
    rintro w' hSw
    go_simp
    try with_reducible rfl
  try simp only [Act.put, List.setIfInBounds_toArray, List.set_cons_zero, List.set_cons_succ]
  refine wpAnyH_take (i := 25) (oi := ⟨some 6, _, _, _, _, _⟩) (v := ?vztrt4_12_rztrt4_12_8_26) rfl (by kernel_rfl) (by kernel_rfl) (by kernel_rfl) (fun _ _ _ h => h) (Or.inl ⟨by rfl, ?yztrt4_12_rztrt4_12_8_26⟩) ⟨RA_ztrt4_12_rztrt4_12_8_23_14.out, RB_ztrt4_12_rztrt4_12_8_23_14.out⟩ ?rztrt4_12_rztrt4_12_8_26
  case yztrt4_12_rztrt4_12_8_26 =>
    rintro w' hSw
    go_simp
    try with_reducible rfl
  try simp only [Act.put, List.setIfInBounds_toArray, List.set_cons_zero, List.set_cons_succ]
  refine wpAnyH_done (by kernel_rfl) ?_ _
  go_wp2
  go_ret
  exact ⟨rfl, B_ztrt4_12_rztrt4_12_8_23_14.out⟩

set_option maxHeartbeats 8000000 in
theorem walk_f (c x0 x1 y0 y1 u0 u1 v0 v1 : Int) (w : World) (hr : rightB c x0 x1 y0 y1 = false) : Calls Try.prog 3 #[.int .i64 c, KV x0 x1 y0 y1, KV u0 u1 v0 v1] w fun e w' => e = .returned (.bool true) ∧ Below w.heap.size w w' := by
  have HW := Lib.hid wakes_any
  have HK := Lib.hid (Check_any c x0 x1 y0 y1)
  have HR := Lib.hid (Right_ref c x0 x1 y0 y1)
  rw [hr] at HK HR
  rw [if_neg (by decide)] at HK
  have HM := Lib.hid (Meets_any x0 x1 y0 y1 u0 u1 v0 v1)
  have HMR := Lib.hid (Meets_ref x0 x1 y0 y1 u0 u1 v0 v1)
  generalize meetB x0 x1 y0 y1 u0 u1 v0 v1 = m at HM HMR
  have HC := Lib.hid (Covers_any x0 x1 y0 y1 u0 u1 v0 v1)
  have HCR := Lib.hid (Covers_ref x0 x1 y0 y1 u0 u1 v0 v1)
  generalize coverB x0 x1 y0 y1 u0 u1 v0 v1 = p at HC HCR
  have HU := Lib.hid (Union_any x0 x1 y0 y1 u0 u1 v0 v1)
  have HUR := Lib.hid (Union_ref x0 x1 y0 y1 u0 u1 v0 v1)
  obtain ⟨m0, m1, m2, m3, hm⟩ := union_val x0 x1 y0 y1 u0 u1 v0 v1
  rw [hm] at HU HUR
  clear hr hm
  go_enter Try.func3, Try.ntmps3
  go_upto_region 1 with fail
  have RA_f1 := Lib.hid ((row_last w (w.heap.size) 23 [.int .i64 x0, .int .i64 x1, .int .i64 y0, .int .i64 y1] (by simp)).alloc (.cells #[.int .i64 u0, .int .i64 u1, .int .i64 v0, .int .i64 v1] 23))
  have RB_f1 := Lib.hid (row_last (w.alloc (.cells #[.int .i64 x0, .int .i64 x1, .int .i64 y0, .int .i64 y1] 23)) (w.heap.size + 1) 23 [.int .i64 u0, .int .i64 u1, .int .i64 v0, .int .i64 v1] (by simp))
  have B_f1 := Lib.hid (((Below.refl w.heap.size w).alloc (Nat.le_refl _) (.cells #[.int .i64 x0, .int .i64 x1, .int .i64 y0, .int .i64 y1] 23)).alloc (by have := Nat.le_refl w.heap.size; simp <;> omega) (.cells #[.int .i64 u0, .int .i64 u1, .int .i64 v0, .int .i64 v1] 23))
  generalize ((w.alloc (.cells #[.int .i64 x0, .int .i64 x1, .int .i64 y0, .int .i64 y1] 23)).alloc (.cells #[.int .i64 u0, .int .i64 u1, .int .i64 v0, .int .i64 v1] 23)) = Vf1 at RA_f1 RB_f1 B_f1 ⊢
  go_wp2_with fail
  refine (HW.out _).mono ?_
  rintro e Wf2 ⟨rfl, hb⟩
  have RA_f3 := Lib.hid (RA_f1.out.below hb RA_f1.out.lt)
  have RB_f3 := Lib.hid (RB_f1.out.below hb RB_f1.out.lt)
  have B_f3 := Lib.hid (B_f1.out.trans (hb.mono B_f1.out.size))
  clear hb RA_f1 RB_f1 B_f1
  go_wp2_with fail
  refine wp_region_held_drew (S := fun w' => Row w' (w.heap.size) 23 [.int .i64 x0, .int .i64 x1, .int .i64 y0, .int .i64 y1]) (by kernel_rfl) RA_f3.out.drew (fun hHeld => ?_)
  clear hHeld
  have RA_f4 := Lib.hid RA_f3.out.drew
  have RB_f4 := Lib.hid RB_f3.out.drew
  have B_f4 := Lib.hid B_f3.out.drew
  clear RA_f3 RB_f3 B_f3
  generalize Wf2.drew = Df4 at RA_f4 RB_f4 B_f4 ⊢
  refine wpAnyH_take (i := 0) (oi := ⟨some 9, _, _, _, _, _⟩) (v := ?vfrf4_1) rfl (by kernel_rfl) (by kernel_rfl) (by kernel_rfl) (fun _ _ _ h => h) (Or.inl ⟨by rfl, ?yfrf4_1⟩) RA_f4.out ?rfrf4_1
  case yfrf4_1 =>
    rintro w' hSw
    go_simp
    try with_reducible rfl
  try simp only [Act.put, List.setIfInBounds_toArray, List.set_cons_zero, List.set_cons_succ]
  refine wpAnyH_take (i := 1) (oi := ⟨some 10, _, _, _, _, _⟩) (v := ?vfrf4_2) rfl (by kernel_rfl) (by kernel_rfl) (by kernel_rfl) (fun _ _ _ h => h) (Or.inl ⟨by rfl, ?yfrf4_2⟩) RA_f4.out ?rfrf4_2
  case yfrf4_2 =>
    rintro w' hSw
    have k0 := (show Row w' _ _ _ from hSw).cell 0
    have k1 := (show Row w' _ _ _ from hSw).cell 1
    have k2 := (show Row w' _ _ _ from hSw).cell 2
    have k3 := (show Row w' _ _ _ from hSw).cell 3
    simp only [List.getElem?_cons_zero, List.getElem?_cons_succ] at k0 k1 k2 k3
    go_simp
    try with_reducible rfl
  try simp only [Act.put, List.setIfInBounds_toArray, List.set_cons_zero, List.set_cons_succ]
  refine wpAnyH_take (i := 4) (oi := ⟨some 13, _, _, _, _, _⟩) (v := ?vfrf4_3) rfl (by kernel_rfl) (by kernel_rfl) (by kernel_rfl) (fun _ _ _ h => h) (Or.inl ⟨by rfl, ?yfrf4_3⟩) RA_f4.out ?rfrf4_3
  case yfrf4_3 =>
    rintro w' hSw
    go_simp
    try with_reducible rfl
  try simp only [Act.put, List.setIfInBounds_toArray, List.set_cons_zero, List.set_cons_succ]
  refine wpAnyH_take (i := 5) (oi := ⟨some 14, _, _, _, _, _⟩) (v := ?vfrf4_4) rfl (by kernel_rfl) (by kernel_rfl) (by kernel_rfl) (fun _ _ _ h => h) (Or.inl ⟨by rfl, ?yfrf4_4⟩) RA_f4.out ?rfrf4_4
  case yfrf4_4 =>
    rintro w' hSw
    have k0 := (show Row w' _ _ _ from hSw).cell 0
    have k1 := (show Row w' _ _ _ from hSw).cell 1
    have k2 := (show Row w' _ _ _ from hSw).cell 2
    have k3 := (show Row w' _ _ _ from hSw).cell 3
    simp only [List.getElem?_cons_zero, List.getElem?_cons_succ] at k0 k1 k2 k3
    go_simp
    try with_reducible rfl
  try simp only [Act.put, List.setIfInBounds_toArray, List.set_cons_zero, List.set_cons_succ]
  refine wpAnyH_ready (rs := [2]) (by kernel_rfl) (by simp) ?_
  refine (AllReadyH.cons rfl (fun K hK => ?_) AllReadyH.nil)
  go_simp
  refine (HK.out _).mono ?_
  rintro e Xfrf4_5 ⟨rfl, hb⟩
  have RA_frf4_5_5 := Lib.hid (RA_f4.out.below hb RA_f4.out.lt)
  have RB_frf4_5_5 := Lib.hid (RB_f4.out.below hb RB_f4.out.lt)
  have B_frf4_5_5 := Lib.hid (B_f4.out.trans (hb.mono B_f4.out.size))
  clear hb RA_f4 RB_f4 B_f4
  refine hK _ _ RA_frf4_5_5.out (fun _ => ?_)
  clear hK K
  try simp only [Act.put, List.setIfInBounds_toArray, List.set_cons_zero, List.set_cons_succ]
  refine wpAnyH_take (i := 3) (oi := ⟨some 12, _, _, _, _, _⟩) (v := ?vfrf4_6) rfl (by kernel_rfl) (by kernel_rfl) (by kernel_rfl) (fun _ _ _ h => h) (Or.inl ⟨by rfl, ?yfrf4_6⟩) RA_frf4_5_5.out ?rfrf4_6
  case yfrf4_6 =>
    rintro w' hSw
    go_simp
    try with_reducible rfl
  try simp only [Act.put, List.setIfInBounds_toArray, List.set_cons_zero, List.set_cons_succ]
  refine wpAnyH_ready (rs := [6]) (by kernel_rfl) (by simp) ?_
  refine (AllReadyH.cons rfl (fun K hK => ?_) AllReadyH.nil)
  go_simp
  refine (HR.out _).mono ?_
  rintro e Xfrf4_7 ⟨rfl, hb⟩
  have RA_frf4_7_6 := Lib.hid (RA_frf4_5_5.out.below hb RA_frf4_5_5.out.lt)
  have RB_frf4_7_6 := Lib.hid (RB_frf4_5_5.out.below hb RB_frf4_5_5.out.lt)
  have B_frf4_7_6 := Lib.hid (B_frf4_5_5.out.trans (hb.mono B_frf4_5_5.out.size))
  clear hb RA_frf4_5_5 RB_frf4_5_5 B_frf4_5_5
  refine hK _ _ RA_frf4_7_6.out (fun _ => ?_)
  clear hK K
  try simp only [Act.put, List.setIfInBounds_toArray, List.set_cons_zero, List.set_cons_succ]
  refine wpAnyH_take (i := 7) (oi := ⟨some 16, _, _, _, _, _⟩) (v := ?vfrf4_8) rfl (by kernel_rfl) (by kernel_rfl) (by kernel_rfl) (fun _ _ _ h => h) (Or.inl ⟨by rfl, ?yfrf4_8⟩) RA_frf4_7_6.out ?rfrf4_8
  case yfrf4_8 =>
    rintro w' hSw
    go_simp
    try with_reducible rfl
  try simp only [Act.put, List.setIfInBounds_toArray, List.set_cons_zero, List.set_cons_succ]
  refine wpAnyH_take (i := 8) (oi := ⟨some 17, _, _, _, _, _⟩) (v := ?vfrf4_9) rfl (by kernel_rfl) (by kernel_rfl) (by kernel_rfl) (fun _ _ _ h => h) (Or.inl ⟨by rfl, ?yfrf4_9⟩) RA_frf4_7_6.out ?rfrf4_9
  case yfrf4_9 =>
    rintro w' hSw
    go_simp
    try with_reducible rfl
  try simp only [Act.put, List.setIfInBounds_toArray, List.set_cons_zero, List.set_cons_succ]
  refine wpAnyH_take (i := 9) (oi := ⟨some 18, _, _, _, _, _⟩) (v := ?vfrf4_10) rfl (by kernel_rfl) (by kernel_rfl) (by kernel_rfl) (fun _ _ _ h => h) (Or.inl ⟨by rfl, ?yfrf4_10⟩) RA_frf4_7_6.out ?rfrf4_10
  case yfrf4_10 =>
    rintro w' hSw
    go_simp
    try with_reducible rfl
  try simp only [Act.put, List.setIfInBounds_toArray, List.set_cons_zero, List.set_cons_succ]
  refine wpAnyH_take (i := 10) (oi := ⟨some 19, _, _, _, _, _⟩) (v := ?vfrf4_11) rfl (by kernel_rfl) (by kernel_rfl) (by kernel_rfl) (fun _ _ _ h => h) (Or.inl ⟨by rfl, ?yfrf4_11⟩) RA_frf4_7_6.out ?rfrf4_11
  case yfrf4_11 =>
    rintro w' hSw
    have k0 := (show Row w' _ _ _ from hSw).cell 0
    have k1 := (show Row w' _ _ _ from hSw).cell 1
    have k2 := (show Row w' _ _ _ from hSw).cell 2
    have k3 := (show Row w' _ _ _ from hSw).cell 3
    simp only [List.getElem?_cons_zero, List.getElem?_cons_succ] at k0 k1 k2 k3
    go_simp
    try with_reducible rfl
  try simp only [Act.put, List.setIfInBounds_toArray, List.set_cons_zero, List.set_cons_succ]
  refine wpAnyH_ready (rs := [11]) (by kernel_rfl) (by simp) ?_
  refine (AllReadyH.cons rfl (fun K hK => ?_) AllReadyH.nil)
  go_simp
  refine (HK.out _).mono ?_
  rintro e Xfrf4_12 ⟨rfl, hb⟩
  have RA_frf4_12_7 := Lib.hid (RA_frf4_7_6.out.below hb RA_frf4_7_6.out.lt)
  have RB_frf4_12_7 := Lib.hid (RB_frf4_7_6.out.below hb RB_frf4_7_6.out.lt)
  have B_frf4_12_7 := Lib.hid (B_frf4_7_6.out.trans (hb.mono B_frf4_7_6.out.size))
  clear hb RA_frf4_7_6 RB_frf4_7_6 B_frf4_7_6
  refine hK _ _ RA_frf4_12_7.out (fun _ => ?_)
  clear hK K
  try simp only [Act.put, List.setIfInBounds_toArray, List.set_cons_zero, List.set_cons_succ]
  refine wpAnyH_take (i := 12) (oi := ⟨some 21, _, _, _, _, _⟩) (v := ?vfrf4_13) rfl (by kernel_rfl) (by kernel_rfl) (by kernel_rfl) (fun _ _ _ h => h) (Or.inl ⟨by rfl, ?yfrf4_13⟩) RA_frf4_12_7.out ?rfrf4_13
  case yfrf4_13 =>
    rintro w' hSw
    go_simp
    try with_reducible rfl
  try simp only [Act.put, List.setIfInBounds_toArray, List.set_cons_zero, List.set_cons_succ]
  refine wpAnyH_take (i := 13) (oi := ⟨some 22, _, _, _, _, _⟩) (v := ?vfrf4_14) rfl (by kernel_rfl) (by kernel_rfl) (by kernel_rfl) (fun _ _ _ h => h) (Or.inl ⟨by rfl, ?yfrf4_14⟩) RA_frf4_12_7.out ?rfrf4_14
  case yfrf4_14 =>
    rintro w' hSw
    go_simp
    try with_reducible rfl
  try simp only [Act.put, List.setIfInBounds_toArray, List.set_cons_zero, List.set_cons_succ]
  refine wpAnyH_take (i := 14) (oi := ⟨some 23, _, _, _, _, _⟩) (v := ?vfrf4_15) rfl (by kernel_rfl) (by kernel_rfl) (by kernel_rfl) (fun _ _ _ h => h) (Or.inl ⟨by rfl, ?yfrf4_15⟩) RA_frf4_12_7.out ?rfrf4_15
  case yfrf4_15 =>
    rintro w' hSw
    go_simp
    try with_reducible rfl
  try simp only [Act.put, List.setIfInBounds_toArray, List.set_cons_zero, List.set_cons_succ]
  refine wpAnyH_take (i := 15) (oi := ⟨some 24, _, _, _, _, _⟩) (v := ?vfrf4_16) rfl (by kernel_rfl) (by kernel_rfl) (by kernel_rfl) (fun _ _ _ h => h) (Or.inl ⟨by rfl, ?yfrf4_16⟩) RA_frf4_12_7.out ?rfrf4_16
  case yfrf4_16 =>
    rintro w' hSw
    have k0 := (show Row w' _ _ _ from hSw).cell 0
    have k1 := (show Row w' _ _ _ from hSw).cell 1
    have k2 := (show Row w' _ _ _ from hSw).cell 2
    have k3 := (show Row w' _ _ _ from hSw).cell 3
    simp only [List.getElem?_cons_zero, List.getElem?_cons_succ] at k0 k1 k2 k3
    go_simp
    try with_reducible rfl
  try simp only [Act.put, List.setIfInBounds_toArray, List.set_cons_zero, List.set_cons_succ]
  refine wpAnyH_ready (rs := [16]) (by kernel_rfl) (by simp) ?_
  refine (AllReadyH.cons rfl (fun K hK => ?_) AllReadyH.nil)
  go_simp
  refine (HK.out _).mono ?_
  rintro e Xfrf4_17 ⟨rfl, hb⟩
  have RA_frf4_17_8 := Lib.hid (RA_frf4_12_7.out.below hb RA_frf4_12_7.out.lt)
  have RB_frf4_17_8 := Lib.hid (RB_frf4_12_7.out.below hb RB_frf4_12_7.out.lt)
  have B_frf4_17_8 := Lib.hid (B_frf4_12_7.out.trans (hb.mono B_frf4_12_7.out.size))
  clear hb RA_frf4_12_7 RB_frf4_12_7 B_frf4_12_7
  refine hK _ _ RA_frf4_17_8.out (fun _ => ?_)
  clear hK K
  try simp only [Act.put, List.setIfInBounds_toArray, List.set_cons_zero, List.set_cons_succ]
  refine wpAnyH_take (i := 17) (oi := ⟨some 26, _, _, _, _, _⟩) (v := ?vfrf4_18) rfl (by kernel_rfl) (by kernel_rfl) (by kernel_rfl) (fun _ _ _ h => h) (Or.inl ⟨by rfl, ?yfrf4_18⟩) RA_frf4_17_8.out ?rfrf4_18
  case yfrf4_18 =>
    rintro w' hSw
    go_simp
    try with_reducible rfl
  try simp only [Act.put, List.setIfInBounds_toArray, List.set_cons_zero, List.set_cons_succ]
  refine wpAnyH_take (i := 18) (oi := ⟨some 27, _, _, _, _, _⟩) (v := ?vfrf4_19) rfl (by kernel_rfl) (by kernel_rfl) (by kernel_rfl) (fun _ _ _ h => h) (Or.inl ⟨by rfl, ?yfrf4_19⟩) RA_frf4_17_8.out ?rfrf4_19
  case yfrf4_19 =>
    rintro w' hSw
    go_simp
    try with_reducible rfl
  try simp only [Act.put, List.setIfInBounds_toArray, List.set_cons_zero, List.set_cons_succ]
  refine wpAnyH_take (i := 19) (oi := ⟨some 28, _, _, _, _, _⟩) (v := ?vfrf4_20) rfl (by kernel_rfl) (by kernel_rfl) (by kernel_rfl) (fun _ _ _ h => h) (Or.inl ⟨by rfl, ?yfrf4_20⟩) RA_frf4_17_8.out ?rfrf4_20
  case yfrf4_20 =>
    rintro w' hSw
    go_simp
    try with_reducible rfl
  try simp only [Act.put, List.setIfInBounds_toArray, List.set_cons_zero, List.set_cons_succ]
  refine wpAnyH_done (by kernel_rfl) ?_ _
  go_wp2_with fail
  refine wp_region_held_drew (S := fun w' => Row w' (w.heap.size) 23 [.int .i64 x0, .int .i64 x1, .int .i64 y0, .int .i64 y1] ∧ Row w' (w.heap.size + 1) 23 [.int .i64 u0, .int .i64 u1, .int .i64 v0, .int .i64 v1]) (by kernel_rfl) ⟨RA_frf4_17_8.out.drew, RB_frf4_17_8.out.drew⟩ (fun hHeld => ?_)
  clear hHeld
  have RA_zfrf4_17_9 := Lib.hid RA_frf4_17_8.out.drew
  have RB_zfrf4_17_9 := Lib.hid RB_frf4_17_8.out.drew
  have B_zfrf4_17_9 := Lib.hid B_frf4_17_8.out.drew
  clear RA_frf4_17_8 RB_frf4_17_8 B_frf4_17_8
  generalize Xfrf4_17.drew = Dzfrf4_17_9 at RA_zfrf4_17_9 RB_zfrf4_17_9 B_zfrf4_17_9 ⊢
  refine wpAnyH_take (i := 0) (oi := ⟨some 29, _, _, _, _, _⟩) (v := ?vzfrf4_17_rzfrf4_17_9_1) rfl (by kernel_rfl) (by kernel_rfl) (by kernel_rfl) (fun _ _ _ h => h) (Or.inl ⟨by rfl, ?yzfrf4_17_rzfrf4_17_9_1⟩) ⟨RA_zfrf4_17_9.out, RB_zfrf4_17_9.out⟩ ?rzfrf4_17_rzfrf4_17_9_1
  case yzfrf4_17_rzfrf4_17_9_1 =>
    rintro w' hSw
    have k0 := (show Row w' _ _ _ from hSw.1).cell 0
    have k1 := (show Row w' _ _ _ from hSw.1).cell 1
    have k2 := (show Row w' _ _ _ from hSw.1).cell 2
    have k3 := (show Row w' _ _ _ from hSw.1).cell 3
    simp only [List.getElem?_cons_zero, List.getElem?_cons_succ] at k0 k1 k2 k3
    go_simp
    try with_reducible rfl
  try simp only [Act.put, List.setIfInBounds_toArray, List.set_cons_zero, List.set_cons_succ]
  refine wpAnyH_take (i := 1) (oi := ⟨some 30, _, _, _, _, _⟩) (v := ?vzfrf4_17_rzfrf4_17_9_2) rfl (by kernel_rfl) (by kernel_rfl) (by kernel_rfl) (fun _ _ _ h => h) (Or.inl ⟨by rfl, ?yzfrf4_17_rzfrf4_17_9_2⟩) ⟨RA_zfrf4_17_9.out, RB_zfrf4_17_9.out⟩ ?rzfrf4_17_rzfrf4_17_9_2
  case yzfrf4_17_rzfrf4_17_9_2 =>
    rintro w' hSw
    have k0 := (show Row w' _ _ _ from hSw.2).cell 0
    have k1 := (show Row w' _ _ _ from hSw.2).cell 1
    have k2 := (show Row w' _ _ _ from hSw.2).cell 2
    have k3 := (show Row w' _ _ _ from hSw.2).cell 3
    simp only [List.getElem?_cons_zero, List.getElem?_cons_succ] at k0 k1 k2 k3
    go_simp
    try with_reducible rfl
  try simp only [Act.put, List.setIfInBounds_toArray, List.set_cons_zero, List.set_cons_succ]
  refine wpAnyH_take (i := 3) (oi := ⟨some 32, _, _, _, _, _⟩) (v := ?vzfrf4_17_rzfrf4_17_9_3) rfl (by kernel_rfl) (by kernel_rfl) (by kernel_rfl) (fun _ _ _ h => h) (Or.inl ⟨by rfl, ?yzfrf4_17_rzfrf4_17_9_3⟩) ⟨RA_zfrf4_17_9.out, RB_zfrf4_17_9.out⟩ ?rzfrf4_17_rzfrf4_17_9_3
  case yzfrf4_17_rzfrf4_17_9_3 =>
    rintro w' hSw
    have k0 := (show Row w' _ _ _ from hSw.1).cell 0
    have k1 := (show Row w' _ _ _ from hSw.1).cell 1
    have k2 := (show Row w' _ _ _ from hSw.1).cell 2
    have k3 := (show Row w' _ _ _ from hSw.1).cell 3
    simp only [List.getElem?_cons_zero, List.getElem?_cons_succ] at k0 k1 k2 k3
    go_simp
    try with_reducible rfl
  try simp only [Act.put, List.setIfInBounds_toArray, List.set_cons_zero, List.set_cons_succ]
  refine wpAnyH_take (i := 4) (oi := ⟨some 33, _, _, _, _, _⟩) (v := ?vzfrf4_17_rzfrf4_17_9_4) rfl (by kernel_rfl) (by kernel_rfl) (by kernel_rfl) (fun _ _ _ h => h) (Or.inl ⟨by rfl, ?yzfrf4_17_rzfrf4_17_9_4⟩) ⟨RA_zfrf4_17_9.out, RB_zfrf4_17_9.out⟩ ?rzfrf4_17_rzfrf4_17_9_4
  case yzfrf4_17_rzfrf4_17_9_4 =>
    rintro w' hSw
    have k0 := (show Row w' _ _ _ from hSw.2).cell 0
    have k1 := (show Row w' _ _ _ from hSw.2).cell 1
    have k2 := (show Row w' _ _ _ from hSw.2).cell 2
    have k3 := (show Row w' _ _ _ from hSw.2).cell 3
    simp only [List.getElem?_cons_zero, List.getElem?_cons_succ] at k0 k1 k2 k3
    go_simp
    try with_reducible rfl
  try simp only [Act.put, List.setIfInBounds_toArray, List.set_cons_zero, List.set_cons_succ]
  refine wpAnyH_ready (rs := [2]) (by kernel_rfl) (by simp) ?_
  refine (AllReadyH.cons rfl (fun K hK => ?_) AllReadyH.nil)
  go_simp
  refine (HM.out _).mono ?_
  rintro e Xzfrf4_17_rzfrf4_17_9_5 ⟨rfl, hb⟩
  have RA_zfrf4_17_rzfrf4_17_9_5_10 := Lib.hid (RA_zfrf4_17_9.out.below hb RA_zfrf4_17_9.out.lt)
  have RB_zfrf4_17_rzfrf4_17_9_5_10 := Lib.hid (RB_zfrf4_17_9.out.below hb RB_zfrf4_17_9.out.lt)
  have B_zfrf4_17_rzfrf4_17_9_5_10 := Lib.hid (B_zfrf4_17_9.out.trans (hb.mono B_zfrf4_17_9.out.size))
  clear hb RA_zfrf4_17_9 RB_zfrf4_17_9 B_zfrf4_17_9
  refine hK _ _ ⟨RA_zfrf4_17_rzfrf4_17_9_5_10.out, RB_zfrf4_17_rzfrf4_17_9_5_10.out⟩ (fun _ => ?_)
  clear hK K
  try simp only [Act.put, List.setIfInBounds_toArray, List.set_cons_zero, List.set_cons_succ]
  refine wpAnyH_ready (rs := [5]) (by kernel_rfl) (by simp) ?_
  refine (AllReadyH.cons rfl (fun K hK => ?_) AllReadyH.nil)
  go_simp
  refine (HMR.out _).mono ?_
  rintro e Xzfrf4_17_rzfrf4_17_9_6 ⟨rfl, hb⟩
  have RA_zfrf4_17_rzfrf4_17_9_6_11 := Lib.hid (RA_zfrf4_17_rzfrf4_17_9_5_10.out.below hb RA_zfrf4_17_rzfrf4_17_9_5_10.out.lt)
  have RB_zfrf4_17_rzfrf4_17_9_6_11 := Lib.hid (RB_zfrf4_17_rzfrf4_17_9_5_10.out.below hb RB_zfrf4_17_rzfrf4_17_9_5_10.out.lt)
  have B_zfrf4_17_rzfrf4_17_9_6_11 := Lib.hid (B_zfrf4_17_rzfrf4_17_9_5_10.out.trans (hb.mono B_zfrf4_17_rzfrf4_17_9_5_10.out.size))
  clear hb RA_zfrf4_17_rzfrf4_17_9_5_10 RB_zfrf4_17_rzfrf4_17_9_5_10 B_zfrf4_17_rzfrf4_17_9_5_10
  refine hK _ _ ⟨RA_zfrf4_17_rzfrf4_17_9_6_11.out, RB_zfrf4_17_rzfrf4_17_9_6_11.out⟩ (fun _ => ?_)
  clear hK K
  try simp only [Act.put, List.setIfInBounds_toArray, List.set_cons_zero, List.set_cons_succ]
  refine wpAnyH_take (i := 6) (oi := ⟨some 35, _, _, _, _, _⟩) (v := ?vzfrf4_17_rzfrf4_17_9_7) rfl (by kernel_rfl) (by kernel_rfl) (by kernel_rfl) (fun _ _ _ h => h) (Or.inl ⟨by rfl, ?yzfrf4_17_rzfrf4_17_9_7⟩) ⟨RA_zfrf4_17_rzfrf4_17_9_6_11.out, RB_zfrf4_17_rzfrf4_17_9_6_11.out⟩ ?rzfrf4_17_rzfrf4_17_9_7
  case yzfrf4_17_rzfrf4_17_9_7 =>
    rintro w' hSw
    go_simp
    try with_reducible rfl
  try simp only [Act.put, List.setIfInBounds_toArray, List.set_cons_zero, List.set_cons_succ]
  refine wpAnyH_take (i := 7) (oi := ⟨some 36, _, _, _, _, _⟩) (v := ?vzfrf4_17_rzfrf4_17_9_8) rfl (by kernel_rfl) (by kernel_rfl) (by kernel_rfl) (fun _ _ _ h => h) (Or.inl ⟨by rfl, ?yzfrf4_17_rzfrf4_17_9_8⟩) ⟨RA_zfrf4_17_rzfrf4_17_9_6_11.out, RB_zfrf4_17_rzfrf4_17_9_6_11.out⟩ ?rzfrf4_17_rzfrf4_17_9_8
  case yzfrf4_17_rzfrf4_17_9_8 =>
    rintro w' hSw
    go_simp
    try with_reducible rfl
  try simp only [Act.put, List.setIfInBounds_toArray, List.set_cons_zero, List.set_cons_succ]
  refine wpAnyH_take (i := 8) (oi := ⟨some 37, _, _, _, _, _⟩) (v := ?vzfrf4_17_rzfrf4_17_9_9) rfl (by kernel_rfl) (by kernel_rfl) (by kernel_rfl) (fun _ _ _ h => h) (Or.inl ⟨by rfl, ?yzfrf4_17_rzfrf4_17_9_9⟩) ⟨RA_zfrf4_17_rzfrf4_17_9_6_11.out, RB_zfrf4_17_rzfrf4_17_9_6_11.out⟩ ?rzfrf4_17_rzfrf4_17_9_9
  case yzfrf4_17_rzfrf4_17_9_9 =>
    rintro w' hSw
    have k0 := (show Row w' _ _ _ from hSw.1).cell 0
    have k1 := (show Row w' _ _ _ from hSw.1).cell 1
    have k2 := (show Row w' _ _ _ from hSw.1).cell 2
    have k3 := (show Row w' _ _ _ from hSw.1).cell 3
    simp only [List.getElem?_cons_zero, List.getElem?_cons_succ] at k0 k1 k2 k3
    go_simp
    try with_reducible rfl
  try simp only [Act.put, List.setIfInBounds_toArray, List.set_cons_zero, List.set_cons_succ]
  refine wpAnyH_take (i := 9) (oi := ⟨some 38, _, _, _, _, _⟩) (v := ?vzfrf4_17_rzfrf4_17_9_10) rfl (by kernel_rfl) (by kernel_rfl) (by kernel_rfl) (fun _ _ _ h => h) (Or.inl ⟨by rfl, ?yzfrf4_17_rzfrf4_17_9_10⟩) ⟨RA_zfrf4_17_rzfrf4_17_9_6_11.out, RB_zfrf4_17_rzfrf4_17_9_6_11.out⟩ ?rzfrf4_17_rzfrf4_17_9_10
  case yzfrf4_17_rzfrf4_17_9_10 =>
    rintro w' hSw
    have k0 := (show Row w' _ _ _ from hSw.2).cell 0
    have k1 := (show Row w' _ _ _ from hSw.2).cell 1
    have k2 := (show Row w' _ _ _ from hSw.2).cell 2
    have k3 := (show Row w' _ _ _ from hSw.2).cell 3
    simp only [List.getElem?_cons_zero, List.getElem?_cons_succ] at k0 k1 k2 k3
    go_simp
    try with_reducible rfl
  try simp only [Act.put, List.setIfInBounds_toArray, List.set_cons_zero, List.set_cons_succ]
  refine wpAnyH_take (i := 11) (oi := ⟨some 40, _, _, _, _, _⟩) (v := ?vzfrf4_17_rzfrf4_17_9_11) rfl (by kernel_rfl) (by kernel_rfl) (by kernel_rfl) (fun _ _ _ h => h) (Or.inl ⟨by rfl, ?yzfrf4_17_rzfrf4_17_9_11⟩) ⟨RA_zfrf4_17_rzfrf4_17_9_6_11.out, RB_zfrf4_17_rzfrf4_17_9_6_11.out⟩ ?rzfrf4_17_rzfrf4_17_9_11
  case yzfrf4_17_rzfrf4_17_9_11 =>
    rintro w' hSw
    have k0 := (show Row w' _ _ _ from hSw.1).cell 0
    have k1 := (show Row w' _ _ _ from hSw.1).cell 1
    have k2 := (show Row w' _ _ _ from hSw.1).cell 2
    have k3 := (show Row w' _ _ _ from hSw.1).cell 3
    simp only [List.getElem?_cons_zero, List.getElem?_cons_succ] at k0 k1 k2 k3
    go_simp
    try with_reducible rfl
  try simp only [Act.put, List.setIfInBounds_toArray, List.set_cons_zero, List.set_cons_succ]
  refine wpAnyH_take (i := 12) (oi := ⟨some 41, _, _, _, _, _⟩) (v := ?vzfrf4_17_rzfrf4_17_9_12) rfl (by kernel_rfl) (by kernel_rfl) (by kernel_rfl) (fun _ _ _ h => h) (Or.inl ⟨by rfl, ?yzfrf4_17_rzfrf4_17_9_12⟩) ⟨RA_zfrf4_17_rzfrf4_17_9_6_11.out, RB_zfrf4_17_rzfrf4_17_9_6_11.out⟩ ?rzfrf4_17_rzfrf4_17_9_12
  case yzfrf4_17_rzfrf4_17_9_12 =>
    rintro w' hSw
    have k0 := (show Row w' _ _ _ from hSw.2).cell 0
    have k1 := (show Row w' _ _ _ from hSw.2).cell 1
    have k2 := (show Row w' _ _ _ from hSw.2).cell 2
    have k3 := (show Row w' _ _ _ from hSw.2).cell 3
    simp only [List.getElem?_cons_zero, List.getElem?_cons_succ] at k0 k1 k2 k3
    go_simp
    try with_reducible rfl
  try simp only [Act.put, List.setIfInBounds_toArray, List.set_cons_zero, List.set_cons_succ]
  refine wpAnyH_ready (rs := [10]) (by kernel_rfl) (by simp) ?_
  refine (AllReadyH.cons rfl (fun K hK => ?_) AllReadyH.nil)
  go_simp
  refine (HC.out _).mono ?_
  rintro e Xzfrf4_17_rzfrf4_17_9_13 ⟨rfl, hb⟩
  have RA_zfrf4_17_rzfrf4_17_9_13_12 := Lib.hid (RA_zfrf4_17_rzfrf4_17_9_6_11.out.below hb RA_zfrf4_17_rzfrf4_17_9_6_11.out.lt)
  have RB_zfrf4_17_rzfrf4_17_9_13_12 := Lib.hid (RB_zfrf4_17_rzfrf4_17_9_6_11.out.below hb RB_zfrf4_17_rzfrf4_17_9_6_11.out.lt)
  have B_zfrf4_17_rzfrf4_17_9_13_12 := Lib.hid (B_zfrf4_17_rzfrf4_17_9_6_11.out.trans (hb.mono B_zfrf4_17_rzfrf4_17_9_6_11.out.size))
  clear hb RA_zfrf4_17_rzfrf4_17_9_6_11 RB_zfrf4_17_rzfrf4_17_9_6_11 B_zfrf4_17_rzfrf4_17_9_6_11
  refine hK _ _ ⟨RA_zfrf4_17_rzfrf4_17_9_13_12.out, RB_zfrf4_17_rzfrf4_17_9_13_12.out⟩ (fun _ => ?_)
  clear hK K
  try simp only [Act.put, List.setIfInBounds_toArray, List.set_cons_zero, List.set_cons_succ]
  refine wpAnyH_ready (rs := [13]) (by kernel_rfl) (by simp) ?_
  refine (AllReadyH.cons rfl (fun K hK => ?_) AllReadyH.nil)
  go_simp
  refine (HCR.out _).mono ?_
  rintro e Xzfrf4_17_rzfrf4_17_9_14 ⟨rfl, hb⟩
  have RA_zfrf4_17_rzfrf4_17_9_14_13 := Lib.hid (RA_zfrf4_17_rzfrf4_17_9_13_12.out.below hb RA_zfrf4_17_rzfrf4_17_9_13_12.out.lt)
  have RB_zfrf4_17_rzfrf4_17_9_14_13 := Lib.hid (RB_zfrf4_17_rzfrf4_17_9_13_12.out.below hb RB_zfrf4_17_rzfrf4_17_9_13_12.out.lt)
  have B_zfrf4_17_rzfrf4_17_9_14_13 := Lib.hid (B_zfrf4_17_rzfrf4_17_9_13_12.out.trans (hb.mono B_zfrf4_17_rzfrf4_17_9_13_12.out.size))
  clear hb RA_zfrf4_17_rzfrf4_17_9_13_12 RB_zfrf4_17_rzfrf4_17_9_13_12 B_zfrf4_17_rzfrf4_17_9_13_12
  refine hK _ _ ⟨RA_zfrf4_17_rzfrf4_17_9_14_13.out, RB_zfrf4_17_rzfrf4_17_9_14_13.out⟩ (fun _ => ?_)
  clear hK K
  try simp only [Act.put, List.setIfInBounds_toArray, List.set_cons_zero, List.set_cons_succ]
  refine wpAnyH_take (i := 14) (oi := ⟨some 43, _, _, _, _, _⟩) (v := ?vzfrf4_17_rzfrf4_17_9_15) rfl (by kernel_rfl) (by kernel_rfl) (by kernel_rfl) (fun _ _ _ h => h) (Or.inl ⟨by rfl, ?yzfrf4_17_rzfrf4_17_9_15⟩) ⟨RA_zfrf4_17_rzfrf4_17_9_14_13.out, RB_zfrf4_17_rzfrf4_17_9_14_13.out⟩ ?rzfrf4_17_rzfrf4_17_9_15
  case yzfrf4_17_rzfrf4_17_9_15 =>
    rintro w' hSw
    go_simp
    try with_reducible rfl
  try simp only [Act.put, List.setIfInBounds_toArray, List.set_cons_zero, List.set_cons_succ]
  refine wpAnyH_take (i := 15) (oi := ⟨some 44, _, _, _, _, _⟩) (v := ?vzfrf4_17_rzfrf4_17_9_16) rfl (by kernel_rfl) (by kernel_rfl) (by kernel_rfl) (fun _ _ _ h => h) (Or.inl ⟨by rfl, ?yzfrf4_17_rzfrf4_17_9_16⟩) ⟨RA_zfrf4_17_rzfrf4_17_9_14_13.out, RB_zfrf4_17_rzfrf4_17_9_14_13.out⟩ ?rzfrf4_17_rzfrf4_17_9_16
  case yzfrf4_17_rzfrf4_17_9_16 =>
    rintro w' hSw
    go_simp
    try with_reducible rfl
  try simp only [Act.put, List.setIfInBounds_toArray, List.set_cons_zero, List.set_cons_succ]
  refine wpAnyH_take (i := 16) (oi := ⟨some 45, _, _, _, _, _⟩) (v := ?vzfrf4_17_rzfrf4_17_9_17) rfl (by kernel_rfl) (by kernel_rfl) (by kernel_rfl) (fun _ _ _ h => h) (Or.inl ⟨by rfl, ?yzfrf4_17_rzfrf4_17_9_17⟩) ⟨RA_zfrf4_17_rzfrf4_17_9_14_13.out, RB_zfrf4_17_rzfrf4_17_9_14_13.out⟩ ?rzfrf4_17_rzfrf4_17_9_17
  case yzfrf4_17_rzfrf4_17_9_17 =>
    rintro w' hSw
    go_simp
    try with_reducible rfl
  try simp only [Act.put, List.setIfInBounds_toArray, List.set_cons_zero, List.set_cons_succ]
  refine wpAnyH_take (i := 17) (oi := ⟨some 46, _, _, _, _, _⟩) (v := ?vzfrf4_17_rzfrf4_17_9_18) rfl (by kernel_rfl) (by kernel_rfl) (by kernel_rfl) (fun _ _ _ h => h) (Or.inl ⟨by rfl, ?yzfrf4_17_rzfrf4_17_9_18⟩) ⟨RA_zfrf4_17_rzfrf4_17_9_14_13.out, RB_zfrf4_17_rzfrf4_17_9_14_13.out⟩ ?rzfrf4_17_rzfrf4_17_9_18
  case yzfrf4_17_rzfrf4_17_9_18 =>
    rintro w' hSw
    have k0 := (show Row w' _ _ _ from hSw.1).cell 0
    have k1 := (show Row w' _ _ _ from hSw.1).cell 1
    have k2 := (show Row w' _ _ _ from hSw.1).cell 2
    have k3 := (show Row w' _ _ _ from hSw.1).cell 3
    simp only [List.getElem?_cons_zero, List.getElem?_cons_succ] at k0 k1 k2 k3
    go_simp
    try with_reducible rfl
  try simp only [Act.put, List.setIfInBounds_toArray, List.set_cons_zero, List.set_cons_succ]
  refine wpAnyH_take (i := 18) (oi := ⟨some 47, _, _, _, _, _⟩) (v := ?vzfrf4_17_rzfrf4_17_9_19) rfl (by kernel_rfl) (by kernel_rfl) (by kernel_rfl) (fun _ _ _ h => h) (Or.inl ⟨by rfl, ?yzfrf4_17_rzfrf4_17_9_19⟩) ⟨RA_zfrf4_17_rzfrf4_17_9_14_13.out, RB_zfrf4_17_rzfrf4_17_9_14_13.out⟩ ?rzfrf4_17_rzfrf4_17_9_19
  case yzfrf4_17_rzfrf4_17_9_19 =>
    rintro w' hSw
    have k0 := (show Row w' _ _ _ from hSw.2).cell 0
    have k1 := (show Row w' _ _ _ from hSw.2).cell 1
    have k2 := (show Row w' _ _ _ from hSw.2).cell 2
    have k3 := (show Row w' _ _ _ from hSw.2).cell 3
    simp only [List.getElem?_cons_zero, List.getElem?_cons_succ] at k0 k1 k2 k3
    go_simp
    try with_reducible rfl
  try simp only [Act.put, List.setIfInBounds_toArray, List.set_cons_zero, List.set_cons_succ]
  refine wpAnyH_take (i := 20) (oi := ⟨some 49, _, _, _, _, _⟩) (v := ?vzfrf4_17_rzfrf4_17_9_20) rfl (by kernel_rfl) (by kernel_rfl) (by kernel_rfl) (fun _ _ _ h => h) (Or.inl ⟨by rfl, ?yzfrf4_17_rzfrf4_17_9_20⟩) ⟨RA_zfrf4_17_rzfrf4_17_9_14_13.out, RB_zfrf4_17_rzfrf4_17_9_14_13.out⟩ ?rzfrf4_17_rzfrf4_17_9_20
  case yzfrf4_17_rzfrf4_17_9_20 =>
    rintro w' hSw
    have k0 := (show Row w' _ _ _ from hSw.1).cell 0
    have k1 := (show Row w' _ _ _ from hSw.1).cell 1
    have k2 := (show Row w' _ _ _ from hSw.1).cell 2
    have k3 := (show Row w' _ _ _ from hSw.1).cell 3
    simp only [List.getElem?_cons_zero, List.getElem?_cons_succ] at k0 k1 k2 k3
    go_simp
    try with_reducible rfl
  try simp only [Act.put, List.setIfInBounds_toArray, List.set_cons_zero, List.set_cons_succ]
  refine wpAnyH_take (i := 21) (oi := ⟨some 50, _, _, _, _, _⟩) (v := ?vzfrf4_17_rzfrf4_17_9_21) rfl (by kernel_rfl) (by kernel_rfl) (by kernel_rfl) (fun _ _ _ h => h) (Or.inl ⟨by rfl, ?yzfrf4_17_rzfrf4_17_9_21⟩) ⟨RA_zfrf4_17_rzfrf4_17_9_14_13.out, RB_zfrf4_17_rzfrf4_17_9_14_13.out⟩ ?rzfrf4_17_rzfrf4_17_9_21
  case yzfrf4_17_rzfrf4_17_9_21 =>
    rintro w' hSw
    have k0 := (show Row w' _ _ _ from hSw.2).cell 0
    have k1 := (show Row w' _ _ _ from hSw.2).cell 1
    have k2 := (show Row w' _ _ _ from hSw.2).cell 2
    have k3 := (show Row w' _ _ _ from hSw.2).cell 3
    simp only [List.getElem?_cons_zero, List.getElem?_cons_succ] at k0 k1 k2 k3
    go_simp
    try with_reducible rfl
  try simp only [Act.put, List.setIfInBounds_toArray, List.set_cons_zero, List.set_cons_succ]
  refine wpAnyH_ready (rs := [19]) (by kernel_rfl) (by simp) ?_
  refine (AllReadyH.cons rfl (fun K hK => ?_) AllReadyH.nil)
  go_simp
  refine (HU.out _).mono ?_
  rintro e Xzfrf4_17_rzfrf4_17_9_22 ⟨rfl, hb⟩
  have RA_zfrf4_17_rzfrf4_17_9_22_14 := Lib.hid (RA_zfrf4_17_rzfrf4_17_9_14_13.out.below hb RA_zfrf4_17_rzfrf4_17_9_14_13.out.lt)
  have RB_zfrf4_17_rzfrf4_17_9_22_14 := Lib.hid (RB_zfrf4_17_rzfrf4_17_9_14_13.out.below hb RB_zfrf4_17_rzfrf4_17_9_14_13.out.lt)
  have B_zfrf4_17_rzfrf4_17_9_22_14 := Lib.hid (B_zfrf4_17_rzfrf4_17_9_14_13.out.trans (hb.mono B_zfrf4_17_rzfrf4_17_9_14_13.out.size))
  clear hb RA_zfrf4_17_rzfrf4_17_9_14_13 RB_zfrf4_17_rzfrf4_17_9_14_13 B_zfrf4_17_rzfrf4_17_9_14_13
  refine hK _ _ ⟨RA_zfrf4_17_rzfrf4_17_9_22_14.out, RB_zfrf4_17_rzfrf4_17_9_22_14.out⟩ (fun _ => ?_)
  clear hK K
  try simp only [Act.put, List.setIfInBounds_toArray, List.set_cons_zero, List.set_cons_succ]
  refine wpAnyH_ready (rs := [22]) (by kernel_rfl) (by simp) ?_
  refine (AllReadyH.cons rfl (fun K hK => ?_) AllReadyH.nil)
  go_simp
  refine (HUR.out _).mono ?_
  rintro e Xzfrf4_17_rzfrf4_17_9_23 ⟨rfl, hb⟩
  have RA_zfrf4_17_rzfrf4_17_9_23_15 := Lib.hid (RA_zfrf4_17_rzfrf4_17_9_22_14.out.below hb RA_zfrf4_17_rzfrf4_17_9_22_14.out.lt)
  have RB_zfrf4_17_rzfrf4_17_9_23_15 := Lib.hid (RB_zfrf4_17_rzfrf4_17_9_22_14.out.below hb RB_zfrf4_17_rzfrf4_17_9_22_14.out.lt)
  have B_zfrf4_17_rzfrf4_17_9_23_15 := Lib.hid (B_zfrf4_17_rzfrf4_17_9_22_14.out.trans (hb.mono B_zfrf4_17_rzfrf4_17_9_22_14.out.size))
  clear hb RA_zfrf4_17_rzfrf4_17_9_22_14 RB_zfrf4_17_rzfrf4_17_9_22_14 B_zfrf4_17_rzfrf4_17_9_22_14
  refine hK _ _ ⟨RA_zfrf4_17_rzfrf4_17_9_23_15.out, RB_zfrf4_17_rzfrf4_17_9_23_15.out⟩ (fun _ => ?_)
  clear hK K
  try simp only [Act.put, List.setIfInBounds_toArray, List.set_cons_zero, List.set_cons_succ]
  refine wpAnyH_take (i := 23) (oi := ⟨some 52, _, _, _, _, _⟩) (v := ?vzfrf4_17_rzfrf4_17_9_24) rfl (by kernel_rfl) (by kernel_rfl) (by kernel_rfl) (fun _ _ _ h => h) (Or.inl ⟨by rfl, ?yzfrf4_17_rzfrf4_17_9_24⟩) ⟨RA_zfrf4_17_rzfrf4_17_9_23_15.out, RB_zfrf4_17_rzfrf4_17_9_23_15.out⟩ ?rzfrf4_17_rzfrf4_17_9_24
  case yzfrf4_17_rzfrf4_17_9_24 =>
    rintro w' hSw
    go_simp
    try with_reducible rfl
  try simp only [Act.put, List.setIfInBounds_toArray, List.set_cons_zero, List.set_cons_succ]
  refine wpAnyH_take (i := 24) (oi := ⟨some 53, _, _, _, _, _⟩) (v := ?vzfrf4_17_rzfrf4_17_9_25) rfl (by kernel_rfl) (by kernel_rfl) (by kernel_rfl) (fun _ _ _ h => h) (Or.inl ⟨by rfl, ?yzfrf4_17_rzfrf4_17_9_25⟩) ⟨RA_zfrf4_17_rzfrf4_17_9_23_15.out, RB_zfrf4_17_rzfrf4_17_9_23_15.out⟩ ?rzfrf4_17_rzfrf4_17_9_25
  case yzfrf4_17_rzfrf4_17_9_25 =>
    rintro w' hSw
    go_simp
    try with_reducible rfl
  try simp only [Act.put, List.setIfInBounds_toArray, List.set_cons_zero, List.set_cons_succ]
  refine wpAnyH_take (i := 25) (oi := ⟨some 6, _, _, _, _, _⟩) (v := ?vzfrf4_17_rzfrf4_17_9_26) rfl (by kernel_rfl) (by kernel_rfl) (by kernel_rfl) (fun _ _ _ h => h) (Or.inl ⟨by rfl, ?yzfrf4_17_rzfrf4_17_9_26⟩) ⟨RA_zfrf4_17_rzfrf4_17_9_23_15.out, RB_zfrf4_17_rzfrf4_17_9_23_15.out⟩ ?rzfrf4_17_rzfrf4_17_9_26
  case yzfrf4_17_rzfrf4_17_9_26 =>
    rintro w' hSw
    go_simp
    try with_reducible rfl
  try simp only [Act.put, List.setIfInBounds_toArray, List.set_cons_zero, List.set_cons_succ]
  refine wpAnyH_done (by kernel_rfl) ?_ _
  go_wp2
  go_ret
  exact ⟨rfl, B_zfrf4_17_rzfrf4_17_9_23_15.out⟩

theorem walk (c x0 x1 y0 y1 u0 u1 v0 v1 : Int) (w : World) : Calls Try.prog 3 #[.int .i64 c, KV x0 x1 y0 y1, KV u0 u1 v0 v1] w fun e w' => e = .returned (.bool true) ∧ Below w.heap.size w w' := by
  cases hr : rightB c x0 x1 y0 y1
  · exact walk_f c x0 x1 y0 y1 u0 u1 v0 v1 w hr
  · exact walk_t c x0 x1 y0 y1 u0 u1 v0 v1 w hr

theorem resT_KeyTells : Try.f3.resultTypes = #[4] := by kernel_rfl
set_option maxRecDepth 100000 in
theorem lifted_KeyTells (os : Os) (started : os.Started) (H : Type) (enc : TypeId × Value → H) :
    ReturnsInHanded {} Try.checked os 3 .any (Rows.keyTellsSpec.pre6 enc Try.prog Try.f3 Rows.keyTellsRow.domain false) (Rows.keyTellsSpec.post enc Try.prog Try.f3 false true false false) := by
  refine Lift.law_lift (C := Try.checked) (s := Rows.keyTellsSpec) (tb := 4) own laidOut started (by kernel_rfl) Try.func3
    (ChangeSpec.witness6 (enc := enc) (C := Try.checked) false ⟨#[], #[.int .i64 0, .agg #[.int .i64 0, .int .i64 0, .int .i64 0, .int .i64 0], .agg #[.int .i64 0, .int .i64 0, .int .i64 0, .int .i64 0]], []⟩ 8 (by kernel_rfl) (by kernel_rfl) (by kernel_rfl) (by kernel_rfl))
    rfl resT_KeyTells Try.underlying4 (by
      have hr : ∀ t ∈ ([3, 23, 23] : List TypeId), Try.prog.readableRec t = true ∧ t < Try.prog.types.size := by
        intro t ht
        simp only [List.mem_cons, List.not_mem_nil, or_false] at ht
        rcases ht with rfl | rfl | rfl <;> exact ⟨by kernel_rfl, of_decide_eq_true (by kernel_rfl)⟩
      intro t ht
      exact hr t (by
        have ht' : t ∈ Try.f3.params.toList := ht
        rw [Try.params3] at ht'
        exact ht')) ?_
  intro W base args ds p hval0 hA0 hsz0
  have hval : ∀ (j : Nat) t v, Try.f3.params[j]? = some t → args[j]? = some v → Value.okWide Try.prog W .any base t v := hval0
  have hA : DataW.TrodAll enc Try.prog W 0 (fun _ => true) true Try.f3.params.toList args.toList ds p := hA0
  have hsz : (DataW.weightsEach Try.prog Try.f3.params.toList ds).all (· ≤ reachBytes) = true := hsz0
  clear hval0 hA0 hsz0
  rw [Try.params3] at hA hval hsz
  obtain ⟨v0, vs0, d0, ds0, p0, q0, hargs, rfl, rfl, h0, r0⟩ := trodAll_cons hA
  obtain ⟨v1, vs1, d1, ds1, p1, q1, rfl, rfl, rfl, h1, r1⟩ := trodAll_cons r0
  obtain ⟨v2, vs2, d2, ds2, p2, q2, rfl, rfl, rfl, h2, r2⟩ := trodAll_cons r1
  obtain ⟨rfl, rfl, rfl⟩ := trodAll_nil r2
  obtain rfl : args = #[v0, v1, v2] := by cases args; simp_all
  obtain ⟨a0, rfl, rfl, rfl, w0⟩ := open_int Try.underlying3 (hval 0 3 v0 rfl rfl) h0
  obtain ⟨k1a, k1b, k1c, k1d, ⟨m1a, n1a⟩, ⟨m1b, n1b⟩, ⟨m1c, n1c⟩, ⟨m1d, n1d⟩, rfl⟩ := open_key (hval 1 23 v1 rfl rfl) h1
  obtain ⟨k2a, k2b, k2c, k2d, ⟨m2a, n2a⟩, ⟨m2b, n2b⟩, ⟨m2c, n2c⟩, ⟨m2d, n2d⟩, rfl⟩ := open_key (hval 2 23 v2 rfl rfl) h2
  exact ⟨rfl, walk a0 k1a k1b k1c k1d k2a k2b k2c k2d W⟩

theorem proved_KeyTells : Rows.KeyTellsSaid :=
  OpenClaim.holds_of_wide 3 Try.f3 rfl rfl rfl rfl rfl rfl rfl ⟨rfl, rfl, rfl, rfl, rfl⟩ rfl rfl rfl rfl rfl (by kernel_rfl) Try.func3 (by kernel_rfl)
    (of_decide_eq_true (by kernel_rfl)) (by unfold Func.isWrapper; first | (rw [if_pos (by decide +kernel)]; kernel_rfl) | (rw [if_neg (by decide +kernel)]; exact ⟨rfl, rfl⟩))
    (fun os started H enc _ => lifted_KeyTells os started H enc)
end Go.Proofs.Ytbmfijcckdkmdaa.KeyTells
