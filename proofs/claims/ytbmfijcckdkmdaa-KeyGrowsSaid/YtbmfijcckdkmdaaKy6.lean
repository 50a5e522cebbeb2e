/-
  Keys: how much boxes grow.
-/
import Derived.Test.YtbmfijcckdkmdaaKy4
import Derived.Deep.CutRange
import Derived.Test.YtbmfijcckdkmdaaWi2
import Derived.LoopTactic
import Derived.Deep.RegionHeld
import Derived.Deep.Cut
import Derived.WalkLawsBesides
namespace Go.Proofs.Ytbmfijcckdkmdaa.Ky
set_option maxRecDepth 100000
open Go.RowKit Go.Proofs.Ytbmfijcckdkmdaa.Wd Go.Proofs.Ytbmfijcckdkmdaa.Wi Go.Proofs.Ytbmfijcckdkmdaa.Lift


/-- as NewR, and a value in another slot -/
def NewR2 (w0 : World) (T : TypeId) (cs : List Value) (v : Value) (t u : Value) (wx : World) : Prop := u = v ∧ ∃ g, t = .pointer (some ⟨g, 0, none⟩) ∧ Row wx g T cs ∧ w0.heap.size ≤ g ∧ Below w0.heap.size w0 wx
theorem Sub_le {a b ah al bh bl h l : Nat} (HA : Wn a ah al) (HB : Wn b bh bl) (hb : b ≤ a) (HD : Wn (a - b) h l) (w : World) : Calls Try.prog 26 #[.agg #[.int .u64 (ah : Int), .int .u64 (al : Int)], .agg #[.int .u64 (bh : Int), .int .u64 (bl : Int)]] w fun e w' => e = .returned (.tuple #[.agg #[.int .u64 (h : Int), .int .u64 (l : Int)], .bool true]) ∧ Below w.heap.size w w' := by
  obtain ⟨c, h', l', hc, hw, hS⟩ := Sub_is HA HB
  obtain ⟨rfl, rfl⟩ := HD.unique (hw hb)
  have := hS w
  rw [show decide (c = 1) = true from decide_eq_true (hc.2 hb)] at this
  exact this
theorem wid_le (x0 x1 u0 u1 : Int) : widM x0 x1 ≤ widM (minI x0 u0) (maxI x1 u1) := by
  unfold widM minI maxI
  repeat' split
  all_goals omega
theorem area_le (x0 x1 y0 y1 u0 u1 v0 v1 : Int) : widM x0 x1 * widM y0 y1 ≤ widM (minI x0 u0) (maxI x1 u1) * widM (minI y0 v0) (maxI y1 v1) := Nat.mul_le_mul (wid_le _ _ _ _) (wid_le _ _ _ _)
theorem margin_le (x0 x1 y0 y1 u0 u1 v0 v1 : Int) : widM x0 x1 + widM y0 y1 ≤ widM (minI x0 u0) (maxI x1 u1) + widM (minI y0 v0) (maxI y1 v1) := Nat.add_le_add (wid_le _ _ _ _) (wid_le _ _ _ _)
theorem union_ok {x0 x1 y0 y1 u0 u1 v0 v1 : Int} (kx : KOk x0 x1 y0 y1) (ku : KOk u0 u1 v0 v1) : KOk (minI x0 u0) (maxI x1 u1) (minI y0 v0) (maxI y1 v1) := by
  obtain ⟨a1, a2, a3, a4, a5, a6, a7, a8⟩ := kx
  obtain ⟨b1, b2, b3, b4, b5, b6, b7, b8⟩ := ku
  unfold minI maxI
  constructor <;> split <;> omega

set_option maxHeartbeats 1000000 in
theorem Grows_no (x0 x1 y0 y1 u0 u1 v0 v1 : Int) (hr : (boxB x0 x1 y0 y1 && boxB u0 u1 v0 v1) = false) (w : World) :
    Calls Try.prog 17 #[KV x0 x1 y0 y1, KV u0 u1 v0 v1] w fun e w' => e = .returned (.tuple #[.agg #[.int .u64 0, .int .u64 0], .agg #[.int .u64 0, .int .u64 0]]) ∧ Below w.heap.size w w' := by
  have HX := Lib.hid (boxes2 x0 x1 y0 y1 u0 u1 v0 v1)
  rw [hr] at HX
  clear hr
  go_enter Try.func17, Try.ntmps17
  go_upto_region 1 with fail
  have RA_1 := Lib.hid ((((row_last w (w.heap.size) 23 [.int .i64 x0, .int .i64 x1, .int .i64 y0, .int .i64 y1] (by simp)).alloc (.cells #[.int .i64 u0, .int .i64 u1, .int .i64 v0, .int .i64 v1] 23)).alloc (.cells #[.int .u64 0, .int .u64 0] 33)).alloc (.cells #[.int .u64 0, .int .u64 0] 33))
  have RB_1 := Lib.hid (((row_last (w.alloc (.cells #[.int .i64 x0, .int .i64 x1, .int .i64 y0, .int .i64 y1] 23)) (w.heap.size + 1) 23 [.int .i64 u0, .int .i64 u1, .int .i64 v0, .int .i64 v1] (by simp)).alloc (.cells #[.int .u64 0, .int .u64 0] 33)).alloc (.cells #[.int .u64 0, .int .u64 0] 33))
  have R1_1 := Lib.hid ((row_last ((w.alloc (.cells #[.int .i64 x0, .int .i64 x1, .int .i64 y0, .int .i64 y1] 23)).alloc (.cells #[.int .i64 u0, .int .i64 u1, .int .i64 v0, .int .i64 v1] 23)) (w.heap.size + 1 + 1) 33 [.int .u64 0, .int .u64 0] (by simp)).alloc (.cells #[.int .u64 0, .int .u64 0] 33))
  have R2_1 := Lib.hid (row_last (((w.alloc (.cells #[.int .i64 x0, .int .i64 x1, .int .i64 y0, .int .i64 y1] 23)).alloc (.cells #[.int .i64 u0, .int .i64 u1, .int .i64 v0, .int .i64 v1] 23)).alloc (.cells #[.int .u64 0, .int .u64 0] 33)) (w.heap.size + 1 + 1 + 1) 33 [.int .u64 0, .int .u64 0] (by simp))
  have B_1 := Lib.hid (((((Below.refl w.heap.size w).alloc (Nat.le_refl _) (.cells #[.int .i64 x0, .int .i64 x1, .int .i64 y0, .int .i64 y1] 23)).alloc (by have := Nat.le_refl w.heap.size; simp <;> omega) (.cells #[.int .i64 u0, .int .i64 u1, .int .i64 v0, .int .i64 v1] 23)).alloc (by have := Nat.le_refl w.heap.size; simp <;> omega) (.cells #[.int .u64 0, .int .u64 0] 33)).alloc (by have := Nat.le_refl w.heap.size; simp <;> omega) (.cells #[.int .u64 0, .int .u64 0] 33))
  generalize ((((w.alloc (.cells #[.int .i64 x0, .int .i64 x1, .int .i64 y0, .int .i64 y1] 23)).alloc (.cells #[.int .i64 u0, .int .i64 u1, .int .i64 v0, .int .i64 v1] 23)).alloc (.cells #[.int .u64 0, .int .u64 0] 33)).alloc (.cells #[.int .u64 0, .int .u64 0] 33)) = V1 at RA_1 RB_1 R1_1 R2_1 B_1 ⊢
  have c3_0 := RA_1.out.cell 0
  have c3_1 := RA_1.out.cell 1
  have c3_2 := RA_1.out.cell 2
  have c3_3 := RA_1.out.cell 3
  simp only [List.getElem?_cons_zero, List.getElem?_cons_succ] at c3_0 c3_1 c3_2 c3_3
  have c4_0 := RB_1.out.cell 0
  have c4_1 := RB_1.out.cell 1
  have c4_2 := RB_1.out.cell 2
  have c4_3 := RB_1.out.cell 3
  simp only [List.getElem?_cons_zero, List.getElem?_cons_succ] at c4_0 c4_1 c4_2 c4_3
  go_wp2_with fail
  refine (HX.out _).mono ?_
  rintro e W2 ⟨rfl, hb⟩
  clear c3_0 c3_1 c3_2 c3_3 c4_0 c4_1 c4_2 c4_3
  have RA_5 := Lib.hid (RA_1.out.below hb RA_1.out.lt)
  have RB_5 := Lib.hid (RB_1.out.below hb RB_1.out.lt)
  have R1_5 := Lib.hid (R1_1.out.below hb R1_1.out.lt)
  have R2_5 := Lib.hid (R2_1.out.below hb R2_1.out.lt)
  have B_5 := Lib.hid (B_1.out.trans (hb.mono B_1.out.size))
  clear hb RA_1 RB_1 R1_1 R2_1 B_1
  have c6_0 := R1_5.out.cell 0
  have c6_1 := R1_5.out.cell 1
  simp only [List.getElem?_cons_zero, List.getElem?_cons_succ] at c6_0 c6_1
  have f6_0 := R1_5.out.frozen 0
  have f6_1 := R1_5.out.frozen 1
  have c7_0 := R2_5.out.cell 0
  have c7_1 := R2_5.out.cell 1
  simp only [List.getElem?_cons_zero, List.getElem?_cons_succ] at c7_0 c7_1
  have f7_0 := R2_5.out.frozen 0
  have f7_1 := R2_5.out.frozen 1
  go_wp2
  exact bodyPost_ret (v := .tuple #[.agg #[.int .u64 0, .int .u64 0], .agg #[.int .u64 0, .int .u64 0]]) (by simp [results, Try.results17, go_sem, *]) rfl ⟨rfl, by repeat (first | exact B_5.out | refine Below.setCell ?_ (by first | omega | (simp; done) | (simp; omega)) _ | refine Below.alloc ?_ (by have := B_5.out.size; first | omega | (simp; done) | (simp; omega)) _)⟩

set_option maxHeartbeats 4000000 in
theorem Grows_yes {x0 x1 y0 y1 u0 u1 v0 v1 : Int} {gh gl mh ml : Nat} (kx : KOk x0 x1 y0 y1) (ku : KOk u0 u1 v0 v1) (hr : (boxB x0 x1 y0 y1 && boxB u0 u1 v0 v1) = true)
    (HG : Wn (widM (minI x0 u0) (maxI x1 u1) * widM (minI y0 v0) (maxI y1 v1) - widM x0 x1 * widM y0 y1) gh gl) (HH : Wn (widM (minI x0 u0) (maxI x1 u1) + widM (minI y0 v0) (maxI y1 v1) - (widM x0 x1 + widM y0 y1)) mh ml) (w : World) :
    Calls Try.prog 17 #[KV x0 x1 y0 y1, KV u0 u1 v0 v1] w fun e w' => e = .returned (.tuple #[.agg #[.int .u64 (gh : Int), .int .u64 (gl : Int)], .agg #[.int .u64 (mh : Int), .int .u64 (ml : Int)]]) ∧ Below w.heap.size w w' := by
  have HX := Lib.hid (boxes2 x0 x1 y0 y1 u0 u1 v0 v1)
  have HU := Lib.hid (Union_any x0 x1 y0 y1 u0 u1 v0 v1)
  unfold unionV at HU
  rw [hr] at HX HU
  rw [if_pos rfl] at HU
  have km := union_ok kx ku
  obtain ⟨uh, ul, h1⟩ := wn_of _ (area_lt km)
  obtain ⟨ph, pl, h2⟩ := wn_of _ (margin_lt km)
  obtain ⟨xh, xl, h3⟩ := wn_of _ (area_lt kx)
  obtain ⟨qh, ql, h4⟩ := wn_of _ (margin_lt kx)
  have HA1 := Lib.hid (fun w => Area_is km h1 w)
  have HA2 := Lib.hid (fun w => Area_is kx h3 w)
  have HA3 := Lib.hid (fun w => Sub_le h1 h3 (area_le x0 x1 y0 y1 u0 u1 v0 v1) HG w)
  have HB1 := Lib.hid (fun w => Margin_is km h2 w)
  have HB2 := Lib.hid (fun w => Margin_is kx h4 w)
  have HB3 := Lib.hid (fun w => Sub_le h2 h4 (margin_le x0 x1 y0 y1 u0 u1 v0 v1) HH w)
  clear h1 h2 h3 h4 HG HH kx ku km hr
  generalize minI x0 u0 = m0 at HU HA1 HB1
  generalize maxI x1 u1 = m1 at HU HA1 HB1
  generalize minI y0 v0 = m2 at HU HA1 HB1
  generalize maxI y1 v1 = m3 at HU HA1 HB1
  go_enter Try.func17, Try.ntmps17
  go_upto_region 1 with fail
  have RA_1 := Lib.hid ((((row_last w (w.heap.size) 23 [.int .i64 x0, .int .i64 x1, .int .i64 y0, .int .i64 y1] (by simp)).alloc (.cells #[.int .i64 u0, .int .i64 u1, .int .i64 v0, .int .i64 v1] 23)).alloc (.cells #[.int .u64 0, .int .u64 0] 33)).alloc (.cells #[.int .u64 0, .int .u64 0] 33))
  have RB_1 := Lib.hid (((row_last (w.alloc (.cells #[.int .i64 x0, .int .i64 x1, .int .i64 y0, .int .i64 y1] 23)) (w.heap.size + 1) 23 [.int .i64 u0, .int .i64 u1, .int .i64 v0, .int .i64 v1] (by simp)).alloc (.cells #[.int .u64 0, .int .u64 0] 33)).alloc (.cells #[.int .u64 0, .int .u64 0] 33))
  have R1_1 := Lib.hid ((row_last ((w.alloc (.cells #[.int .i64 x0, .int .i64 x1, .int .i64 y0, .int .i64 y1] 23)).alloc (.cells #[.int .i64 u0, .int .i64 u1, .int .i64 v0, .int .i64 v1] 23)) (w.heap.size + 1 + 1) 33 [.int .u64 0, .int .u64 0] (by simp)).alloc (.cells #[.int .u64 0, .int .u64 0] 33))
  have R2_1 := Lib.hid (row_last (((w.alloc (.cells #[.int .i64 x0, .int .i64 x1, .int .i64 y0, .int .i64 y1] 23)).alloc (.cells #[.int .i64 u0, .int .i64 u1, .int .i64 v0, .int .i64 v1] 23)).alloc (.cells #[.int .u64 0, .int .u64 0] 33)) (w.heap.size + 1 + 1 + 1) 33 [.int .u64 0, .int .u64 0] (by simp))
  have B_1 := Lib.hid (((((Below.refl w.heap.size w).alloc (Nat.le_refl _) (.cells #[.int .i64 x0, .int .i64 x1, .int .i64 y0, .int .i64 y1] 23)).alloc (by have := Nat.le_refl w.heap.size; simp <;> omega) (.cells #[.int .i64 u0, .int .i64 u1, .int .i64 v0, .int .i64 v1] 23)).alloc (by have := Nat.le_refl w.heap.size; simp <;> omega) (.cells #[.int .u64 0, .int .u64 0] 33)).alloc (by have := Nat.le_refl w.heap.size; simp <;> omega) (.cells #[.int .u64 0, .int .u64 0] 33))
  generalize ((((w.alloc (.cells #[.int .i64 x0, .int .i64 x1, .int .i64 y0, .int .i64 y1] 23)).alloc (.cells #[.int .i64 u0, .int .i64 u1, .int .i64 v0, .int .i64 v1] 23)).alloc (.cells #[.int .u64 0, .int .u64 0] 33)).alloc (.cells #[.int .u64 0, .int .u64 0] 33)) = V1 at RA_1 RB_1 R1_1 R2_1 B_1 ⊢
  have c3_0 := RA_1.out.cell 0
  have c3_1 := RA_1.out.cell 1
  have c3_2 := RA_1.out.cell 2
  have c3_3 := RA_1.out.cell 3
  simp only [List.getElem?_cons_zero, List.getElem?_cons_succ] at c3_0 c3_1 c3_2 c3_3
  have c4_0 := RB_1.out.cell 0
  have c4_1 := RB_1.out.cell 1
  have c4_2 := RB_1.out.cell 2
  have c4_3 := RB_1.out.cell 3
  simp only [List.getElem?_cons_zero, List.getElem?_cons_succ] at c4_0 c4_1 c4_2 c4_3
  go_wp2_with fail
  refine (HX.out _).mono ?_
  rintro e W2 ⟨rfl, hb⟩
  clear c3_0 c3_1 c3_2 c3_3 c4_0 c4_1 c4_2 c4_3
  have RA_5 := Lib.hid (RA_1.out.below hb RA_1.out.lt)
  have RB_5 := Lib.hid (RB_1.out.below hb RB_1.out.lt)
  have R1_5 := Lib.hid (R1_1.out.below hb R1_1.out.lt)
  have R2_5 := Lib.hid (R2_1.out.below hb R2_1.out.lt)
  have B_5 := Lib.hid (B_1.out.trans (hb.mono B_1.out.size))
  clear hb RA_1 RB_1 R1_1 R2_1 B_1
  have c7_0 := RA_5.out.cell 0
  have c7_1 := RA_5.out.cell 1
  have c7_2 := RA_5.out.cell 2
  have c7_3 := RA_5.out.cell 3
  simp only [List.getElem?_cons_zero, List.getElem?_cons_succ] at c7_0 c7_1 c7_2 c7_3
  have c8_0 := RB_5.out.cell 0
  have c8_1 := RB_5.out.cell 1
  have c8_2 := RB_5.out.cell 2
  have c8_3 := RB_5.out.cell 3
  simp only [List.getElem?_cons_zero, List.getElem?_cons_succ] at c8_0 c8_1 c8_2 c8_3
  go_wp2_with fail
  refine (HU.out _).mono ?_
  rintro e W6 ⟨rfl, hb⟩
  clear c7_0 c7_1 c7_2 c7_3 c8_0 c8_1 c8_2 c8_3
  have RA_9 := Lib.hid (RA_5.out.below hb RA_5.out.lt)
  have RB_9 := Lib.hid (RB_5.out.below hb RB_5.out.lt)
  have R1_9 := Lib.hid (R1_5.out.below hb R1_5.out.lt)
  have R2_9 := Lib.hid (R2_5.out.below hb R2_5.out.lt)
  have B_9 := Lib.hid (B_5.out.trans (hb.mono B_5.out.size))
  clear hb RA_5 RB_5 R1_5 R2_5 B_5
  go_upto_region 4 with fail
  have hlt10_0 : w.heap.size < W6.heap.size := RA_9.out.lt
  have hlt10_1 : w.heap.size + 1 < W6.heap.size := RB_9.out.lt
  have hlt10_2 : w.heap.size + 1 + 1 < W6.heap.size := R1_9.out.lt
  have hlt10_3 : w.heap.size + 1 + 1 + 1 < W6.heap.size := R2_9.out.lt
  have RA_10 := Lib.hid (RA_9.out.alloc (.cells #[.int .i64 m0, .int .i64 m1, .int .i64 m2, .int .i64 m3] 23))
  have RB_10 := Lib.hid (RB_9.out.alloc (.cells #[.int .i64 m0, .int .i64 m1, .int .i64 m2, .int .i64 m3] 23))
  have R1_10 := Lib.hid (R1_9.out.alloc (.cells #[.int .i64 m0, .int .i64 m1, .int .i64 m2, .int .i64 m3] 23))
  have R2_10 := Lib.hid (R2_9.out.alloc (.cells #[.int .i64 m0, .int .i64 m1, .int .i64 m2, .int .i64 m3] 23))
  have RM_10 := Lib.hid (row_last W6 (W6.heap.size) 23 [.int .i64 m0, .int .i64 m1, .int .i64 m2, .int .i64 m3] (by simp))
  have B_10 := Lib.hid (B_9.out.alloc B_9.out.size (.cells #[.int .i64 m0, .int .i64 m1, .int .i64 m2, .int .i64 m3] 23))
  clear RA_9 RB_9 R1_9 R2_9 B_9
  generalize (W6.alloc (.cells #[.int .i64 m0, .int .i64 m1, .int .i64 m2, .int .i64 m3] 23)) = V10 at RA_10 RB_10 R1_10 R2_10 RM_10 B_10 ⊢
  go_cut [7, 8] from 21 to 28 (fun t u wx => NewR2 V10 33 [.int .u64 (gh : Int), .int .u64 (gl : Int)] (.bool true) t u wx)
  case first =>
    refine wp_region_held_drew (S := fun w' => Below V10.heap.size V10 w') (by kernel_rfl) (Below.refl _ _).drew (fun hHeld => ?_)
    have S_11 := Lib.hid hHeld
    clear hHeld
    generalize V10.drew = D11 at S_11 ⊢
    refine wpAnyH_take (i := 0) (oi := ⟨some 22, _, _, _, _, _⟩) (v := ?vd11_1) rfl (by kernel_rfl) (by kernel_rfl) (by kernel_rfl) (fun _ _ _ h => h) (Or.inl ⟨by rfl, ?yd11_1⟩) S_11.out ?rd11_1
    case yd11_1 =>
      rintro w' hSw
      have k0 := (RM_10.out.below hSw RM_10.out.lt).cell 0
      have k1 := (RM_10.out.below hSw RM_10.out.lt).cell 1
      have k2 := (RM_10.out.below hSw RM_10.out.lt).cell 2
      have k3 := (RM_10.out.below hSw RM_10.out.lt).cell 3
      simp only [List.getElem?_cons_zero, List.getElem?_cons_succ] at k0 k1 k2 k3
      go_simp
      try with_reducible rfl
    try simp only [Act.put, List.setIfInBounds_toArray, List.set_cons_zero, List.set_cons_succ]
    refine wpAnyH_take (i := 2) (oi := ⟨some 24, _, _, _, _, _⟩) (v := ?vd11_2) rfl (by kernel_rfl) (by kernel_rfl) (by kernel_rfl) (fun _ _ _ h => h) (Or.inl ⟨by rfl, ?yd11_2⟩) S_11.out ?rd11_2
    case yd11_2 =>
      rintro w' hSw
      have k0 := (RA_10.out.below hSw RA_10.out.lt).cell 0
      have k1 := (RA_10.out.below hSw RA_10.out.lt).cell 1
      have k2 := (RA_10.out.below hSw RA_10.out.lt).cell 2
      have k3 := (RA_10.out.below hSw RA_10.out.lt).cell 3
      simp only [List.getElem?_cons_zero, List.getElem?_cons_succ] at k0 k1 k2 k3
      go_simp
      try with_reducible rfl
    try simp only [Act.put, List.setIfInBounds_toArray, List.set_cons_zero, List.set_cons_succ]
    refine wpAnyH_ready (rs := [1, 8]) (by kernel_rfl) (by simp) ?_
    refine (AllReadyH.cons rfl (fun K hK => ?_) (AllReadyH.cons rfl (fun K hK => ?_) AllReadyH.nil))
    · go_simp
      refine (HA1.out _).mono ?_
      rintro e Xd11_3 ⟨rfl, hb⟩
      have Sd11_3 := Lib.hid (S_11.out.trans (hb.mono S_11.out.size))
      clear hb S_11
      refine hK _ _ Sd11_3.out (fun _ => ?_)
      clear hK K
      try simp only [Act.put, List.setIfInBounds_toArray, List.set_cons_zero, List.set_cons_succ]
      refine wpAnyH_ready (rs := [3, 8]) (by kernel_rfl) (by simp) ?_
      refine (AllReadyH.cons rfl (fun K hK => ?_) (AllReadyH.cons rfl (fun K hK => ?_) AllReadyH.nil))
      · go_simp
        refine (HA2.out _).mono ?_
        rintro e Xd11_4 ⟨rfl, hb⟩
        have Sd11_4 := Lib.hid (Sd11_3.out.trans (hb.mono Sd11_3.out.size))
        clear hb Sd11_3
        refine hK _ _ Sd11_4.out (fun _ => ?_)
        clear hK K
        try simp only [Act.put, List.setIfInBounds_toArray, List.set_cons_zero, List.set_cons_succ]
        refine wpAnyH_ready (rs := [4, 8]) (by kernel_rfl) (by simp) ?_
        refine (AllReadyH.cons rfl (fun K hK => ?_) (AllReadyH.cons rfl (fun K hK => ?_) AllReadyH.nil))
        · go_simp
          refine (HA3.out _).mono ?_
          rintro e Xd11_5 ⟨rfl, hb⟩
          have Sd11_5 := Lib.hid (Sd11_4.out.trans (hb.mono Sd11_4.out.size))
          clear hb Sd11_4
          refine hK _ _ Sd11_5.out (fun _ => ?_)
          clear hK K
          try simp only [Act.put, List.setIfInBounds_toArray, List.set_cons_zero, List.set_cons_succ]
          refine wpAnyH_take (i := 5) (oi := ⟨some 21, _, _, _, _, _⟩) (v := ?vd11_6) rfl (by kernel_rfl) (by kernel_rfl) (by kernel_rfl) (fun _ _ _ h => h) (Or.inl ⟨by rfl, ?yd11_6⟩) Sd11_5.out ?rd11_6
          case yd11_6 =>
            rintro w' hSw
            go_simp
            try with_reducible rfl
          try simp only [Act.put, List.setIfInBounds_toArray, List.set_cons_zero, List.set_cons_succ]
          refine wpAnyH_take (i := 6) (oi := ⟨some 27, _, _, _, _, _⟩) (v := ?vd11_7) rfl (by kernel_rfl) (by kernel_rfl) (by kernel_rfl) (fun _ _ _ h => h) (Or.inl ⟨by rfl, ?yd11_7⟩) Sd11_5.out ?rd11_7
          case yd11_7 =>
            rintro w' hSw
            go_simp
            try with_reducible rfl
          try simp only [Act.put, List.setIfInBounds_toArray, List.set_cons_zero, List.set_cons_succ]
          refine wpAnyH_take (i := 7) (oi := ⟨some 28, _, _, _, _, _⟩) (v := ?vd11_8) rfl (by kernel_rfl) (by kernel_rfl) (by kernel_rfl) (fun _ _ _ h => h) (Or.inl ⟨by rfl, ?yd11_8⟩) Sd11_5.out ?rd11_8
          case yd11_8 =>
            rintro w' hSw
            go_simp
            try with_reducible rfl
          try simp only [Act.put, List.setIfInBounds_toArray, List.set_cons_zero, List.set_cons_succ]
          refine wpAnyH_ready (rs := [8]) (by kernel_rfl) (by simp) ?_
          refine (AllReadyH.cons rfl (fun K hK => ?_) AllReadyH.nil)
          rw [if_pos (by rfl)]
          go_simp
          have hr := Lib.hid (row_last Xd11_5 Xd11_5.heap.size 33 [.int .u64 0, .int .u64 0] rfl)
          have Sd11_9 := Lib.hid (Sd11_5.out.alloc Sd11_5.out.size (.cells #[.int .u64 0, .int .u64 0] 33))
          obtain ⟨gRDd11_9, hgRDd11_9⟩ : ∃ g, g = Xd11_5.heap.size := ⟨_, rfl⟩
          have ngRDd11_9 : V10.heap.size ≤ gRDd11_9 := by rw [hgRDd11_9]; exact Sd11_5.out.size
          rw [← hgRDd11_9] at hr ⊢
          have RDnd11_9 := hr
          clear hr hgRDd11_9 Sd11_5 
          generalize Xd11_5.alloc (.cells #[.int .u64 0, .int .u64 0] 33) = Xd11_9 at Sd11_9 RDnd11_9 ⊢
          refine hK _ _ Sd11_9.out (fun _ => ?_)
          clear hK K
          try simp only [Act.put, List.setIfInBounds_toArray, List.set_cons_zero, List.set_cons_succ]
          refine wpAnyH_ready (rs := [9]) (by kernel_rfl) (by simp) ?_
          refine (AllReadyH.cons rfl (fun K hK => ?_) AllReadyH.nil)
          have f0 := RDnd11_9.out.frozen 0
          have k0 := RDnd11_9.out.cell 0
          have f1 := RDnd11_9.out.frozen 1
          have k1 := RDnd11_9.out.cell 1
          simp only [List.getElem?_cons_zero, List.getElem?_cons_succ] at k0 k1
          rw [if_pos (by rfl)]
          go_simp
          clear f0 k0 f1 k1
          have RDsd11_10 : Hid (Row ((Xd11_9.setCell ⟨gRDd11_9, 0, none⟩ (.int .u64 (gh : Int))).setCell ⟨gRDd11_9, 1, none⟩ (.int .u64 (gl : Int))) gRDd11_9 33 [.int .u64 (gh : Int), .int .u64 (gl : Int)]) := Lib.hid ((RDnd11_9.out.store 0 (.int .u64 (gh : Int))).store 1 (.int .u64 (gl : Int)))
          have Sd11_10 := Lib.hid ((Sd11_9.out.setCell (p := ⟨gRDd11_9, 0, none⟩) (by dsimp only; omega) (.int .u64 (gh : Int))).setCell (p := ⟨gRDd11_9, 1, none⟩) (by dsimp only; omega) (.int .u64 (gl : Int)))
          clear Sd11_9 RDnd11_9
          generalize ((Xd11_9.setCell ⟨gRDd11_9, 0, none⟩ (.int .u64 (gh : Int))).setCell ⟨gRDd11_9, 1, none⟩ (.int .u64 (gl : Int))) = Xd11_10 at Sd11_10 RDsd11_10 ⊢
          refine hK _ _ Sd11_10.out (fun _ => ?_)
          clear hK K
          try simp only [Act.put, List.setIfInBounds_toArray, List.set_cons_zero, List.set_cons_succ]
          refine wpAnyH_take (i := 10) (oi := ⟨some 8, _, _, _, _, _⟩) (v := ?vd11_11) rfl (by kernel_rfl) (by kernel_rfl) (by kernel_rfl) (fun _ _ _ h => h) (Or.inl ⟨by rfl, ?yd11_11⟩) Sd11_10.out ?rd11_11
          case yd11_11 =>
            rintro w' hSw
            go_simp
            try with_reducible rfl
          try simp only [Act.put, List.setIfInBounds_toArray, List.set_cons_zero, List.set_cons_succ]
          refine wpAnyH_done (by kernel_rfl) ?_ _
          go_wp2_with fail
          go_meet
          exact ⟨rfl, gRDd11_9, rfl, RDsd11_10.out, ngRDd11_9, Sd11_10.out⟩
        · rw [if_pos (by rfl)]
          go_simp
          have hr := Lib.hid (row_last Xd11_4 Xd11_4.heap.size 33 [.int .u64 0, .int .u64 0] rfl)
          have Sd11_12 := Lib.hid (Sd11_4.out.alloc Sd11_4.out.size (.cells #[.int .u64 0, .int .u64 0] 33))
          obtain ⟨gRDd11_12, hgRDd11_12⟩ : ∃ g, g = Xd11_4.heap.size := ⟨_, rfl⟩
          have ngRDd11_12 : V10.heap.size ≤ gRDd11_12 := by rw [hgRDd11_12]; exact Sd11_4.out.size
          rw [← hgRDd11_12] at hr ⊢
          have RDnd11_12 := hr
          clear hr hgRDd11_12 Sd11_4 
          generalize Xd11_4.alloc (.cells #[.int .u64 0, .int .u64 0] 33) = Xd11_12 at Sd11_12 RDnd11_12 ⊢
          refine hK _ _ Sd11_12.out (fun _ => ?_)
          clear hK K
          try simp only [Act.put, List.setIfInBounds_toArray, List.set_cons_zero, List.set_cons_succ]
          refine wpAnyH_ready (rs := [4]) (by kernel_rfl) (by simp) ?_
          refine (AllReadyH.cons rfl (fun K hK => ?_) AllReadyH.nil)
          go_simp
          refine (HA3.out _).mono ?_
          rintro e Xd11_13 ⟨rfl, hb⟩
          have Sd11_13 := Lib.hid (Sd11_12.out.trans (hb.mono Sd11_12.out.size))
          have RDcd11_13 := Lib.hid (RDnd11_12.out.below hb RDnd11_12.out.lt)
          clear hb Sd11_12 RDnd11_12
          refine hK _ _ Sd11_13.out (fun _ => ?_)
          clear hK K
          try simp only [Act.put, List.setIfInBounds_toArray, List.set_cons_zero, List.set_cons_succ]
          refine wpAnyH_take (i := 5) (oi := ⟨some 21, _, _, _, _, _⟩) (v := ?vd11_14) rfl (by kernel_rfl) (by kernel_rfl) (by kernel_rfl) (fun _ _ _ h => h) (Or.inl ⟨by rfl, ?yd11_14⟩) Sd11_13.out ?rd11_14
          case yd11_14 =>
            rintro w' hSw
            go_simp
            try with_reducible rfl
          try simp only [Act.put, List.setIfInBounds_toArray, List.set_cons_zero, List.set_cons_succ]
          refine wpAnyH_take (i := 6) (oi := ⟨some 27, _, _, _, _, _⟩) (v := ?vd11_15) rfl (by kernel_rfl) (by kernel_rfl) (by kernel_rfl) (fun _ _ _ h => h) (Or.inl ⟨by rfl, ?yd11_15⟩) Sd11_13.out ?rd11_15
          case yd11_15 =>
            rintro w' hSw
            go_simp
            try with_reducible rfl
          try simp only [Act.put, List.setIfInBounds_toArray, List.set_cons_zero, List.set_cons_succ]
          refine wpAnyH_take (i := 7) (oi := ⟨some 28, _, _, _, _, _⟩) (v := ?vd11_16) rfl (by kernel_rfl) (by kernel_rfl) (by kernel_rfl) (fun _ _ _ h => h) (Or.inl ⟨by rfl, ?yd11_16⟩) Sd11_13.out ?rd11_16
          case yd11_16 =>
            rintro w' hSw
            go_simp
            try with_reducible rfl
          try simp only [Act.put, List.setIfInBounds_toArray, List.set_cons_zero, List.set_cons_succ]
          refine wpAnyH_ready (rs := [9]) (by kernel_rfl) (by simp) ?_
          refine (AllReadyH.cons rfl (fun K hK => ?_) AllReadyH.nil)
          have f0 := RDcd11_13.out.frozen 0
          have k0 := RDcd11_13.out.cell 0
          have f1 := RDcd11_13.out.frozen 1
          have k1 := RDcd11_13.out.cell 1
          simp only [List.getElem?_cons_zero, List.getElem?_cons_succ] at k0 k1
          rw [if_pos (by rfl)]
          go_simp
          clear f0 k0 f1 k1
          have RDsd11_17 : Hid (Row ((Xd11_13.setCell ⟨gRDd11_12, 0, none⟩ (.int .u64 (gh : Int))).setCell ⟨gRDd11_12, 1, none⟩ (.int .u64 (gl : Int))) gRDd11_12 33 [.int .u64 (gh : Int), .int .u64 (gl : Int)]) := Lib.hid ((RDcd11_13.out.store 0 (.int .u64 (gh : Int))).store 1 (.int .u64 (gl : Int)))
          have Sd11_17 := Lib.hid ((Sd11_13.out.setCell (p := ⟨gRDd11_12, 0, none⟩) (by dsimp only; omega) (.int .u64 (gh : Int))).setCell (p := ⟨gRDd11_12, 1, none⟩) (by dsimp only; omega) (.int .u64 (gl : Int)))
          clear Sd11_13 RDcd11_13
          generalize ((Xd11_13.setCell ⟨gRDd11_12, 0, none⟩ (.int .u64 (gh : Int))).setCell ⟨gRDd11_12, 1, none⟩ (.int .u64 (gl : Int))) = Xd11_17 at Sd11_17 RDsd11_17 ⊢
          refine hK _ _ Sd11_17.out (fun _ => ?_)
          clear hK K
          try simp only [Act.put, List.setIfInBounds_toArray, List.set_cons_zero, List.set_cons_succ]
          refine wpAnyH_take (i := 10) (oi := ⟨some 8, _, _, _, _, _⟩) (v := ?vd11_18) rfl (by kernel_rfl) (by kernel_rfl) (by kernel_rfl) (fun _ _ _ h => h) (Or.inl ⟨by rfl, ?yd11_18⟩) Sd11_17.out ?rd11_18
          case yd11_18 =>
            rintro w' hSw
            go_simp
            try with_reducible rfl
          try simp only [Act.put, List.setIfInBounds_toArray, List.set_cons_zero, List.set_cons_succ]
          refine wpAnyH_done (by kernel_rfl) ?_ _
          go_wp2_with fail
          go_meet
          exact ⟨rfl, gRDd11_12, rfl, RDsd11_17.out, ngRDd11_12, Sd11_17.out⟩
      · rw [if_pos (by rfl)]
        go_simp
        have hr := Lib.hid (row_last Xd11_3 Xd11_3.heap.size 33 [.int .u64 0, .int .u64 0] rfl)
        have Sd11_19 := Lib.hid (Sd11_3.out.alloc Sd11_3.out.size (.cells #[.int .u64 0, .int .u64 0] 33))
        obtain ⟨gRDd11_19, hgRDd11_19⟩ : ∃ g, g = Xd11_3.heap.size := ⟨_, rfl⟩
        have ngRDd11_19 : V10.heap.size ≤ gRDd11_19 := by rw [hgRDd11_19]; exact Sd11_3.out.size
        rw [← hgRDd11_19] at hr ⊢
        have RDnd11_19 := hr
        clear hr hgRDd11_19 Sd11_3 
        generalize Xd11_3.alloc (.cells #[.int .u64 0, .int .u64 0] 33) = Xd11_19 at Sd11_19 RDnd11_19 ⊢
        refine hK _ _ Sd11_19.out (fun _ => ?_)
        clear hK K
        try simp only [Act.put, List.setIfInBounds_toArray, List.set_cons_zero, List.set_cons_succ]
        refine wpAnyH_ready (rs := [3]) (by kernel_rfl) (by simp) ?_
        refine (AllReadyH.cons rfl (fun K hK => ?_) AllReadyH.nil)
        go_simp
        refine (HA2.out _).mono ?_
        rintro e Xd11_20 ⟨rfl, hb⟩
        have Sd11_20 := Lib.hid (Sd11_19.out.trans (hb.mono Sd11_19.out.size))
        have RDcd11_20 := Lib.hid (RDnd11_19.out.below hb RDnd11_19.out.lt)
        clear hb Sd11_19 RDnd11_19
        refine hK _ _ Sd11_20.out (fun _ => ?_)
        clear hK K
        try simp only [Act.put, List.setIfInBounds_toArray, List.set_cons_zero, List.set_cons_succ]
        refine wpAnyH_ready (rs := [4]) (by kernel_rfl) (by simp) ?_
        refine (AllReadyH.cons rfl (fun K hK => ?_) AllReadyH.nil)
        go_simp
        refine (HA3.out _).mono ?_
        rintro e Xd11_21 ⟨rfl, hb⟩
        have Sd11_21 := Lib.hid (Sd11_20.out.trans (hb.mono Sd11_20.out.size))
        have RDcd11_21 := Lib.hid (RDcd11_20.out.below hb RDcd11_20.out.lt)
        clear hb Sd11_20 RDcd11_20
        refine hK _ _ Sd11_21.out (fun _ => ?_)
        clear hK K
        try simp only [Act.put, List.setIfInBounds_toArray, List.set_cons_zero, List.set_cons_succ]
        refine wpAnyH_take (i := 5) (oi := ⟨some 21, _, _, _, _, _⟩) (v := ?vd11_22) rfl (by kernel_rfl) (by kernel_rfl) (by kernel_rfl) (fun _ _ _ h => h) (Or.inl ⟨by rfl, ?yd11_22⟩) Sd11_21.out ?rd11_22
        case yd11_22 =>
          rintro w' hSw
          go_simp
          try with_reducible rfl
        try simp only [Act.put, List.setIfInBounds_toArray, List.set_cons_zero, List.set_cons_succ]
        refine wpAnyH_take (i := 6) (oi := ⟨some 27, _, _, _, _, _⟩) (v := ?vd11_23) rfl (by kernel_rfl) (by kernel_rfl) (by kernel_rfl) (fun _ _ _ h => h) (Or.inl ⟨by rfl, ?yd11_23⟩) Sd11_21.out ?rd11_23
        case yd11_23 =>
          rintro w' hSw
          go_simp
          try with_reducible rfl
        try simp only [Act.put, List.setIfInBounds_toArray, List.set_cons_zero, List.set_cons_succ]
        refine wpAnyH_take (i := 7) (oi := ⟨some 28, _, _, _, _, _⟩) (v := ?vd11_24) rfl (by kernel_rfl) (by kernel_rfl) (by kernel_rfl) (fun _ _ _ h => h) (Or.inl ⟨by rfl, ?yd11_24⟩) Sd11_21.out ?rd11_24
        case yd11_24 =>
          rintro w' hSw
          go_simp
          try with_reducible rfl
        try simp only [Act.put, List.setIfInBounds_toArray, List.set_cons_zero, List.set_cons_succ]
        refine wpAnyH_ready (rs := [9]) (by kernel_rfl) (by simp) ?_
        refine (AllReadyH.cons rfl (fun K hK => ?_) AllReadyH.nil)
        have f0 := RDcd11_21.out.frozen 0
        have k0 := RDcd11_21.out.cell 0
        have f1 := RDcd11_21.out.frozen 1
        have k1 := RDcd11_21.out.cell 1
        simp only [List.getElem?_cons_zero, List.getElem?_cons_succ] at k0 k1
        rw [if_pos (by rfl)]
        go_simp
        clear f0 k0 f1 k1
        have RDsd11_25 : Hid (Row ((Xd11_21.setCell ⟨gRDd11_19, 0, none⟩ (.int .u64 (gh : Int))).setCell ⟨gRDd11_19, 1, none⟩ (.int .u64 (gl : Int))) gRDd11_19 33 [.int .u64 (gh : Int), .int .u64 (gl : Int)]) := Lib.hid ((RDcd11_21.out.store 0 (.int .u64 (gh : Int))).store 1 (.int .u64 (gl : Int)))
        have Sd11_25 := Lib.hid ((Sd11_21.out.setCell (p := ⟨gRDd11_19, 0, none⟩) (by dsimp only; omega) (.int .u64 (gh : Int))).setCell (p := ⟨gRDd11_19, 1, none⟩) (by dsimp only; omega) (.int .u64 (gl : Int)))
        clear Sd11_21 RDcd11_21
        generalize ((Xd11_21.setCell ⟨gRDd11_19, 0, none⟩ (.int .u64 (gh : Int))).setCell ⟨gRDd11_19, 1, none⟩ (.int .u64 (gl : Int))) = Xd11_25 at Sd11_25 RDsd11_25 ⊢
        refine hK _ _ Sd11_25.out (fun _ => ?_)
        clear hK K
        try simp only [Act.put, List.setIfInBounds_toArray, List.set_cons_zero, List.set_cons_succ]
        refine wpAnyH_take (i := 10) (oi := ⟨some 8, _, _, _, _, _⟩) (v := ?vd11_26) rfl (by kernel_rfl) (by kernel_rfl) (by kernel_rfl) (fun _ _ _ h => h) (Or.inl ⟨by rfl, ?yd11_26⟩) Sd11_25.out ?rd11_26
        case yd11_26 =>
          rintro w' hSw
          go_simp
          try with_reducible rfl
        try simp only [Act.put, List.setIfInBounds_toArray, List.set_cons_zero, List.set_cons_succ]
        refine wpAnyH_done (by kernel_rfl) ?_ _
        go_wp2_with fail
        go_meet
        exact ⟨rfl, gRDd11_19, rfl, RDsd11_25.out, ngRDd11_19, Sd11_25.out⟩
    · rw [if_pos (by rfl)]
      go_simp
      have hr := Lib.hid (row_last D11 D11.heap.size 33 [.int .u64 0, .int .u64 0] rfl)
      have Sd11_27 := Lib.hid (S_11.out.alloc S_11.out.size (.cells #[.int .u64 0, .int .u64 0] 33))
      obtain ⟨gRDd11_27, hgRDd11_27⟩ : ∃ g, g = D11.heap.size := ⟨_, rfl⟩
      have ngRDd11_27 : V10.heap.size ≤ gRDd11_27 := by rw [hgRDd11_27]; exact S_11.out.size
      rw [← hgRDd11_27] at hr ⊢
      have RDnd11_27 := hr
      clear hr hgRDd11_27 S_11 
      generalize D11.alloc (.cells #[.int .u64 0, .int .u64 0] 33) = Xd11_27 at Sd11_27 RDnd11_27 ⊢
      refine hK _ _ Sd11_27.out (fun _ => ?_)
      clear hK K
      try simp only [Act.put, List.setIfInBounds_toArray, List.set_cons_zero, List.set_cons_succ]
      refine wpAnyH_ready (rs := [1]) (by kernel_rfl) (by simp) ?_
      refine (AllReadyH.cons rfl (fun K hK => ?_) AllReadyH.nil)
      go_simp
      refine (HA1.out _).mono ?_
      rintro e Xd11_28 ⟨rfl, hb⟩
      have Sd11_28 := Lib.hid (Sd11_27.out.trans (hb.mono Sd11_27.out.size))
      have RDcd11_28 := Lib.hid (RDnd11_27.out.below hb RDnd11_27.out.lt)
      clear hb Sd11_27 RDnd11_27
      refine hK _ _ Sd11_28.out (fun _ => ?_)
      clear hK K
      try simp only [Act.put, List.setIfInBounds_toArray, List.set_cons_zero, List.set_cons_succ]
      refine wpAnyH_ready (rs := [3]) (by kernel_rfl) (by simp) ?_
      refine (AllReadyH.cons rfl (fun K hK => ?_) AllReadyH.nil)
      go_simp
      refine (HA2.out _).mono ?_
      rintro e Xd11_29 ⟨rfl, hb⟩
      have Sd11_29 := Lib.hid (Sd11_28.out.trans (hb.mono Sd11_28.out.size))
      have RDcd11_29 := Lib.hid (RDcd11_28.out.below hb RDcd11_28.out.lt)
      clear hb Sd11_28 RDcd11_28
      refine hK _ _ Sd11_29.out (fun _ => ?_)
      clear hK K
      try simp only [Act.put, List.setIfInBounds_toArray, List.set_cons_zero, List.set_cons_succ]
      refine wpAnyH_ready (rs := [4]) (by kernel_rfl) (by simp) ?_
      refine (AllReadyH.cons rfl (fun K hK => ?_) AllReadyH.nil)
      go_simp
      refine (HA3.out _).mono ?_
      rintro e Xd11_30 ⟨rfl, hb⟩
      have Sd11_30 := Lib.hid (Sd11_29.out.trans (hb.mono Sd11_29.out.size))
      have RDcd11_30 := Lib.hid (RDcd11_29.out.below hb RDcd11_29.out.lt)
      clear hb Sd11_29 RDcd11_29
      refine hK _ _ Sd11_30.out (fun _ => ?_)
      clear hK K
      try simp only [Act.put, List.setIfInBounds_toArray, List.set_cons_zero, List.set_cons_succ]
      refine wpAnyH_take (i := 5) (oi := ⟨some 21, _, _, _, _, _⟩) (v := ?vd11_31) rfl (by kernel_rfl) (by kernel_rfl) (by kernel_rfl) (fun _ _ _ h => h) (Or.inl ⟨by rfl, ?yd11_31⟩) Sd11_30.out ?rd11_31
      case yd11_31 =>
        rintro w' hSw
        go_simp
        try with_reducible rfl
      try simp only [Act.put, List.setIfInBounds_toArray, List.set_cons_zero, List.set_cons_succ]
      refine wpAnyH_take (i := 6) (oi := ⟨some 27, _, _, _, _, _⟩) (v := ?vd11_32) rfl (by kernel_rfl) (by kernel_rfl) (by kernel_rfl) (fun _ _ _ h => h) (Or.inl ⟨by rfl, ?yd11_32⟩) Sd11_30.out ?rd11_32
      case yd11_32 =>
        rintro w' hSw
        go_simp
        try with_reducible rfl
      try simp only [Act.put, List.setIfInBounds_toArray, List.set_cons_zero, List.set_cons_succ]
      refine wpAnyH_take (i := 7) (oi := ⟨some 28, _, _, _, _, _⟩) (v := ?vd11_33) rfl (by kernel_rfl) (by kernel_rfl) (by kernel_rfl) (fun _ _ _ h => h) (Or.inl ⟨by rfl, ?yd11_33⟩) Sd11_30.out ?rd11_33
      case yd11_33 =>
        rintro w' hSw
        go_simp
        try with_reducible rfl
      try simp only [Act.put, List.setIfInBounds_toArray, List.set_cons_zero, List.set_cons_succ]
      refine wpAnyH_ready (rs := [9]) (by kernel_rfl) (by simp) ?_
      refine (AllReadyH.cons rfl (fun K hK => ?_) AllReadyH.nil)
      have f0 := RDcd11_30.out.frozen 0
      have k0 := RDcd11_30.out.cell 0
      have f1 := RDcd11_30.out.frozen 1
      have k1 := RDcd11_30.out.cell 1
      simp only [List.getElem?_cons_zero, List.getElem?_cons_succ] at k0 k1
      rw [if_pos (by rfl)]
      go_simp
      clear f0 k0 f1 k1
      have RDsd11_34 : Hid (Row ((Xd11_30.setCell ⟨gRDd11_27, 0, none⟩ (.int .u64 (gh : Int))).setCell ⟨gRDd11_27, 1, none⟩ (.int .u64 (gl : Int))) gRDd11_27 33 [.int .u64 (gh : Int), .int .u64 (gl : Int)]) := Lib.hid ((RDcd11_30.out.store 0 (.int .u64 (gh : Int))).store 1 (.int .u64 (gl : Int)))
      have Sd11_34 := Lib.hid ((Sd11_30.out.setCell (p := ⟨gRDd11_27, 0, none⟩) (by dsimp only; omega) (.int .u64 (gh : Int))).setCell (p := ⟨gRDd11_27, 1, none⟩) (by dsimp only; omega) (.int .u64 (gl : Int)))
      clear Sd11_30 RDcd11_30
      generalize ((Xd11_30.setCell ⟨gRDd11_27, 0, none⟩ (.int .u64 (gh : Int))).setCell ⟨gRDd11_27, 1, none⟩ (.int .u64 (gl : Int))) = Xd11_34 at Sd11_34 RDsd11_34 ⊢
      refine hK _ _ Sd11_34.out (fun _ => ?_)
      clear hK K
      try simp only [Act.put, List.setIfInBounds_toArray, List.set_cons_zero, List.set_cons_succ]
      refine wpAnyH_take (i := 10) (oi := ⟨some 8, _, _, _, _, _⟩) (v := ?vd11_35) rfl (by kernel_rfl) (by kernel_rfl) (by kernel_rfl) (fun _ _ _ h => h) (Or.inl ⟨by rfl, ?yd11_35⟩) Sd11_34.out ?rd11_35
      case yd11_35 =>
        rintro w' hSw
        go_simp
        try with_reducible rfl
      try simp only [Act.put, List.setIfInBounds_toArray, List.set_cons_zero, List.set_cons_succ]
      refine wpAnyH_done (by kernel_rfl) ?_ _
      go_wp2_with fail
      go_meet
      exact ⟨rfl, gRDd11_27, rfl, RDsd11_34.out, ngRDd11_27, Sd11_34.out⟩
  case rest =>
    rename World => Wc11
    obtain ⟨rfl, gRD_11, rfl, hrow, hge, hb⟩ := hcut
    have RD_11 := Lib.hid hrow
    clear hrow
    have hd11_0 : w.heap.size < gRD_11 := Nat.lt_of_lt_of_le RA_10.out.lt hge
    have hd11_1 : w.heap.size + 1 < gRD_11 := Nat.lt_of_lt_of_le RB_10.out.lt hge
    have hd11_2 : w.heap.size + 1 + 1 < gRD_11 := Nat.lt_of_lt_of_le R1_10.out.lt hge
    have hd11_3 : w.heap.size + 1 + 1 + 1 < gRD_11 := Nat.lt_of_lt_of_le R2_10.out.lt hge
    have hd11_4 : W6.heap.size < gRD_11 := Nat.lt_of_lt_of_le RM_10.out.lt hge
    have RA_13 := Lib.hid (RA_10.out.below hb RA_10.out.lt)
    have RB_13 := Lib.hid (RB_10.out.below hb RB_10.out.lt)
    have R1_13 := Lib.hid (R1_10.out.below hb R1_10.out.lt)
    have R2_13 := Lib.hid (R2_10.out.below hb R2_10.out.lt)
    have RM_13 := Lib.hid (RM_10.out.below hb RM_10.out.lt)
    have B_13 := Lib.hid (B_10.out.trans (hb.mono B_10.out.size))
    clear hb RA_10 RB_10 R1_10 R2_10 RM_10 B_10
    go_upto_region 5 with fail
    go_cut [9, 10] from 29 to 36 (fun t u wx => NewR2 Wc11 33 [.int .u64 (mh : Int), .int .u64 (ml : Int)] (.bool true) t u wx)
    case first =>
      refine wp_region_held_drew (S := fun w' => Below Wc11.heap.size Wc11 w') (by kernel_rfl) (Below.refl _ _).drew (fun hHeld => ?_)
      have S_y14 := Lib.hid hHeld
      clear hHeld
      generalize Wc11.drew = Dy14 at S_y14 ⊢
      refine wpAnyH_take (i := 0) (oi := ⟨some 30, _, _, _, _, _⟩) (v := ?vydy14_1) rfl (by kernel_rfl) (by kernel_rfl) (by kernel_rfl) (fun _ _ _ h => h) (Or.inl ⟨by rfl, ?yydy14_1⟩) S_y14.out ?rydy14_1
      case yydy14_1 =>
        rintro w' hSw
        have k0 := (RM_13.out.below hSw RM_13.out.lt).cell 0
        have k1 := (RM_13.out.below hSw RM_13.out.lt).cell 1
        have k2 := (RM_13.out.below hSw RM_13.out.lt).cell 2
        have k3 := (RM_13.out.below hSw RM_13.out.lt).cell 3
        simp only [List.getElem?_cons_zero, List.getElem?_cons_succ] at k0 k1 k2 k3
        go_simp
        try with_reducible rfl
      try simp only [Act.put, List.setIfInBounds_toArray, List.set_cons_zero, List.set_cons_succ]
      refine wpAnyH_take (i := 2) (oi := ⟨some 32, _, _, _, _, _⟩) (v := ?vydy14_2) rfl (by kernel_rfl) (by kernel_rfl) (by kernel_rfl) (fun _ _ _ h => h) (Or.inl ⟨by rfl, ?yydy14_2⟩) S_y14.out ?rydy14_2
      case yydy14_2 =>
        rintro w' hSw
        have k0 := (RA_13.out.below hSw RA_13.out.lt).cell 0
        have k1 := (RA_13.out.below hSw RA_13.out.lt).cell 1
        have k2 := (RA_13.out.below hSw RA_13.out.lt).cell 2
        have k3 := (RA_13.out.below hSw RA_13.out.lt).cell 3
        simp only [List.getElem?_cons_zero, List.getElem?_cons_succ] at k0 k1 k2 k3
        go_simp
        try with_reducible rfl
      try simp only [Act.put, List.setIfInBounds_toArray, List.set_cons_zero, List.set_cons_succ]
      refine wpAnyH_ready (rs := [1, 8]) (by kernel_rfl) (by simp) ?_
      refine (AllReadyH.cons rfl (fun K hK => ?_) (AllReadyH.cons rfl (fun K hK => ?_) AllReadyH.nil))
      · go_simp
        refine (HB1.out _).mono ?_
        rintro e Xydy14_3 ⟨rfl, hb⟩
        have Sydy14_3 := Lib.hid (S_y14.out.trans (hb.mono S_y14.out.size))
        clear hb S_y14
        refine hK _ _ Sydy14_3.out (fun _ => ?_)
        clear hK K
        try simp only [Act.put, List.setIfInBounds_toArray, List.set_cons_zero, List.set_cons_succ]
        refine wpAnyH_ready (rs := [3, 8]) (by kernel_rfl) (by simp) ?_
        refine (AllReadyH.cons rfl (fun K hK => ?_) (AllReadyH.cons rfl (fun K hK => ?_) AllReadyH.nil))
        · go_simp
          refine (HB2.out _).mono ?_
          rintro e Xydy14_4 ⟨rfl, hb⟩
          have Sydy14_4 := Lib.hid (Sydy14_3.out.trans (hb.mono Sydy14_3.out.size))
          clear hb Sydy14_3
          refine hK _ _ Sydy14_4.out (fun _ => ?_)
          clear hK K
          try simp only [Act.put, List.setIfInBounds_toArray, List.set_cons_zero, List.set_cons_succ]
          refine wpAnyH_ready (rs := [4, 8]) (by kernel_rfl) (by simp) ?_
          refine (AllReadyH.cons rfl (fun K hK => ?_) (AllReadyH.cons rfl (fun K hK => ?_) AllReadyH.nil))
          · go_simp
            refine (HB3.out _).mono ?_
            rintro e Xydy14_5 ⟨rfl, hb⟩
            have Sydy14_5 := Lib.hid (Sydy14_4.out.trans (hb.mono Sydy14_4.out.size))
            clear hb Sydy14_4
            refine hK _ _ Sydy14_5.out (fun _ => ?_)
            clear hK K
            try simp only [Act.put, List.setIfInBounds_toArray, List.set_cons_zero, List.set_cons_succ]
            refine wpAnyH_take (i := 5) (oi := ⟨some 29, _, _, _, _, _⟩) (v := ?vydy14_6) rfl (by kernel_rfl) (by kernel_rfl) (by kernel_rfl) (fun _ _ _ h => h) (Or.inl ⟨by rfl, ?yydy14_6⟩) Sydy14_5.out ?rydy14_6
            case yydy14_6 =>
              rintro w' hSw
              go_simp
              try with_reducible rfl
            try simp only [Act.put, List.setIfInBounds_toArray, List.set_cons_zero, List.set_cons_succ]
            refine wpAnyH_take (i := 6) (oi := ⟨some 35, _, _, _, _, _⟩) (v := ?vydy14_7) rfl (by kernel_rfl) (by kernel_rfl) (by kernel_rfl) (fun _ _ _ h => h) (Or.inl ⟨by rfl, ?yydy14_7⟩) Sydy14_5.out ?rydy14_7
            case yydy14_7 =>
              rintro w' hSw
              go_simp
              try with_reducible rfl
            try simp only [Act.put, List.setIfInBounds_toArray, List.set_cons_zero, List.set_cons_succ]
            refine wpAnyH_take (i := 7) (oi := ⟨some 36, _, _, _, _, _⟩) (v := ?vydy14_8) rfl (by kernel_rfl) (by kernel_rfl) (by kernel_rfl) (fun _ _ _ h => h) (Or.inl ⟨by rfl, ?yydy14_8⟩) Sydy14_5.out ?rydy14_8
            case yydy14_8 =>
              rintro w' hSw
              go_simp
              try with_reducible rfl
            try simp only [Act.put, List.setIfInBounds_toArray, List.set_cons_zero, List.set_cons_succ]
            refine wpAnyH_ready (rs := [8]) (by kernel_rfl) (by simp) ?_
            refine (AllReadyH.cons rfl (fun K hK => ?_) AllReadyH.nil)
            rw [if_pos (by rfl)]
            go_simp
            have hr := Lib.hid (row_last Xydy14_5 Xydy14_5.heap.size 33 [.int .u64 0, .int .u64 0] rfl)
            have Sydy14_9 := Lib.hid (Sydy14_5.out.alloc Sydy14_5.out.size (.cells #[.int .u64 0, .int .u64 0] 33))
            obtain ⟨gREydy14_9, hgREydy14_9⟩ : ∃ g, g = Xydy14_5.heap.size := ⟨_, rfl⟩
            have ngREydy14_9 : Wc11.heap.size ≤ gREydy14_9 := by rw [hgREydy14_9]; exact Sydy14_5.out.size
            rw [← hgREydy14_9] at hr ⊢
            have REnydy14_9 := hr
            clear hr hgREydy14_9 Sydy14_5 
            generalize Xydy14_5.alloc (.cells #[.int .u64 0, .int .u64 0] 33) = Xydy14_9 at Sydy14_9 REnydy14_9 ⊢
            refine hK _ _ Sydy14_9.out (fun _ => ?_)
            clear hK K
            try simp only [Act.put, List.setIfInBounds_toArray, List.set_cons_zero, List.set_cons_succ]
            refine wpAnyH_ready (rs := [9]) (by kernel_rfl) (by simp) ?_
            refine (AllReadyH.cons rfl (fun K hK => ?_) AllReadyH.nil)
            have f0 := REnydy14_9.out.frozen 0
            have k0 := REnydy14_9.out.cell 0
            have f1 := REnydy14_9.out.frozen 1
            have k1 := REnydy14_9.out.cell 1
            simp only [List.getElem?_cons_zero, List.getElem?_cons_succ] at k0 k1
            rw [if_pos (by rfl)]
            go_simp
            clear f0 k0 f1 k1
            have REsydy14_10 : Hid (Row ((Xydy14_9.setCell ⟨gREydy14_9, 0, none⟩ (.int .u64 (mh : Int))).setCell ⟨gREydy14_9, 1, none⟩ (.int .u64 (ml : Int))) gREydy14_9 33 [.int .u64 (mh : Int), .int .u64 (ml : Int)]) := Lib.hid ((REnydy14_9.out.store 0 (.int .u64 (mh : Int))).store 1 (.int .u64 (ml : Int)))
            have Sydy14_10 := Lib.hid ((Sydy14_9.out.setCell (p := ⟨gREydy14_9, 0, none⟩) (by dsimp only; omega) (.int .u64 (mh : Int))).setCell (p := ⟨gREydy14_9, 1, none⟩) (by dsimp only; omega) (.int .u64 (ml : Int)))
            clear Sydy14_9 REnydy14_9
            generalize ((Xydy14_9.setCell ⟨gREydy14_9, 0, none⟩ (.int .u64 (mh : Int))).setCell ⟨gREydy14_9, 1, none⟩ (.int .u64 (ml : Int))) = Xydy14_10 at Sydy14_10 REsydy14_10 ⊢
            refine hK _ _ Sydy14_10.out (fun _ => ?_)
            clear hK K
            try simp only [Act.put, List.setIfInBounds_toArray, List.set_cons_zero, List.set_cons_succ]
            refine wpAnyH_take (i := 10) (oi := ⟨some 10, _, _, _, _, _⟩) (v := ?vydy14_11) rfl (by kernel_rfl) (by kernel_rfl) (by kernel_rfl) (fun _ _ _ h => h) (Or.inl ⟨by rfl, ?yydy14_11⟩) Sydy14_10.out ?rydy14_11
            case yydy14_11 =>
              rintro w' hSw
              go_simp
              try with_reducible rfl
            try simp only [Act.put, List.setIfInBounds_toArray, List.set_cons_zero, List.set_cons_succ]
            refine wpAnyH_done (by kernel_rfl) ?_ _
            go_wp2_with fail
            go_meet
            exact ⟨rfl, gREydy14_9, rfl, REsydy14_10.out, ngREydy14_9, Sydy14_10.out⟩
          · rw [if_pos (by rfl)]
            go_simp
            have hr := Lib.hid (row_last Xydy14_4 Xydy14_4.heap.size 33 [.int .u64 0, .int .u64 0] rfl)
            have Sydy14_12 := Lib.hid (Sydy14_4.out.alloc Sydy14_4.out.size (.cells #[.int .u64 0, .int .u64 0] 33))
            obtain ⟨gREydy14_12, hgREydy14_12⟩ : ∃ g, g = Xydy14_4.heap.size := ⟨_, rfl⟩
            have ngREydy14_12 : Wc11.heap.size ≤ gREydy14_12 := by rw [hgREydy14_12]; exact Sydy14_4.out.size
            rw [← hgREydy14_12] at hr ⊢
            have REnydy14_12 := hr
            clear hr hgREydy14_12 Sydy14_4 
            generalize Xydy14_4.alloc (.cells #[.int .u64 0, .int .u64 0] 33) = Xydy14_12 at Sydy14_12 REnydy14_12 ⊢
            refine hK _ _ Sydy14_12.out (fun _ => ?_)
            clear hK K
            try simp only [Act.put, List.setIfInBounds_toArray, List.set_cons_zero, List.set_cons_succ]
            refine wpAnyH_ready (rs := [4]) (by kernel_rfl) (by simp) ?_
            refine (AllReadyH.cons rfl (fun K hK => ?_) AllReadyH.nil)
            go_simp
            refine (HB3.out _).mono ?_
            rintro e Xydy14_13 ⟨rfl, hb⟩
            have Sydy14_13 := Lib.hid (Sydy14_12.out.trans (hb.mono Sydy14_12.out.size))
            have REcydy14_13 := Lib.hid (REnydy14_12.out.below hb REnydy14_12.out.lt)
            clear hb Sydy14_12 REnydy14_12
            refine hK _ _ Sydy14_13.out (fun _ => ?_)
            clear hK K
            try simp only [Act.put, List.setIfInBounds_toArray, List.set_cons_zero, List.set_cons_succ]
            refine wpAnyH_take (i := 5) (oi := ⟨some 29, _, _, _, _, _⟩) (v := ?vydy14_14) rfl (by kernel_rfl) (by kernel_rfl) (by kernel_rfl) (fun _ _ _ h => h) (Or.inl ⟨by rfl, ?yydy14_14⟩) Sydy14_13.out ?rydy14_14
            case yydy14_14 =>
              rintro w' hSw
              go_simp
              try with_reducible rfl
            try simp only [Act.put, List.setIfInBounds_toArray, List.set_cons_zero, List.set_cons_succ]
            refine wpAnyH_take (i := 6) (oi := ⟨some 35, _, _, _, _, _⟩) (v := ?vydy14_15) rfl (by kernel_rfl) (by kernel_rfl) (by kernel_rfl) (fun _ _ _ h => h) (Or.inl ⟨by rfl, ?yydy14_15⟩) Sydy14_13.out ?rydy14_15
            case yydy14_15 =>
              rintro w' hSw
              go_simp
              try with_reducible rfl
            try simp only [Act.put, List.setIfInBounds_toArray, List.set_cons_zero, List.set_cons_succ]
            refine wpAnyH_take (i := 7) (oi := ⟨some 36, _, _, _, _, _⟩) (v := ?vydy14_16) rfl (by kernel_rfl) (by kernel_rfl) (by kernel_rfl) (fun _ _ _ h => h) (Or.inl ⟨by rfl, ?yydy14_16⟩) Sydy14_13.out ?rydy14_16
            case yydy14_16 =>
              rintro w' hSw
              go_simp
              try with_reducible rfl
            try simp only [Act.put, List.setIfInBounds_toArray, List.set_cons_zero, List.set_cons_succ]
            refine wpAnyH_ready (rs := [9]) (by kernel_rfl) (by simp) ?_
            refine (AllReadyH.cons rfl (fun K hK => ?_) AllReadyH.nil)
            have f0 := REcydy14_13.out.frozen 0
            have k0 := REcydy14_13.out.cell 0
            have f1 := REcydy14_13.out.frozen 1
            have k1 := REcydy14_13.out.cell 1
            simp only [List.getElem?_cons_zero, List.getElem?_cons_succ] at k0 k1
            rw [if_pos (by rfl)]
            go_simp
            clear f0 k0 f1 k1
            have REsydy14_17 : Hid (Row ((Xydy14_13.setCell ⟨gREydy14_12, 0, none⟩ (.int .u64 (mh : Int))).setCell ⟨gREydy14_12, 1, none⟩ (.int .u64 (ml : Int))) gREydy14_12 33 [.int .u64 (mh : Int), .int .u64 (ml : Int)]) := Lib.hid ((REcydy14_13.out.store 0 (.int .u64 (mh : Int))).store 1 (.int .u64 (ml : Int)))
            have Sydy14_17 := Lib.hid ((Sydy14_13.out.setCell (p := ⟨gREydy14_12, 0, none⟩) (by dsimp only; omega) (.int .u64 (mh : Int))).setCell (p := ⟨gREydy14_12, 1, none⟩) (by dsimp only; omega) (.int .u64 (ml : Int)))
            clear Sydy14_13 REcydy14_13
            generalize ((Xydy14_13.setCell ⟨gREydy14_12, 0, none⟩ (.int .u64 (mh : Int))).setCell ⟨gREydy14_12, 1, none⟩ (.int .u64 (ml : Int))) = Xydy14_17 at Sydy14_17 REsydy14_17 ⊢
            refine hK _ _ Sydy14_17.out (fun _ => ?_)
            clear hK K
            try simp only [Act.put, List.setIfInBounds_toArray, List.set_cons_zero, List.set_cons_succ]
            refine wpAnyH_take (i := 10) (oi := ⟨some 10, _, _, _, _, _⟩) (v := ?vydy14_18) rfl (by kernel_rfl) (by kernel_rfl) (by kernel_rfl) (fun _ _ _ h => h) (Or.inl ⟨by rfl, ?yydy14_18⟩) Sydy14_17.out ?rydy14_18
            case yydy14_18 =>
              rintro w' hSw
              go_simp
              try with_reducible rfl
            try simp only [Act.put, List.setIfInBounds_toArray, List.set_cons_zero, List.set_cons_succ]
            refine wpAnyH_done (by kernel_rfl) ?_ _
            go_wp2_with fail
            go_meet
            exact ⟨rfl, gREydy14_12, rfl, REsydy14_17.out, ngREydy14_12, Sydy14_17.out⟩
        · rw [if_pos (by rfl)]
          go_simp
          have hr := Lib.hid (row_last Xydy14_3 Xydy14_3.heap.size 33 [.int .u64 0, .int .u64 0] rfl)
          have Sydy14_19 := Lib.hid (Sydy14_3.out.alloc Sydy14_3.out.size (.cells #[.int .u64 0, .int .u64 0] 33))
          obtain ⟨gREydy14_19, hgREydy14_19⟩ : ∃ g, g = Xydy14_3.heap.size := ⟨_, rfl⟩
          have ngREydy14_19 : Wc11.heap.size ≤ gREydy14_19 := by rw [hgREydy14_19]; exact Sydy14_3.out.size
          rw [← hgREydy14_19] at hr ⊢
          have REnydy14_19 := hr
          clear hr hgREydy14_19 Sydy14_3 
          generalize Xydy14_3.alloc (.cells #[.int .u64 0, .int .u64 0] 33) = Xydy14_19 at Sydy14_19 REnydy14_19 ⊢
          refine hK _ _ Sydy14_19.out (fun _ => ?_)
          clear hK K
          try simp only [Act.put, List.setIfInBounds_toArray, List.set_cons_zero, List.set_cons_succ]
          refine wpAnyH_ready (rs := [3]) (by kernel_rfl) (by simp) ?_
          refine (AllReadyH.cons rfl (fun K hK => ?_) AllReadyH.nil)
          go_simp
          refine (HB2.out _).mono ?_
          rintro e Xydy14_20 ⟨rfl, hb⟩
          have Sydy14_20 := Lib.hid (Sydy14_19.out.trans (hb.mono Sydy14_19.out.size))
          have REcydy14_20 := Lib.hid (REnydy14_19.out.below hb REnydy14_19.out.lt)
          clear hb Sydy14_19 REnydy14_19
          refine hK _ _ Sydy14_20.out (fun _ => ?_)
          clear hK K
          try simp only [Act.put, List.setIfInBounds_toArray, List.set_cons_zero, List.set_cons_succ]
          refine wpAnyH_ready (rs := [4]) (by kernel_rfl) (by simp) ?_
          refine (AllReadyH.cons rfl (fun K hK => ?_) AllReadyH.nil)
          go_simp
          refine (HB3.out _).mono ?_
          rintro e Xydy14_21 ⟨rfl, hb⟩
          have Sydy14_21 := Lib.hid (Sydy14_20.out.trans (hb.mono Sydy14_20.out.size))
          have REcydy14_21 := Lib.hid (REcydy14_20.out.below hb REcydy14_20.out.lt)
          clear hb Sydy14_20 REcydy14_20
          refine hK _ _ Sydy14_21.out (fun _ => ?_)
          clear hK K
          try simp only [Act.put, List.setIfInBounds_toArray, List.set_cons_zero, List.set_cons_succ]
          refine wpAnyH_take (i := 5) (oi := ⟨some 29, _, _, _, _, _⟩) (v := ?vydy14_22) rfl (by kernel_rfl) (by kernel_rfl) (by kernel_rfl) (fun _ _ _ h => h) (Or.inl ⟨by rfl, ?yydy14_22⟩) Sydy14_21.out ?rydy14_22
          case yydy14_22 =>
            rintro w' hSw
            go_simp
            try with_reducible rfl
          try simp only [Act.put, List.setIfInBounds_toArray, List.set_cons_zero, List.set_cons_succ]
          refine wpAnyH_take (i := 6) (oi := ⟨some 35, _, _, _, _, _⟩) (v := ?vydy14_23) rfl (by kernel_rfl) (by kernel_rfl) (by kernel_rfl) (fun _ _ _ h => h) (Or.inl ⟨by rfl, ?yydy14_23⟩) Sydy14_21.out ?rydy14_23
          case yydy14_23 =>
            rintro w' hSw
            go_simp
            try with_reducible rfl
          try simp only [Act.put, List.setIfInBounds_toArray, List.set_cons_zero, List.set_cons_succ]
          refine wpAnyH_take (i := 7) (oi := ⟨some 36, _, _, _, _, _⟩) (v := ?vydy14_24) rfl (by kernel_rfl) (by kernel_rfl) (by kernel_rfl) (fun _ _ _ h => h) (Or.inl ⟨by rfl, ?yydy14_24⟩) Sydy14_21.out ?rydy14_24
          case yydy14_24 =>
            rintro w' hSw
            go_simp
            try with_reducible rfl
          try simp only [Act.put, List.setIfInBounds_toArray, List.set_cons_zero, List.set_cons_succ]
          refine wpAnyH_ready (rs := [9]) (by kernel_rfl) (by simp) ?_
          refine (AllReadyH.cons rfl (fun K hK => ?_) AllReadyH.nil)
          have f0 := REcydy14_21.out.frozen 0
          have k0 := REcydy14_21.out.cell 0
          have f1 := REcydy14_21.out.frozen 1
          have k1 := REcydy14_21.out.cell 1
          simp only [List.getElem?_cons_zero, List.getElem?_cons_succ] at k0 k1
          rw [if_pos (by rfl)]
          go_simp
          clear f0 k0 f1 k1
          have REsydy14_25 : Hid (Row ((Xydy14_21.setCell ⟨gREydy14_19, 0, none⟩ (.int .u64 (mh : Int))).setCell ⟨gREydy14_19, 1, none⟩ (.int .u64 (ml : Int))) gREydy14_19 33 [.int .u64 (mh : Int), .int .u64 (ml : Int)]) := Lib.hid ((REcydy14_21.out.store 0 (.int .u64 (mh : Int))).store 1 (.int .u64 (ml : Int)))
          have Sydy14_25 := Lib.hid ((Sydy14_21.out.setCell (p := ⟨gREydy14_19, 0, none⟩) (by dsimp only; omega) (.int .u64 (mh : Int))).setCell (p := ⟨gREydy14_19, 1, none⟩) (by dsimp only; omega) (.int .u64 (ml : Int)))
          clear Sydy14_21 REcydy14_21
          generalize ((Xydy14_21.setCell ⟨gREydy14_19, 0, none⟩ (.int .u64 (mh : Int))).setCell ⟨gREydy14_19, 1, none⟩ (.int .u64 (ml : Int))) = Xydy14_25 at Sydy14_25 REsydy14_25 ⊢
          refine hK _ _ Sydy14_25.out (fun _ => ?_)
          clear hK K
          try simp only [Act.put, List.setIfInBounds_toArray, List.set_cons_zero, List.set_cons_succ]
          refine wpAnyH_take (i := 10) (oi := ⟨some 10, _, _, _, _, _⟩) (v := ?vydy14_26) rfl (by kernel_rfl) (by kernel_rfl) (by kernel_rfl) (fun _ _ _ h => h) (Or.inl ⟨by rfl, ?yydy14_26⟩) Sydy14_25.out ?rydy14_26
          case yydy14_26 =>
            rintro w' hSw
            go_simp
            try with_reducible rfl
          try simp only [Act.put, List.setIfInBounds_toArray, List.set_cons_zero, List.set_cons_succ]
          refine wpAnyH_done (by kernel_rfl) ?_ _
          go_wp2_with fail
          go_meet
          exact ⟨rfl, gREydy14_19, rfl, REsydy14_25.out, ngREydy14_19, Sydy14_25.out⟩
      · rw [if_pos (by rfl)]
        go_simp
        have hr := Lib.hid (row_last Dy14 Dy14.heap.size 33 [.int .u64 0, .int .u64 0] rfl)
        have Sydy14_27 := Lib.hid (S_y14.out.alloc S_y14.out.size (.cells #[.int .u64 0, .int .u64 0] 33))
        obtain ⟨gREydy14_27, hgREydy14_27⟩ : ∃ g, g = Dy14.heap.size := ⟨_, rfl⟩
        have ngREydy14_27 : Wc11.heap.size ≤ gREydy14_27 := by rw [hgREydy14_27]; exact S_y14.out.size
        rw [← hgREydy14_27] at hr ⊢
        have REnydy14_27 := hr
        clear hr hgREydy14_27 S_y14 
        generalize Dy14.alloc (.cells #[.int .u64 0, .int .u64 0] 33) = Xydy14_27 at Sydy14_27 REnydy14_27 ⊢
        refine hK _ _ Sydy14_27.out (fun _ => ?_)
        clear hK K
        try simp only [Act.put, List.setIfInBounds_toArray, List.set_cons_zero, List.set_cons_succ]
        refine wpAnyH_ready (rs := [1]) (by kernel_rfl) (by simp) ?_
        refine (AllReadyH.cons rfl (fun K hK => ?_) AllReadyH.nil)
        go_simp
        refine (HB1.out _).mono ?_
        rintro e Xydy14_28 ⟨rfl, hb⟩
        have Sydy14_28 := Lib.hid (Sydy14_27.out.trans (hb.mono Sydy14_27.out.size))
        have REcydy14_28 := Lib.hid (REnydy14_27.out.below hb REnydy14_27.out.lt)
        clear hb Sydy14_27 REnydy14_27
        refine hK _ _ Sydy14_28.out (fun _ => ?_)
        clear hK K
        try simp only [Act.put, List.setIfInBounds_toArray, List.set_cons_zero, List.set_cons_succ]
        refine wpAnyH_ready (rs := [3]) (by kernel_rfl) (by simp) ?_
        refine (AllReadyH.cons rfl (fun K hK => ?_) AllReadyH.nil)
        go_simp
        refine (HB2.out _).mono ?_
        rintro e Xydy14_29 ⟨rfl, hb⟩
        have Sydy14_29 := Lib.hid (Sydy14_28.out.trans (hb.mono Sydy14_28.out.size))
        have REcydy14_29 := Lib.hid (REcydy14_28.out.below hb REcydy14_28.out.lt)
        clear hb Sydy14_28 REcydy14_28
        refine hK _ _ Sydy14_29.out (fun _ => ?_)
        clear hK K
        try simp only [Act.put, List.setIfInBounds_toArray, List.set_cons_zero, List.set_cons_succ]
        refine wpAnyH_ready (rs := [4]) (by kernel_rfl) (by simp) ?_
        refine (AllReadyH.cons rfl (fun K hK => ?_) AllReadyH.nil)
        go_simp
        refine (HB3.out _).mono ?_
        rintro e Xydy14_30 ⟨rfl, hb⟩
        have Sydy14_30 := Lib.hid (Sydy14_29.out.trans (hb.mono Sydy14_29.out.size))
        have REcydy14_30 := Lib.hid (REcydy14_29.out.below hb REcydy14_29.out.lt)
        clear hb Sydy14_29 REcydy14_29
        refine hK _ _ Sydy14_30.out (fun _ => ?_)
        clear hK K
        try simp only [Act.put, List.setIfInBounds_toArray, List.set_cons_zero, List.set_cons_succ]
        refine wpAnyH_take (i := 5) (oi := ⟨some 29, _, _, _, _, _⟩) (v := ?vydy14_31) rfl (by kernel_rfl) (by kernel_rfl) (by kernel_rfl) (fun _ _ _ h => h) (Or.inl ⟨by rfl, ?yydy14_31⟩) Sydy14_30.out ?rydy14_31
        case yydy14_31 =>
          rintro w' hSw
          go_simp
          try with_reducible rfl
        try simp only [Act.put, List.setIfInBounds_toArray, List.set_cons_zero, List.set_cons_succ]
        refine wpAnyH_take (i := 6) (oi := ⟨some 35, _, _, _, _, _⟩) (v := ?vydy14_32) rfl (by kernel_rfl) (by kernel_rfl) (by kernel_rfl) (fun _ _ _ h => h) (Or.inl ⟨by rfl, ?yydy14_32⟩) Sydy14_30.out ?rydy14_32
        case yydy14_32 =>
          rintro w' hSw
          go_simp
          try with_reducible rfl
        try simp only [Act.put, List.setIfInBounds_toArray, List.set_cons_zero, List.set_cons_succ]
        refine wpAnyH_take (i := 7) (oi := ⟨some 36, _, _, _, _, _⟩) (v := ?vydy14_33) rfl (by kernel_rfl) (by kernel_rfl) (by kernel_rfl) (fun _ _ _ h => h) (Or.inl ⟨by rfl, ?yydy14_33⟩) Sydy14_30.out ?rydy14_33
        case yydy14_33 =>
          rintro w' hSw
          go_simp
          try with_reducible rfl
        try simp only [Act.put, List.setIfInBounds_toArray, List.set_cons_zero, List.set_cons_succ]
        refine wpAnyH_ready (rs := [9]) (by kernel_rfl) (by simp) ?_
        refine (AllReadyH.cons rfl (fun K hK => ?_) AllReadyH.nil)
        have f0 := REcydy14_30.out.frozen 0
        have k0 := REcydy14_30.out.cell 0
        have f1 := REcydy14_30.out.frozen 1
        have k1 := REcydy14_30.out.cell 1
        simp only [List.getElem?_cons_zero, List.getElem?_cons_succ] at k0 k1
        rw [if_pos (by rfl)]
        go_simp
        clear f0 k0 f1 k1
        have REsydy14_34 : Hid (Row ((Xydy14_30.setCell ⟨gREydy14_27, 0, none⟩ (.int .u64 (mh : Int))).setCell ⟨gREydy14_27, 1, none⟩ (.int .u64 (ml : Int))) gREydy14_27 33 [.int .u64 (mh : Int), .int .u64 (ml : Int)]) := Lib.hid ((REcydy14_30.out.store 0 (.int .u64 (mh : Int))).store 1 (.int .u64 (ml : Int)))
        have Sydy14_34 := Lib.hid ((Sydy14_30.out.setCell (p := ⟨gREydy14_27, 0, none⟩) (by dsimp only; omega) (.int .u64 (mh : Int))).setCell (p := ⟨gREydy14_27, 1, none⟩) (by dsimp only; omega) (.int .u64 (ml : Int)))
        clear Sydy14_30 REcydy14_30
        generalize ((Xydy14_30.setCell ⟨gREydy14_27, 0, none⟩ (.int .u64 (mh : Int))).setCell ⟨gREydy14_27, 1, none⟩ (.int .u64 (ml : Int))) = Xydy14_34 at Sydy14_34 REsydy14_34 ⊢
        refine hK _ _ Sydy14_34.out (fun _ => ?_)
        clear hK K
        try simp only [Act.put, List.setIfInBounds_toArray, List.set_cons_zero, List.set_cons_succ]
        refine wpAnyH_take (i := 10) (oi := ⟨some 10, _, _, _, _, _⟩) (v := ?vydy14_35) rfl (by kernel_rfl) (by kernel_rfl) (by kernel_rfl) (fun _ _ _ h => h) (Or.inl ⟨by rfl, ?yydy14_35⟩) Sydy14_34.out ?rydy14_35
        case yydy14_35 =>
          rintro w' hSw
          go_simp
          try with_reducible rfl
        try simp only [Act.put, List.setIfInBounds_toArray, List.set_cons_zero, List.set_cons_succ]
        refine wpAnyH_done (by kernel_rfl) ?_ _
        go_wp2_with fail
        go_meet
        exact ⟨rfl, gREydy14_27, rfl, REsydy14_34.out, ngREydy14_27, Sydy14_34.out⟩
    case rest =>
      rename World => Wcy14
      obtain ⟨rfl, gRE_y14, rfl, hrow, hge, hb⟩ := hcut
      have RE_y14 := Lib.hid hrow
      clear hrow
      have hdy14_0 : w.heap.size < gRE_y14 := Nat.lt_of_lt_of_le RA_13.out.lt hge
      have hdy14_1 : w.heap.size + 1 < gRE_y14 := Nat.lt_of_lt_of_le RB_13.out.lt hge
      have hdy14_2 : w.heap.size + 1 + 1 < gRE_y14 := Nat.lt_of_lt_of_le R1_13.out.lt hge
      have hdy14_3 : w.heap.size + 1 + 1 + 1 < gRE_y14 := Nat.lt_of_lt_of_le R2_13.out.lt hge
      have hdy14_4 : W6.heap.size < gRE_y14 := Nat.lt_of_lt_of_le RM_13.out.lt hge
      have hdy14_5 : gRD_11 < gRE_y14 := Nat.lt_of_lt_of_le RD_11.out.lt hge
      have RA_y16 := Lib.hid (RA_13.out.below hb RA_13.out.lt)
      have RB_y16 := Lib.hid (RB_13.out.below hb RB_13.out.lt)
      have R1_y16 := Lib.hid (R1_13.out.below hb R1_13.out.lt)
      have R2_y16 := Lib.hid (R2_13.out.below hb R2_13.out.lt)
      have RM_y16 := Lib.hid (RM_13.out.below hb RM_13.out.lt)
      have RD_y16 := Lib.hid (RD_11.out.below hb RD_11.out.lt)
      have B_y16 := Lib.hid (B_13.out.trans (hb.mono B_13.out.size))
      clear hb RA_13 RB_13 R1_13 R2_13 RM_13 RD_11 B_13
      go_wp2_with fail
      refine wp_region_held_drew (S := fun w' => Row w' (gRD_11) 33 [.int .u64 (gh : Int), .int .u64 (gl : Int)] ∧ Row w' (gRE_y14) 33 [.int .u64 (mh : Int), .int .u64 (ml : Int)]) (by kernel_rfl) ⟨RD_y16.out.drew, RE_y14.out.drew⟩ (fun hHeld => ?_)
      clear hHeld
      have RA_z17 := Lib.hid RA_y16.out.drew
      have RB_z17 := Lib.hid RB_y16.out.drew
      have R1_z17 := Lib.hid R1_y16.out.drew
      have R2_z17 := Lib.hid R2_y16.out.drew
      have RM_z17 := Lib.hid RM_y16.out.drew
      have RD_z17 := Lib.hid RD_y16.out.drew
      have RE_z17 := Lib.hid RE_y14.out.drew
      have B_z17 := Lib.hid B_y16.out.drew
      clear RA_y16 RB_y16 R1_y16 R2_y16 RM_y16 RD_y16 RE_y14 B_y16
      generalize Wcy14.drew = Dz17 at RA_z17 RB_z17 R1_z17 R2_z17 RM_z17 RD_z17 RE_z17 B_z17 ⊢
      refine wpAnyH_take (i := 0) (oi := ⟨some 37, _, _, _, _, _⟩) (v := ?vzrz17_1) rfl (by kernel_rfl) (by kernel_rfl) (by kernel_rfl) (fun _ _ _ h => h) (Or.inl ⟨by rfl, ?yzrz17_1⟩) ⟨RD_z17.out, RE_z17.out⟩ ?rzrz17_1
      case yzrz17_1 =>
        rintro w' hSw
        have k0 := (show Row w' _ _ _ from hSw.1).cell 0
        have k1 := (show Row w' _ _ _ from hSw.1).cell 1
        simp only [List.getElem?_cons_zero, List.getElem?_cons_succ] at k0 k1
        go_simp
        try with_reducible rfl
      try simp only [Act.put, List.setIfInBounds_toArray, List.set_cons_zero, List.set_cons_succ]
      refine wpAnyH_take (i := 1) (oi := ⟨some 38, _, _, _, _, _⟩) (v := ?vzrz17_2) rfl (by kernel_rfl) (by kernel_rfl) (by kernel_rfl) (fun _ _ _ h => h) (Or.inl ⟨by rfl, ?yzrz17_2⟩) ⟨RD_z17.out, RE_z17.out⟩ ?rzrz17_2
      case yzrz17_2 =>
        rintro w' hSw
        have k0 := (show Row w' _ _ _ from hSw.2).cell 0
        have k1 := (show Row w' _ _ _ from hSw.2).cell 1
        simp only [List.getElem?_cons_zero, List.getElem?_cons_succ] at k0 k1
        go_simp
        try with_reducible rfl
      try simp only [Act.put, List.setIfInBounds_toArray, List.set_cons_zero, List.set_cons_succ]
      refine wpAnyH_ready (rs := [2]) (by kernel_rfl) (by simp) ?_
      refine (AllReadyH.cons rfl (fun K hK => ?_) AllReadyH.nil)
      have f0 := R1_z17.out.frozen 0
      have k0 := R1_z17.out.cell 0
      have f1 := R1_z17.out.frozen 1
      have k1 := R1_z17.out.cell 1
      simp only [List.getElem?_cons_zero, List.getElem?_cons_succ] at k0 k1
      rw [if_pos (by rfl)]
      go_simp
      clear f0 k0 f1 k1
      have RA_szrz17_3 := Lib.hid ((RA_z17.out.far (p := ⟨w.heap.size + 1 + 1, 0, none⟩) (by dsimp only; omega) (.int .u64 (gh : Int))).far (p := ⟨w.heap.size + 1 + 1, 1, none⟩) (by dsimp only; omega) (.int .u64 (gl : Int)))
      have RB_szrz17_3 := Lib.hid ((RB_z17.out.far (p := ⟨w.heap.size + 1 + 1, 0, none⟩) (by dsimp only; omega) (.int .u64 (gh : Int))).far (p := ⟨w.heap.size + 1 + 1, 1, none⟩) (by dsimp only; omega) (.int .u64 (gl : Int)))
      have R1_szrz17_3 : Hid (Row ((Dz17.setCell ⟨w.heap.size + 1 + 1, 0, none⟩ (.int .u64 (gh : Int))).setCell ⟨w.heap.size + 1 + 1, 1, none⟩ (.int .u64 (gl : Int))) (w.heap.size + 1 + 1) 33 [.int .u64 (gh : Int), .int .u64 (gl : Int)]) := Lib.hid ((R1_z17.out.store 0 (.int .u64 (gh : Int))).store 1 (.int .u64 (gl : Int)))
      have R2_szrz17_3 := Lib.hid ((R2_z17.out.far (p := ⟨w.heap.size + 1 + 1, 0, none⟩) (by dsimp only; omega) (.int .u64 (gh : Int))).far (p := ⟨w.heap.size + 1 + 1, 1, none⟩) (by dsimp only; omega) (.int .u64 (gl : Int)))
      have RM_szrz17_3 := Lib.hid ((RM_z17.out.far (p := ⟨w.heap.size + 1 + 1, 0, none⟩) (by dsimp only; omega) (.int .u64 (gh : Int))).far (p := ⟨w.heap.size + 1 + 1, 1, none⟩) (by dsimp only; omega) (.int .u64 (gl : Int)))
      have RD_szrz17_3 := Lib.hid ((RD_z17.out.far (p := ⟨w.heap.size + 1 + 1, 0, none⟩) (by dsimp only; omega) (.int .u64 (gh : Int))).far (p := ⟨w.heap.size + 1 + 1, 1, none⟩) (by dsimp only; omega) (.int .u64 (gl : Int)))
      have RE_szrz17_3 := Lib.hid ((RE_z17.out.far (p := ⟨w.heap.size + 1 + 1, 0, none⟩) (by dsimp only; omega) (.int .u64 (gh : Int))).far (p := ⟨w.heap.size + 1 + 1, 1, none⟩) (by dsimp only; omega) (.int .u64 (gl : Int)))
      have B_szrz17_3 := Lib.hid ((B_z17.out.setCell (p := ⟨w.heap.size + 1 + 1, 0, none⟩) (by dsimp only; omega) (.int .u64 (gh : Int))).setCell (p := ⟨w.heap.size + 1 + 1, 1, none⟩) (by dsimp only; omega) (.int .u64 (gl : Int)))
      clear RA_z17 RB_z17 R1_z17 R2_z17 RM_z17 RD_z17 RE_z17 B_z17
      generalize ((Dz17.setCell ⟨w.heap.size + 1 + 1, 0, none⟩ (.int .u64 (gh : Int))).setCell ⟨w.heap.size + 1 + 1, 1, none⟩ (.int .u64 (gl : Int))) = Xzrz17_3 at RA_szrz17_3 RB_szrz17_3 R1_szrz17_3 R2_szrz17_3 RM_szrz17_3 RD_szrz17_3 RE_szrz17_3 B_szrz17_3 ⊢
      refine hK _ _ ⟨RD_szrz17_3.out, RE_szrz17_3.out⟩ (fun _ => ?_)
      clear hK K
      try simp only [Act.put, List.setIfInBounds_toArray, List.set_cons_zero, List.set_cons_succ]
      refine wpAnyH_ready (rs := [3]) (by kernel_rfl) (by simp) ?_
      refine (AllReadyH.cons rfl (fun K hK => ?_) AllReadyH.nil)
      have f0 := R2_szrz17_3.out.frozen 0
      have k0 := R2_szrz17_3.out.cell 0
      have f1 := R2_szrz17_3.out.frozen 1
      have k1 := R2_szrz17_3.out.cell 1
      simp only [List.getElem?_cons_zero, List.getElem?_cons_succ] at k0 k1
      rw [if_pos (by rfl)]
      go_simp
      clear f0 k0 f1 k1
      have RA_szrz17_4 := Lib.hid ((RA_szrz17_3.out.far (p := ⟨w.heap.size + 1 + 1 + 1, 0, none⟩) (by dsimp only; omega) (.int .u64 (mh : Int))).far (p := ⟨w.heap.size + 1 + 1 + 1, 1, none⟩) (by dsimp only; omega) (.int .u64 (ml : Int)))
      have RB_szrz17_4 := Lib.hid ((RB_szrz17_3.out.far (p := ⟨w.heap.size + 1 + 1 + 1, 0, none⟩) (by dsimp only; omega) (.int .u64 (mh : Int))).far (p := ⟨w.heap.size + 1 + 1 + 1, 1, none⟩) (by dsimp only; omega) (.int .u64 (ml : Int)))
      have R1_szrz17_4 := Lib.hid ((R1_szrz17_3.out.far (p := ⟨w.heap.size + 1 + 1 + 1, 0, none⟩) (by dsimp only; omega) (.int .u64 (mh : Int))).far (p := ⟨w.heap.size + 1 + 1 + 1, 1, none⟩) (by dsimp only; omega) (.int .u64 (ml : Int)))
      have R2_szrz17_4 : Hid (Row ((Xzrz17_3.setCell ⟨w.heap.size + 1 + 1 + 1, 0, none⟩ (.int .u64 (mh : Int))).setCell ⟨w.heap.size + 1 + 1 + 1, 1, none⟩ (.int .u64 (ml : Int))) (w.heap.size + 1 + 1 + 1) 33 [.int .u64 (mh : Int), .int .u64 (ml : Int)]) := Lib.hid ((R2_szrz17_3.out.store 0 (.int .u64 (mh : Int))).store 1 (.int .u64 (ml : Int)))
      have RM_szrz17_4 := Lib.hid ((RM_szrz17_3.out.far (p := ⟨w.heap.size + 1 + 1 + 1, 0, none⟩) (by dsimp only; omega) (.int .u64 (mh : Int))).far (p := ⟨w.heap.size + 1 + 1 + 1, 1, none⟩) (by dsimp only; omega) (.int .u64 (ml : Int)))
      have RD_szrz17_4 := Lib.hid ((RD_szrz17_3.out.far (p := ⟨w.heap.size + 1 + 1 + 1, 0, none⟩) (by dsimp only; omega) (.int .u64 (mh : Int))).far (p := ⟨w.heap.size + 1 + 1 + 1, 1, none⟩) (by dsimp only; omega) (.int .u64 (ml : Int)))
      have RE_szrz17_4 := Lib.hid ((RE_szrz17_3.out.far (p := ⟨w.heap.size + 1 + 1 + 1, 0, none⟩) (by dsimp only; omega) (.int .u64 (mh : Int))).far (p := ⟨w.heap.size + 1 + 1 + 1, 1, none⟩) (by dsimp only; omega) (.int .u64 (ml : Int)))
      have B_szrz17_4 := Lib.hid ((B_szrz17_3.out.setCell (p := ⟨w.heap.size + 1 + 1 + 1, 0, none⟩) (by dsimp only; omega) (.int .u64 (mh : Int))).setCell (p := ⟨w.heap.size + 1 + 1 + 1, 1, none⟩) (by dsimp only; omega) (.int .u64 (ml : Int)))
      clear RA_szrz17_3 RB_szrz17_3 R1_szrz17_3 R2_szrz17_3 RM_szrz17_3 RD_szrz17_3 RE_szrz17_3 B_szrz17_3
      generalize ((Xzrz17_3.setCell ⟨w.heap.size + 1 + 1 + 1, 0, none⟩ (.int .u64 (mh : Int))).setCell ⟨w.heap.size + 1 + 1 + 1, 1, none⟩ (.int .u64 (ml : Int))) = Xzrz17_4 at RA_szrz17_4 RB_szrz17_4 R1_szrz17_4 R2_szrz17_4 RM_szrz17_4 RD_szrz17_4 RE_szrz17_4 B_szrz17_4 ⊢
      refine hK _ _ ⟨RD_szrz17_4.out, RE_szrz17_4.out⟩ (fun _ => ?_)
      clear hK K
      try simp only [Act.put, List.setIfInBounds_toArray, List.set_cons_zero, List.set_cons_succ]
      refine wpAnyH_done (by kernel_rfl) ?_ _
      have cz18_0 := R1_szrz17_4.out.cell 0
      have cz18_1 := R1_szrz17_4.out.cell 1
      simp only [List.getElem?_cons_zero, List.getElem?_cons_succ] at cz18_0 cz18_1
      have cz19_0 := R2_szrz17_4.out.cell 0
      have cz19_1 := R2_szrz17_4.out.cell 1
      simp only [List.getElem?_cons_zero, List.getElem?_cons_succ] at cz19_0 cz19_1
      go_wp2
      exact bodyPost_ret (v := .tuple #[.agg #[.int .u64 (gh : Int), .int .u64 (gl : Int)], .agg #[.int .u64 (mh : Int), .int .u64 (ml : Int)]]) (by simp [results, Try.results17, go_sem, *]) rfl ⟨rfl, B_szrz17_4.out⟩
end Go.Proofs.Ytbmfijcckdkmdaa.Ky
