/-
  Keys: the reference's Grows, Order, Less.
-/
import Derived.Test.YtbmfijcckdkmdaaKy7
import Derived.Test.YtbmfijcckdkmdaaKy15u
import Derived.Test.YtbmfijcckdkmdaaWiI
import Derived.Deep.CutRange
import Derived.Test.YtbmfijcckdkmdaaWi2
import Derived.LoopTactic
import Derived.Deep.RegionHeld
import Derived.Deep.Cut
import Derived.WalkLawsBesides
namespace Go.Proofs.Ytbmfijcckdkmdaa.Ky
set_option maxRecDepth 100000
open Go.RowKit Go.Proofs.Ytbmfijcckdkmdaa.Wd Go.Proofs.Ytbmfijcckdkmdaa.Wi Go.Proofs.Ytbmfijcckdkmdaa.Lift


theorem AreaR_is {x0 x1 y0 y1 : Int} {h l : Nat} (k : KOk x0 x1 y0 y1) (H : Wn (widM x0 x1 * widM y0 y1) h l) (w : World) :
    Calls Try.prog 30 #[KV x0 x1 y0 y1] w fun e w' => e = .returned (.agg #[.int .u64 (h : Int), .int .u64 (l : Int)]) ∧ Below w.heap.size w w' :=
  Area_ref x0 x1 y0 y1 h l w k.a1 k.a2 k.a3 k.a4 k.a5 k.a6 k.a7 k.a8 H.hh H.hl H.he
theorem MarginR_is {x0 x1 y0 y1 : Int} {h l : Nat} (k : KOk x0 x1 y0 y1) (H : Wn (widM x0 x1 + widM y0 y1) h l) (w : World) :
    Calls Try.prog 31 #[KV x0 x1 y0 y1] w fun e w' => e = .returned (.agg #[.int .u64 (h : Int), .int .u64 (l : Int)]) ∧ Below w.heap.size w w' :=
  Margin_ref x0 x1 y0 y1 h l w k.a1 k.a2 k.a3 k.a4 k.a5 k.a6 k.a7 k.a8 H.hh H.hl H.he
theorem SubR_le {a b ah al bh bl h l : Nat} (HA : Wn a ah al) (HB : Wn b bh bl) (hb : b ≤ a) (HD : Wn (a - b) h l) (w : World) : Calls Try.prog 29 #[.agg #[.int .u64 (ah : Int), .int .u64 (al : Int)], .agg #[.int .u64 (bh : Int), .int .u64 (bl : Int)]] w fun e w' => e = .returned (.tuple #[.agg #[.int .u64 (h : Int), .int .u64 (l : Int)], .bool true]) ∧ Below w.heap.size w w' := by
  have h1 := HA.he
  have h2 := HB.he
  have h3 := HD.he
  exact Sub_ref ah al bh bl h l 1 w HA.hh HA.hl HB.hh HB.hl HD.hh HD.hl ⟨fun _ => by omega, fun _ => rfl⟩ (by omega)
theorem CmpR_is {a b ah al bh bl : Nat} {s : Int} (HA : Wn a ah al) (HB : Wn b bh bl) (hs : cmpM a b = s) (w : World) : Calls Try.prog 43 #[.agg #[.int .u64 (ah : Int), .int .u64 (al : Int)], .agg #[.int .u64 (bh : Int), .int .u64 (bl : Int)]] w fun e w' => e = .returned (.int .i64 s) ∧ Below w.heap.size w w' := by
  have := Cmp_ref ah al bh bl w HA.hh HA.hl HB.hh HB.hl
  rw [← HA.he, ← HB.he, hs] at this
  exact this

set_option maxHeartbeats 4000000 in
theorem GrowsR_no (x0 x1 y0 y1 u0 u1 v0 v1 : Int) (hr : (boxB x0 x1 y0 y1 && boxB u0 u1 v0 v1) = false) (w : World) :
    Calls Try.prog 18 #[KV x0 x1 y0 y1, KV u0 u1 v0 v1] w fun e w' => e = .returned (.tuple #[.agg #[.int .u64 0, .int .u64 0], .agg #[.int .u64 0, .int .u64 0]]) ∧ Below w.heap.size w w' := by
  have HBA := Lib.hid (Box_ref x0 x1 y0 y1)
  have HBB := Lib.hid (Box_ref u0 u1 v0 v1)
  cases ha : boxB x0 x1 y0 y1
  · rw [ha] at HBA
    clear ha hr
    go_enter Try.func18, Try.ntmps18
    go_upto_region 1 with fail
    have RA_a1 := Lib.hid ((((row_last w (w.heap.size) 23 [.int .i64 x0, .int .i64 x1, .int .i64 y0, .int .i64 y1] (by simp)).alloc (.cells #[.int .i64 u0, .int .i64 u1, .int .i64 v0, .int .i64 v1] 23)).alloc (.cells #[.int .u64 0, .int .u64 0] 33)).alloc (.cells #[.int .u64 0, .int .u64 0] 33))
    have RB_a1 := Lib.hid (((row_last (w.alloc (.cells #[.int .i64 x0, .int .i64 x1, .int .i64 y0, .int .i64 y1] 23)) (w.heap.size + 1) 23 [.int .i64 u0, .int .i64 u1, .int .i64 v0, .int .i64 v1] (by simp)).alloc (.cells #[.int .u64 0, .int .u64 0] 33)).alloc (.cells #[.int .u64 0, .int .u64 0] 33))
    have R1_a1 := Lib.hid ((row_last ((w.alloc (.cells #[.int .i64 x0, .int .i64 x1, .int .i64 y0, .int .i64 y1] 23)).alloc (.cells #[.int .i64 u0, .int .i64 u1, .int .i64 v0, .int .i64 v1] 23)) (w.heap.size + 1 + 1) 33 [.int .u64 0, .int .u64 0] (by simp)).alloc (.cells #[.int .u64 0, .int .u64 0] 33))
    have R2_a1 := Lib.hid (row_last (((w.alloc (.cells #[.int .i64 x0, .int .i64 x1, .int .i64 y0, .int .i64 y1] 23)).alloc (.cells #[.int .i64 u0, .int .i64 u1, .int .i64 v0, .int .i64 v1] 23)).alloc (.cells #[.int .u64 0, .int .u64 0] 33)) (w.heap.size + 1 + 1 + 1) 33 [.int .u64 0, .int .u64 0] (by simp))
    have B_a1 := Lib.hid (((((Below.refl w.heap.size w).alloc (Nat.le_refl _) (.cells #[.int .i64 x0, .int .i64 x1, .int .i64 y0, .int .i64 y1] 23)).alloc (by have := Nat.le_refl w.heap.size; simp <;> omega) (.cells #[.int .i64 u0, .int .i64 u1, .int .i64 v0, .int .i64 v1] 23)).alloc (by have := Nat.le_refl w.heap.size; simp <;> omega) (.cells #[.int .u64 0, .int .u64 0] 33)).alloc (by have := Nat.le_refl w.heap.size; simp <;> omega) (.cells #[.int .u64 0, .int .u64 0] 33))
    generalize ((((w.alloc (.cells #[.int .i64 x0, .int .i64 x1, .int .i64 y0, .int .i64 y1] 23)).alloc (.cells #[.int .i64 u0, .int .i64 u1, .int .i64 v0, .int .i64 v1] 23)).alloc (.cells #[.int .u64 0, .int .u64 0] 33)).alloc (.cells #[.int .u64 0, .int .u64 0] 33)) = Va1 at RA_a1 RB_a1 R1_a1 R2_a1 B_a1 ⊢
    have ca3_0 := RA_a1.out.cell 0
    have ca3_1 := RA_a1.out.cell 1
    have ca3_2 := RA_a1.out.cell 2
    have ca3_3 := RA_a1.out.cell 3
    simp only [List.getElem?_cons_zero, List.getElem?_cons_succ] at ca3_0 ca3_1 ca3_2 ca3_3
    go_wp2_with fail
    refine (HBA.out _).mono ?_
    rintro e Wa2 ⟨rfl, hb⟩
    clear ca3_0 ca3_1 ca3_2 ca3_3
    have RA_a4 := Lib.hid (RA_a1.out.below hb RA_a1.out.lt)
    have RB_a4 := Lib.hid (RB_a1.out.below hb RB_a1.out.lt)
    have R1_a4 := Lib.hid (R1_a1.out.below hb R1_a1.out.lt)
    have R2_a4 := Lib.hid (R2_a1.out.below hb R2_a1.out.lt)
    have B_a4 := Lib.hid (B_a1.out.trans (hb.mono B_a1.out.size))
    clear hb RA_a1 RB_a1 R1_a1 R2_a1 B_a1
    have ca5_0 := R1_a4.out.cell 0
    have ca5_1 := R1_a4.out.cell 1
    simp only [List.getElem?_cons_zero, List.getElem?_cons_succ] at ca5_0 ca5_1
    have fa5_0 := R1_a4.out.frozen 0
    have fa5_1 := R1_a4.out.frozen 1
    have ca6_0 := R2_a4.out.cell 0
    have ca6_1 := R2_a4.out.cell 1
    simp only [List.getElem?_cons_zero, List.getElem?_cons_succ] at ca6_0 ca6_1
    have fa6_0 := R2_a4.out.frozen 0
    have fa6_1 := R2_a4.out.frozen 1
    go_wp2
    exact bodyPost_ret (v := .tuple #[.agg #[.int .u64 0, .int .u64 0], .agg #[.int .u64 0, .int .u64 0]]) (by simp [results, Try.results18, go_sem, *]) rfl ⟨rfl, by repeat (first | exact B_a4.out | refine Below.setCell ?_ (by first | omega | (simp; done) | (simp; omega)) _ | refine Below.alloc ?_ (by have := B_a4.out.size; first | omega | (simp; done) | (simp; omega)) _)⟩
  · rw [ha, Bool.true_and] at hr
    rw [ha] at HBA
    rw [hr] at HBB
    clear ha hr
    go_enter Try.func18, Try.ntmps18
    go_upto_region 1 with fail
    have RA_b1 := Lib.hid ((((row_last w (w.heap.size) 23 [.int .i64 x0, .int .i64 x1, .int .i64 y0, .int .i64 y1] (by simp)).alloc (.cells #[.int .i64 u0, .int .i64 u1, .int .i64 v0, .int .i64 v1] 23)).alloc (.cells #[.int .u64 0, .int .u64 0] 33)).alloc (.cells #[.int .u64 0, .int .u64 0] 33))
    have RB_b1 := Lib.hid (((row_last (w.alloc (.cells #[.int .i64 x0, .int .i64 x1, .int .i64 y0, .int .i64 y1] 23)) (w.heap.size + 1) 23 [.int .i64 u0, .int .i64 u1, .int .i64 v0, .int .i64 v1] (by simp)).alloc (.cells #[.int .u64 0, .int .u64 0] 33)).alloc (.cells #[.int .u64 0, .int .u64 0] 33))
    have R1_b1 := Lib.hid ((row_last ((w.alloc (.cells #[.int .i64 x0, .int .i64 x1, .int .i64 y0, .int .i64 y1] 23)).alloc (.cells #[.int .i64 u0, .int .i64 u1, .int .i64 v0, .int .i64 v1] 23)) (w.heap.size + 1 + 1) 33 [.int .u64 0, .int .u64 0] (by simp)).alloc (.cells #[.int .u64 0, .int .u64 0] 33))
    have R2_b1 := Lib.hid (row_last (((w.alloc (.cells #[.int .i64 x0, .int .i64 x1, .int .i64 y0, .int .i64 y1] 23)).alloc (.cells #[.int .i64 u0, .int .i64 u1, .int .i64 v0, .int .i64 v1] 23)).alloc (.cells #[.int .u64 0, .int .u64 0] 33)) (w.heap.size + 1 + 1 + 1) 33 [.int .u64 0, .int .u64 0] (by simp))
    have B_b1 := Lib.hid (((((Below.refl w.heap.size w).alloc (Nat.le_refl _) (.cells #[.int .i64 x0, .int .i64 x1, .int .i64 y0, .int .i64 y1] 23)).alloc (by have := Nat.le_refl w.heap.size; simp <;> omega) (.cells #[.int .i64 u0, .int .i64 u1, .int .i64 v0, .int .i64 v1] 23)).alloc (by have := Nat.le_refl w.heap.size; simp <;> omega) (.cells #[.int .u64 0, .int .u64 0] 33)).alloc (by have := Nat.le_refl w.heap.size; simp <;> omega) (.cells #[.int .u64 0, .int .u64 0] 33))
    generalize ((((w.alloc (.cells #[.int .i64 x0, .int .i64 x1, .int .i64 y0, .int .i64 y1] 23)).alloc (.cells #[.int .i64 u0, .int .i64 u1, .int .i64 v0, .int .i64 v1] 23)).alloc (.cells #[.int .u64 0, .int .u64 0] 33)).alloc (.cells #[.int .u64 0, .int .u64 0] 33)) = Vb1 at RA_b1 RB_b1 R1_b1 R2_b1 B_b1 ⊢
    have cb3_0 := RA_b1.out.cell 0
    have cb3_1 := RA_b1.out.cell 1
    have cb3_2 := RA_b1.out.cell 2
    have cb3_3 := RA_b1.out.cell 3
    simp only [List.getElem?_cons_zero, List.getElem?_cons_succ] at cb3_0 cb3_1 cb3_2 cb3_3
    go_wp2_with fail
    refine (HBA.out _).mono ?_
    rintro e Wb2 ⟨rfl, hb⟩
    clear cb3_0 cb3_1 cb3_2 cb3_3
    have RA_b4 := Lib.hid (RA_b1.out.below hb RA_b1.out.lt)
    have RB_b4 := Lib.hid (RB_b1.out.below hb RB_b1.out.lt)
    have R1_b4 := Lib.hid (R1_b1.out.below hb R1_b1.out.lt)
    have R2_b4 := Lib.hid (R2_b1.out.below hb R2_b1.out.lt)
    have B_b4 := Lib.hid (B_b1.out.trans (hb.mono B_b1.out.size))
    clear hb RA_b1 RB_b1 R1_b1 R2_b1 B_b1
    have cb6_0 := RB_b4.out.cell 0
    have cb6_1 := RB_b4.out.cell 1
    have cb6_2 := RB_b4.out.cell 2
    have cb6_3 := RB_b4.out.cell 3
    simp only [List.getElem?_cons_zero, List.getElem?_cons_succ] at cb6_0 cb6_1 cb6_2 cb6_3
    go_wp2_with fail
    refine (HBB.out _).mono ?_
    rintro e Wb5 ⟨rfl, hb⟩
    clear cb6_0 cb6_1 cb6_2 cb6_3
    have RA_b7 := Lib.hid (RA_b4.out.below hb RA_b4.out.lt)
    have RB_b7 := Lib.hid (RB_b4.out.below hb RB_b4.out.lt)
    have R1_b7 := Lib.hid (R1_b4.out.below hb R1_b4.out.lt)
    have R2_b7 := Lib.hid (R2_b4.out.below hb R2_b4.out.lt)
    have B_b7 := Lib.hid (B_b4.out.trans (hb.mono B_b4.out.size))
    clear hb RA_b4 RB_b4 R1_b4 R2_b4 B_b4
    have cb8_0 := R1_b7.out.cell 0
    have cb8_1 := R1_b7.out.cell 1
    simp only [List.getElem?_cons_zero, List.getElem?_cons_succ] at cb8_0 cb8_1
    have fb8_0 := R1_b7.out.frozen 0
    have fb8_1 := R1_b7.out.frozen 1
    have cb9_0 := R2_b7.out.cell 0
    have cb9_1 := R2_b7.out.cell 1
    simp only [List.getElem?_cons_zero, List.getElem?_cons_succ] at cb9_0 cb9_1
    have fb9_0 := R2_b7.out.frozen 0
    have fb9_1 := R2_b7.out.frozen 1
    go_wp2
    exact bodyPost_ret (v := .tuple #[.agg #[.int .u64 0, .int .u64 0], .agg #[.int .u64 0, .int .u64 0]]) (by simp [results, Try.results18, go_sem, *]) rfl ⟨rfl, by repeat (first | exact B_b7.out | refine Below.setCell ?_ (by first | omega | (simp; done) | (simp; omega)) _ | refine Below.alloc ?_ (by have := B_b7.out.size; first | omega | (simp; done) | (simp; omega)) _)⟩

set_option maxHeartbeats 4000000 in
theorem GrowsR_yes {x0 x1 y0 y1 u0 u1 v0 v1 : Int} {gh gl mh ml : Nat} (kx : KOk x0 x1 y0 y1) (ku : KOk u0 u1 v0 v1) (ha : boxB x0 x1 y0 y1 = true) (hb : boxB u0 u1 v0 v1 = true)
    (HG : Wn (growA x0 x1 y0 y1 u0 u1 v0 v1) gh gl) (HH : Wn (growM x0 x1 y0 y1 u0 u1 v0 v1) mh ml) (w : World) :
    Calls Try.prog 18 #[KV x0 x1 y0 y1, KV u0 u1 v0 v1] w fun e w' => e = .returned (.tuple #[.agg #[.int .u64 (gh : Int), .int .u64 (gl : Int)], .agg #[.int .u64 (mh : Int), .int .u64 (ml : Int)]]) ∧ Below w.heap.size w w' := by
  have HBA := Lib.hid (Box_ref x0 x1 y0 y1)
  have HBB := Lib.hid (Box_ref u0 u1 v0 v1)
  have HU := Lib.hid (Union_ref x0 x1 y0 y1 u0 u1 v0 v1)
  unfold unionV at HU
  unfold growA at HG
  unfold growM at HH
  rw [ha, hb, Bool.and_self, if_pos rfl] at HU
  rw [ha] at HBA
  rw [hb] at HBB
  have km := union_ok kx ku
  obtain ⟨uh, ul, h1⟩ := wn_of _ (area_lt km)
  obtain ⟨ph, pl, h2⟩ := wn_of _ (margin_lt km)
  obtain ⟨xh, xl, h3⟩ := wn_of _ (area_lt kx)
  obtain ⟨qh, ql, h4⟩ := wn_of _ (margin_lt kx)
  have HA1 := Lib.hid (fun w => AreaR_is km h1 w)
  have HA2 := Lib.hid (fun w => AreaR_is kx h3 w)
  have HA3 := Lib.hid (fun w => SubR_le h1 h3 (area_le x0 x1 y0 y1 u0 u1 v0 v1) HG w)
  have HB1 := Lib.hid (fun w => MarginR_is km h2 w)
  have HB2 := Lib.hid (fun w => MarginR_is kx h4 w)
  have HB3 := Lib.hid (fun w => SubR_le h2 h4 (margin_le x0 x1 y0 y1 u0 u1 v0 v1) HH w)
  clear h1 h2 h3 h4 HG HH kx ku km ha hb
  generalize minI x0 u0 = m0 at HU HA1 HB1
  generalize maxI x1 u1 = m1 at HU HA1 HB1
  generalize minI y0 v0 = m2 at HU HA1 HB1
  generalize maxI y1 v1 = m3 at HU HA1 HB1
  go_enter Try.func18, Try.ntmps18
  go_upto_region 1 with fail
  have RA_1 := Lib.hid ((((row_last w (w.heap.size) 23 [.int .i64 x0, .int .i64 x1, .int .i64 y0, .int .i64 y1] (by simp)).alloc (.cells #[.int .i64 u0, .int .i64 u1, .int .i64 v0, .int .i64 v1] 23)).alloc (.cells #[.int .u64 0, .int .u64 0] 33)).alloc (.cells #[.int .u64 0, .int .u64 0] 33))
  have RB_1 := Lib.hid (((row_last (w.alloc (.cells #[.int .i64 x0, .int .i64 x1, .int .i64 y0, .int .i64 y1] 23)) (w.heap.size + 1) 23 [.int .i64 u0, .int .i64 u1, .int .i64 v0, .int .i64 v1] (by simp)).alloc (.cells #[.int .u64 0, .int .u64 0] 33)).alloc (.cells #[.int .u64 0, .int .u64 0] 33))
  have R1_1 := Lib.hid ((row_last ((w.alloc (.cells #[.int .i64 x0, .int .i64 x1, .int .i64 y0, .int .i64 y1] 23)).alloc (.cells #[.int .i64 u0, .int .i64 u1, .int .i64 v0, .int .i64 v1] 23)) (w.heap.size + 1 + 1) 33 [.int .u64 0, .int .u64 0] (by simp)).alloc (.cells #[.int .u64 0, .int .u64 0] 33))
  have R2_1 := Lib.hid (row_last (((w.alloc (.cells #[.int .i64 x0, .int .i64 x1, .int .i64 y0, .int .i64 y1] 23)).alloc (.cells #[.int .i64 u0, .int .i64 u1, .int .i64 v0, .int .i64 v1] 23)).alloc (.cells #[.int .u64 0, .int .u64 0] 33)) (w.heap.size + 1 + 1 + 1) 33 [.int .u64 0, .int .u64 0] (by simp))
  have B_1 := Lib.hid (((((Below.refl w.heap.size w).alloc (Nat.le_refl _) (.cells #[.int .i64 x0, .int .i64 x1, .int .i64 y0, .int .i64 y1] 23)).alloc (by have := Nat.le_refl w.heap.size; simp <;> omega) (.cells #[.int .i64 u0, .int .i64 u1, .int .i64 v0, .int .i64 v1] 23)).alloc (by have := Nat.le_refl w.heap.size; simp <;> omega) (.cells #[.int .u64 0, .int .u64 0] 33)).alloc (by have := Nat.le_refl w.heap.size; simp <;> omega) (.cells #[.int .u64 0, .int .u64 0] 33))
  generalize ((((w.alloc (.cells #[.int .i64 x0, .int .i64 x1, .int .i64 y0, .int .i64 y1] 23)).alloc (.cells #[.int .i64 u0, .int .i64 u1, .int .i64 v0, .int .i64 v1] 23)).alloc (.cells #[.int .u64 0, .int .u64 0] 33)).alloc (.cells #[.int .u64 0, .int .u64 0] 33)) = V1 at RA_1 RB_1 R1_1 R2_1 B_1 ⊢
  have c3_0 := RA_1.out.cell 0
  have c3_1 := RA_1.out.cell 1
  have c3_2 := RA_1.out.cell 2
  have c3_3 := RA_1.out.cell 3
  simp only [List.getElem?_cons_zero, List.getElem?_cons_succ] at c3_0 c3_1 c3_2 c3_3
  go_wp2_with fail
  refine (HBA.out _).mono ?_
  rintro e W2 ⟨rfl, hb⟩
  clear c3_0 c3_1 c3_2 c3_3
  have RA_4 := Lib.hid (RA_1.out.below hb RA_1.out.lt)
  have RB_4 := Lib.hid (RB_1.out.below hb RB_1.out.lt)
  have R1_4 := Lib.hid (R1_1.out.below hb R1_1.out.lt)
  have R2_4 := Lib.hid (R2_1.out.below hb R2_1.out.lt)
  have B_4 := Lib.hid (B_1.out.trans (hb.mono B_1.out.size))
  clear hb RA_1 RB_1 R1_1 R2_1 B_1
  have c6_0 := RB_4.out.cell 0
  have c6_1 := RB_4.out.cell 1
  have c6_2 := RB_4.out.cell 2
  have c6_3 := RB_4.out.cell 3
  simp only [List.getElem?_cons_zero, List.getElem?_cons_succ] at c6_0 c6_1 c6_2 c6_3
  go_wp2_with fail
  refine (HBB.out _).mono ?_
  rintro e W5 ⟨rfl, hb⟩
  clear c6_0 c6_1 c6_2 c6_3
  have RA_7 := Lib.hid (RA_4.out.below hb RA_4.out.lt)
  have RB_7 := Lib.hid (RB_4.out.below hb RB_4.out.lt)
  have R1_7 := Lib.hid (R1_4.out.below hb R1_4.out.lt)
  have R2_7 := Lib.hid (R2_4.out.below hb R2_4.out.lt)
  have B_7 := Lib.hid (B_4.out.trans (hb.mono B_4.out.size))
  clear hb RA_4 RB_4 R1_4 R2_4 B_4
  have c9_0 := RA_7.out.cell 0
  have c9_1 := RA_7.out.cell 1
  have c9_2 := RA_7.out.cell 2
  have c9_3 := RA_7.out.cell 3
  simp only [List.getElem?_cons_zero, List.getElem?_cons_succ] at c9_0 c9_1 c9_2 c9_3
  have c10_0 := RB_7.out.cell 0
  have c10_1 := RB_7.out.cell 1
  have c10_2 := RB_7.out.cell 2
  have c10_3 := RB_7.out.cell 3
  simp only [List.getElem?_cons_zero, List.getElem?_cons_succ] at c10_0 c10_1 c10_2 c10_3
  go_wp2_with fail
  refine (HU.out _).mono ?_
  rintro e W8 ⟨rfl, hb⟩
  clear c9_0 c9_1 c9_2 c9_3 c10_0 c10_1 c10_2 c10_3
  have RA_11 := Lib.hid (RA_7.out.below hb RA_7.out.lt)
  have RB_11 := Lib.hid (RB_7.out.below hb RB_7.out.lt)
  have R1_11 := Lib.hid (R1_7.out.below hb R1_7.out.lt)
  have R2_11 := Lib.hid (R2_7.out.below hb R2_7.out.lt)
  have B_11 := Lib.hid (B_7.out.trans (hb.mono B_7.out.size))
  clear hb RA_7 RB_7 R1_7 R2_7 B_7
  go_upto_region 4 with fail
  have hlt12_0 : w.heap.size < W8.heap.size := RA_11.out.lt
  have hlt12_1 : w.heap.size + 1 < W8.heap.size := RB_11.out.lt
  have hlt12_2 : w.heap.size + 1 + 1 < W8.heap.size := R1_11.out.lt
  have hlt12_3 : w.heap.size + 1 + 1 + 1 < W8.heap.size := R2_11.out.lt
  have RA_12 := Lib.hid (RA_11.out.alloc (.cells #[.int .i64 m0, .int .i64 m1, .int .i64 m2, .int .i64 m3] 23))
  have RB_12 := Lib.hid (RB_11.out.alloc (.cells #[.int .i64 m0, .int .i64 m1, .int .i64 m2, .int .i64 m3] 23))
  have R1_12 := Lib.hid (R1_11.out.alloc (.cells #[.int .i64 m0, .int .i64 m1, .int .i64 m2, .int .i64 m3] 23))
  have R2_12 := Lib.hid (R2_11.out.alloc (.cells #[.int .i64 m0, .int .i64 m1, .int .i64 m2, .int .i64 m3] 23))
  have RM_12 := Lib.hid (row_last W8 (W8.heap.size) 23 [.int .i64 m0, .int .i64 m1, .int .i64 m2, .int .i64 m3] (by simp))
  have B_12 := Lib.hid (B_11.out.alloc B_11.out.size (.cells #[.int .i64 m0, .int .i64 m1, .int .i64 m2, .int .i64 m3] 23))
  clear RA_11 RB_11 R1_11 R2_11 B_11
  generalize (W8.alloc (.cells #[.int .i64 m0, .int .i64 m1, .int .i64 m2, .int .i64 m3] 23)) = V12 at RA_12 RB_12 R1_12 R2_12 RM_12 B_12 ⊢
  go_cut [7, 8] from 24 to 31 (fun t u wx => NewR2 V12 33 [.int .u64 (gh : Int), .int .u64 (gl : Int)] (.bool true) t u wx)
  case first =>
    refine wp_region_held_drew (S := fun w' => Below V12.heap.size V12 w') (by kernel_rfl) (Below.refl _ _).drew (fun hHeld => ?_)
    have S_13 := Lib.hid hHeld
    clear hHeld
    generalize V12.drew = D13 at S_13 ⊢
    refine wpAnyH_take (i := 0) (oi := ⟨some 25, _, _, _, _, _⟩) (v := ?vd13_1) rfl (by kernel_rfl) (by kernel_rfl) (by kernel_rfl) (fun _ _ _ h => h) (Or.inl ⟨by rfl, ?yd13_1⟩) S_13.out ?rd13_1
    case yd13_1 =>
      rintro w' hSw
      have k0 := (RM_12.out.below hSw RM_12.out.lt).cell 0
      have k1 := (RM_12.out.below hSw RM_12.out.lt).cell 1
      have k2 := (RM_12.out.below hSw RM_12.out.lt).cell 2
      have k3 := (RM_12.out.below hSw RM_12.out.lt).cell 3
      simp only [List.getElem?_cons_zero, List.getElem?_cons_succ] at k0 k1 k2 k3
      go_simp
      try with_reducible rfl
    try simp only [Act.put, List.setIfInBounds_toArray, List.set_cons_zero, List.set_cons_succ]
    refine wpAnyH_take (i := 2) (oi := ⟨some 27, _, _, _, _, _⟩) (v := ?vd13_2) rfl (by kernel_rfl) (by kernel_rfl) (by kernel_rfl) (fun _ _ _ h => h) (Or.inl ⟨by rfl, ?yd13_2⟩) S_13.out ?rd13_2
    case yd13_2 =>
      rintro w' hSw
      have k0 := (RA_12.out.below hSw RA_12.out.lt).cell 0
      have k1 := (RA_12.out.below hSw RA_12.out.lt).cell 1
      have k2 := (RA_12.out.below hSw RA_12.out.lt).cell 2
      have k3 := (RA_12.out.below hSw RA_12.out.lt).cell 3
      simp only [List.getElem?_cons_zero, List.getElem?_cons_succ] at k0 k1 k2 k3
      go_simp
      try with_reducible rfl
    try simp only [Act.put, List.setIfInBounds_toArray, List.set_cons_zero, List.set_cons_succ]
    refine wpAnyH_ready (rs := [1, 8]) (by kernel_rfl) (by simp) ?_
    refine (AllReadyH.cons rfl (fun K hK => ?_) (AllReadyH.cons rfl (fun K hK => ?_) AllReadyH.nil))
    · go_simp
      refine (HA1.out _).mono ?_
      rintro e Xd13_3 ⟨rfl, hb⟩
      have Sd13_3 := Lib.hid (S_13.out.trans (hb.mono S_13.out.size))
      clear hb S_13
      refine hK _ _ Sd13_3.out (fun _ => ?_)
      clear hK K
      try simp only [Act.put, List.setIfInBounds_toArray, List.set_cons_zero, List.set_cons_succ]
      refine wpAnyH_ready (rs := [3, 8]) (by kernel_rfl) (by simp) ?_
      refine (AllReadyH.cons rfl (fun K hK => ?_) (AllReadyH.cons rfl (fun K hK => ?_) AllReadyH.nil))
      · go_simp
        refine (HA2.out _).mono ?_
        rintro e Xd13_4 ⟨rfl, hb⟩
        have Sd13_4 := Lib.hid (Sd13_3.out.trans (hb.mono Sd13_3.out.size))
        clear hb Sd13_3
        refine hK _ _ Sd13_4.out (fun _ => ?_)
        clear hK K
        try simp only [Act.put, List.setIfInBounds_toArray, List.set_cons_zero, List.set_cons_succ]
        refine wpAnyH_ready (rs := [4, 8]) (by kernel_rfl) (by simp) ?_
        refine (AllReadyH.cons rfl (fun K hK => ?_) (AllReadyH.cons rfl (fun K hK => ?_) AllReadyH.nil))
        · go_simp
          refine (HA3.out _).mono ?_
          rintro e Xd13_5 ⟨rfl, hb⟩
          have Sd13_5 := Lib.hid (Sd13_4.out.trans (hb.mono Sd13_4.out.size))
          clear hb Sd13_4
          refine hK _ _ Sd13_5.out (fun _ => ?_)
          clear hK K
          try simp only [Act.put, List.setIfInBounds_toArray, List.set_cons_zero, List.set_cons_succ]
          refine wpAnyH_take (i := 5) (oi := ⟨some 24, _, _, _, _, _⟩) (v := ?vd13_6) rfl (by kernel_rfl) (by kernel_rfl) (by kernel_rfl) (fun _ _ _ h => h) (Or.inl ⟨by rfl, ?yd13_6⟩) Sd13_5.out ?rd13_6
          case yd13_6 =>
            rintro w' hSw
            go_simp
            try with_reducible rfl
          try simp only [Act.put, List.setIfInBounds_toArray, List.set_cons_zero, List.set_cons_succ]
          refine wpAnyH_take (i := 6) (oi := ⟨some 30, _, _, _, _, _⟩) (v := ?vd13_7) rfl (by kernel_rfl) (by kernel_rfl) (by kernel_rfl) (fun _ _ _ h => h) (Or.inl ⟨by rfl, ?yd13_7⟩) Sd13_5.out ?rd13_7
          case yd13_7 =>
            rintro w' hSw
            go_simp
            try with_reducible rfl
          try simp only [Act.put, List.setIfInBounds_toArray, List.set_cons_zero, List.set_cons_succ]
          refine wpAnyH_take (i := 7) (oi := ⟨some 31, _, _, _, _, _⟩) (v := ?vd13_8) rfl (by kernel_rfl) (by kernel_rfl) (by kernel_rfl) (fun _ _ _ h => h) (Or.inl ⟨by rfl, ?yd13_8⟩) Sd13_5.out ?rd13_8
          case yd13_8 =>
            rintro w' hSw
            go_simp
            try with_reducible rfl
          try simp only [Act.put, List.setIfInBounds_toArray, List.set_cons_zero, List.set_cons_succ]
          refine wpAnyH_ready (rs := [8]) (by kernel_rfl) (by simp) ?_
          refine (AllReadyH.cons rfl (fun K hK => ?_) AllReadyH.nil)
          rw [if_pos (by rfl)]
          go_simp
          have hr := Lib.hid (row_last Xd13_5 Xd13_5.heap.size 33 [.int .u64 0, .int .u64 0] rfl)
          have Sd13_9 := Lib.hid (Sd13_5.out.alloc Sd13_5.out.size (.cells #[.int .u64 0, .int .u64 0] 33))
          obtain ⟨gRDd13_9, hgRDd13_9⟩ : ∃ g, g = Xd13_5.heap.size := ⟨_, rfl⟩
          have ngRDd13_9 : V12.heap.size ≤ gRDd13_9 := by rw [hgRDd13_9]; exact Sd13_5.out.size
          rw [← hgRDd13_9] at hr ⊢
          have RDnd13_9 := hr
          clear hr hgRDd13_9 Sd13_5 
          generalize Xd13_5.alloc (.cells #[.int .u64 0, .int .u64 0] 33) = Xd13_9 at Sd13_9 RDnd13_9 ⊢
          refine hK _ _ Sd13_9.out (fun _ => ?_)
          clear hK K
          try simp only [Act.put, List.setIfInBounds_toArray, List.set_cons_zero, List.set_cons_succ]
          refine wpAnyH_ready (rs := [9]) (by kernel_rfl) (by simp) ?_
          refine (AllReadyH.cons rfl (fun K hK => ?_) AllReadyH.nil)
          have f0 := RDnd13_9.out.frozen 0
          have k0 := RDnd13_9.out.cell 0
          have f1 := RDnd13_9.out.frozen 1
          have k1 := RDnd13_9.out.cell 1
          simp only [List.getElem?_cons_zero, List.getElem?_cons_succ] at k0 k1
          rw [if_pos (by rfl)]
          go_simp
          clear f0 k0 f1 k1
          have RDsd13_10 : Hid (Row ((Xd13_9.setCell ⟨gRDd13_9, 0, none⟩ (.int .u64 (gh : Int))).setCell ⟨gRDd13_9, 1, none⟩ (.int .u64 (gl : Int))) gRDd13_9 33 [.int .u64 (gh : Int), .int .u64 (gl : Int)]) := Lib.hid ((RDnd13_9.out.store 0 (.int .u64 (gh : Int))).store 1 (.int .u64 (gl : Int)))
          have Sd13_10 := Lib.hid ((Sd13_9.out.setCell (p := ⟨gRDd13_9, 0, none⟩) (by dsimp only; omega) (.int .u64 (gh : Int))).setCell (p := ⟨gRDd13_9, 1, none⟩) (by dsimp only; omega) (.int .u64 (gl : Int)))
          clear Sd13_9 RDnd13_9
          generalize ((Xd13_9.setCell ⟨gRDd13_9, 0, none⟩ (.int .u64 (gh : Int))).setCell ⟨gRDd13_9, 1, none⟩ (.int .u64 (gl : Int))) = Xd13_10 at Sd13_10 RDsd13_10 ⊢
          refine hK _ _ Sd13_10.out (fun _ => ?_)
          clear hK K
          try simp only [Act.put, List.setIfInBounds_toArray, List.set_cons_zero, List.set_cons_succ]
          refine wpAnyH_take (i := 10) (oi := ⟨some 8, _, _, _, _, _⟩) (v := ?vd13_11) rfl (by kernel_rfl) (by kernel_rfl) (by kernel_rfl) (fun _ _ _ h => h) (Or.inl ⟨by rfl, ?yd13_11⟩) Sd13_10.out ?rd13_11
          case yd13_11 =>
            rintro w' hSw
            go_simp
            try with_reducible rfl
          try simp only [Act.put, List.setIfInBounds_toArray, List.set_cons_zero, List.set_cons_succ]
          refine wpAnyH_done (by kernel_rfl) ?_ _
          go_wp2_with fail
          go_meet
          exact ⟨rfl, gRDd13_9, rfl, RDsd13_10.out, ngRDd13_9, Sd13_10.out⟩
        · rw [if_pos (by rfl)]
          go_simp
          have hr := Lib.hid (row_last Xd13_4 Xd13_4.heap.size 33 [.int .u64 0, .int .u64 0] rfl)
          have Sd13_12 := Lib.hid (Sd13_4.out.alloc Sd13_4.out.size (.cells #[.int .u64 0, .int .u64 0] 33))
          obtain ⟨gRDd13_12, hgRDd13_12⟩ : ∃ g, g = Xd13_4.heap.size := ⟨_, rfl⟩
          have ngRDd13_12 : V12.heap.size ≤ gRDd13_12 := by rw [hgRDd13_12]; exact Sd13_4.out.size
          rw [← hgRDd13_12] at hr ⊢
          have RDnd13_12 := hr
          clear hr hgRDd13_12 Sd13_4 
          generalize Xd13_4.alloc (.cells #[.int .u64 0, .int .u64 0] 33) = Xd13_12 at Sd13_12 RDnd13_12 ⊢
          refine hK _ _ Sd13_12.out (fun _ => ?_)
          clear hK K
          try simp only [Act.put, List.setIfInBounds_toArray, List.set_cons_zero, List.set_cons_succ]
          refine wpAnyH_ready (rs := [4]) (by kernel_rfl) (by simp) ?_
          refine (AllReadyH.cons rfl (fun K hK => ?_) AllReadyH.nil)
          go_simp
          refine (HA3.out _).mono ?_
          rintro e Xd13_13 ⟨rfl, hb⟩
          have Sd13_13 := Lib.hid (Sd13_12.out.trans (hb.mono Sd13_12.out.size))
          have RDcd13_13 := Lib.hid (RDnd13_12.out.below hb RDnd13_12.out.lt)
          clear hb Sd13_12 RDnd13_12
          refine hK _ _ Sd13_13.out (fun _ => ?_)
          clear hK K
          try simp only [Act.put, List.setIfInBounds_toArray, List.set_cons_zero, List.set_cons_succ]
          refine wpAnyH_take (i := 5) (oi := ⟨some 24, _, _, _, _, _⟩) (v := ?vd13_14) rfl (by kernel_rfl) (by kernel_rfl) (by kernel_rfl) (fun _ _ _ h => h) (Or.inl ⟨by rfl, ?yd13_14⟩) Sd13_13.out ?rd13_14
          case yd13_14 =>
            rintro w' hSw
            go_simp
            try with_reducible rfl
          try simp only [Act.put, List.setIfInBounds_toArray, List.set_cons_zero, List.set_cons_succ]
          refine wpAnyH_take (i := 6) (oi := ⟨some 30, _, _, _, _, _⟩) (v := ?vd13_15) rfl (by kernel_rfl) (by kernel_rfl) (by kernel_rfl) (fun _ _ _ h => h) (Or.inl ⟨by rfl, ?yd13_15⟩) Sd13_13.out ?rd13_15
          case yd13_15 =>
            rintro w' hSw
            go_simp
            try with_reducible rfl
          try simp only [Act.put, List.setIfInBounds_toArray, List.set_cons_zero, List.set_cons_succ]
          refine wpAnyH_take (i := 7) (oi := ⟨some 31, _, _, _, _, _⟩) (v := ?vd13_16) rfl (by kernel_rfl) (by kernel_rfl) (by kernel_rfl) (fun _ _ _ h => h) (Or.inl ⟨by rfl, ?yd13_16⟩) Sd13_13.out ?rd13_16
          case yd13_16 =>
            rintro w' hSw
            go_simp
            try with_reducible rfl
          try simp only [Act.put, List.setIfInBounds_toArray, List.set_cons_zero, List.set_cons_succ]
          refine wpAnyH_ready (rs := [9]) (by kernel_rfl) (by simp) ?_
          refine (AllReadyH.cons rfl (fun K hK => ?_) AllReadyH.nil)
          have f0 := RDcd13_13.out.frozen 0
          have k0 := RDcd13_13.out.cell 0
          have f1 := RDcd13_13.out.frozen 1
          have k1 := RDcd13_13.out.cell 1
          simp only [List.getElem?_cons_zero, List.getElem?_cons_succ] at k0 k1
          rw [if_pos (by rfl)]
          go_simp
          clear f0 k0 f1 k1
          have RDsd13_17 : Hid (Row ((Xd13_13.setCell ⟨gRDd13_12, 0, none⟩ (.int .u64 (gh : Int))).setCell ⟨gRDd13_12, 1, none⟩ (.int .u64 (gl : Int))) gRDd13_12 33 [.int .u64 (gh : Int), .int .u64 (gl : Int)]) := Lib.hid ((RDcd13_13.out.store 0 (.int .u64 (gh : Int))).store 1 (.int .u64 (gl : Int)))
          have Sd13_17 := Lib.hid ((Sd13_13.out.setCell (p := ⟨gRDd13_12, 0, none⟩) (by dsimp only; omega) (.int .u64 (gh : Int))).setCell (p := ⟨gRDd13_12, 1, none⟩) (by dsimp only; omega) (.int .u64 (gl : Int)))
          clear Sd13_13 RDcd13_13
          generalize ((Xd13_13.setCell ⟨gRDd13_12, 0, none⟩ (.int .u64 (gh : Int))).setCell ⟨gRDd13_12, 1, none⟩ (.int .u64 (gl : Int))) = Xd13_17 at Sd13_17 RDsd13_17 ⊢
          refine hK _ _ Sd13_17.out (fun _ => ?_)
          clear hK K
          try simp only [Act.put, List.setIfInBounds_toArray, List.set_cons_zero, List.set_cons_succ]
          refine wpAnyH_take (i := 10) (oi := ⟨some 8, _, _, _, _, _⟩) (v := ?vd13_18) rfl (by kernel_rfl) (by kernel_rfl) (by kernel_rfl) (fun _ _ _ h => h) (Or.inl ⟨by rfl, ?yd13_18⟩) Sd13_17.out ?rd13_18
          case yd13_18 =>
            rintro w' hSw
            go_simp
            try with_reducible rfl
          try simp only [Act.put, List.setIfInBounds_toArray, List.set_cons_zero, List.set_cons_succ]
          refine wpAnyH_done (by kernel_rfl) ?_ _
          go_wp2_with fail
          go_meet
          exact ⟨rfl, gRDd13_12, rfl, RDsd13_17.out, ngRDd13_12, Sd13_17.out⟩
      · rw [if_pos (by rfl)]
        go_simp
        have hr := Lib.hid (row_last Xd13_3 Xd13_3.heap.size 33 [.int .u64 0, .int .u64 0] rfl)
        have Sd13_19 := Lib.hid (Sd13_3.out.alloc Sd13_3.out.size (.cells #[.int .u64 0, .int .u64 0] 33))
        obtain ⟨gRDd13_19, hgRDd13_19⟩ : ∃ g, g = Xd13_3.heap.size := ⟨_, rfl⟩
        have ngRDd13_19 : V12.heap.size ≤ gRDd13_19 := by rw [hgRDd13_19]; exact Sd13_3.out.size
        rw [← hgRDd13_19] at hr ⊢
        have RDnd13_19 := hr
        clear hr hgRDd13_19 Sd13_3 
        generalize Xd13_3.alloc (.cells #[.int .u64 0, .int .u64 0] 33) = Xd13_19 at Sd13_19 RDnd13_19 ⊢
        refine hK _ _ Sd13_19.out (fun _ => ?_)
        clear hK K
        try simp only [Act.put, List.setIfInBounds_toArray, List.set_cons_zero, List.set_cons_succ]
        refine wpAnyH_ready (rs := [3]) (by kernel_rfl) (by simp) ?_
        refine (AllReadyH.cons rfl (fun K hK => ?_) AllReadyH.nil)
        go_simp
        refine (HA2.out _).mono ?_
        rintro e Xd13_20 ⟨rfl, hb⟩
        have Sd13_20 := Lib.hid (Sd13_19.out.trans (hb.mono Sd13_19.out.size))
        have RDcd13_20 := Lib.hid (RDnd13_19.out.below hb RDnd13_19.out.lt)
        clear hb Sd13_19 RDnd13_19
        refine hK _ _ Sd13_20.out (fun _ => ?_)
        clear hK K
        try simp only [Act.put, List.setIfInBounds_toArray, List.set_cons_zero, List.set_cons_succ]
        refine wpAnyH_ready (rs := [4]) (by kernel_rfl) (by simp) ?_
        refine (AllReadyH.cons rfl (fun K hK => ?_) AllReadyH.nil)
        go_simp
        refine (HA3.out _).mono ?_
        rintro e Xd13_21 ⟨rfl, hb⟩
        have Sd13_21 := Lib.hid (Sd13_20.out.trans (hb.mono Sd13_20.out.size))
        have RDcd13_21 := Lib.hid (RDcd13_20.out.below hb RDcd13_20.out.lt)
        clear hb Sd13_20 RDcd13_20
        refine hK _ _ Sd13_21.out (fun _ => ?_)
        clear hK K
        try simp only [Act.put, List.setIfInBounds_toArray, List.set_cons_zero, List.set_cons_succ]
        refine wpAnyH_take (i := 5) (oi := ⟨some 24, _, _, _, _, _⟩) (v := ?vd13_22) rfl (by kernel_rfl) (by kernel_rfl) (by kernel_rfl) (fun _ _ _ h => h) (Or.inl ⟨by rfl, ?yd13_22⟩) Sd13_21.out ?rd13_22
        case yd13_22 =>
          rintro w' hSw
          go_simp
          try with_reducible rfl
        try simp only [Act.put, List.setIfInBounds_toArray, List.set_cons_zero, List.set_cons_succ]
        refine wpAnyH_take (i := 6) (oi := ⟨some 30, _, _, _, _, _⟩) (v := ?vd13_23) rfl (by kernel_rfl) (by kernel_rfl) (by kernel_rfl) (fun _ _ _ h => h) (Or.inl ⟨by rfl, ?yd13_23⟩) Sd13_21.out ?rd13_23
        case yd13_23 =>
          rintro w' hSw
          go_simp
          try with_reducible rfl
        try simp only [Act.put, List.setIfInBounds_toArray, List.set_cons_zero, List.set_cons_succ]
        refine wpAnyH_take (i := 7) (oi := ⟨some 31, _, _, _, _, _⟩) (v := ?vd13_24) rfl (by kernel_rfl) (by kernel_rfl) (by kernel_rfl) (fun _ _ _ h => h) (Or.inl ⟨by rfl, ?yd13_24⟩) Sd13_21.out ?rd13_24
        case yd13_24 =>
          rintro w' hSw
          go_simp
          try with_reducible rfl
        try simp only [Act.put, List.setIfInBounds_toArray, List.set_cons_zero, List.set_cons_succ]
        refine wpAnyH_ready (rs := [9]) (by kernel_rfl) (by simp) ?_
        refine (AllReadyH.cons rfl (fun K hK => ?_) AllReadyH.nil)
        have f0 := RDcd13_21.out.frozen 0
        have k0 := RDcd13_21.out.cell 0
        have f1 := RDcd13_21.out.frozen 1
        have k1 := RDcd13_21.out.cell 1
        simp only [List.getElem?_cons_zero, List.getElem?_cons_succ] at k0 k1
        rw [if_pos (by rfl)]
        go_simp
        clear f0 k0 f1 k1
        have RDsd13_25 : Hid (Row ((Xd13_21.setCell ⟨gRDd13_19, 0, none⟩ (.int .u64 (gh : Int))).setCell ⟨gRDd13_19, 1, none⟩ (.int .u64 (gl : Int))) gRDd13_19 33 [.int .u64 (gh : Int), .int .u64 (gl : Int)]) := Lib.hid ((RDcd13_21.out.store 0 (.int .u64 (gh : Int))).store 1 (.int .u64 (gl : Int)))
        have Sd13_25 := Lib.hid ((Sd13_21.out.setCell (p := ⟨gRDd13_19, 0, none⟩) (by dsimp only; omega) (.int .u64 (gh : Int))).setCell (p := ⟨gRDd13_19, 1, none⟩) (by dsimp only; omega) (.int .u64 (gl : Int)))
        clear Sd13_21 RDcd13_21
        generalize ((Xd13_21.setCell ⟨gRDd13_19, 0, none⟩ (.int .u64 (gh : Int))).setCell ⟨gRDd13_19, 1, none⟩ (.int .u64 (gl : Int))) = Xd13_25 at Sd13_25 RDsd13_25 ⊢
        refine hK _ _ Sd13_25.out (fun _ => ?_)
        clear hK K
        try simp only [Act.put, List.setIfInBounds_toArray, List.set_cons_zero, List.set_cons_succ]
        refine wpAnyH_take (i := 10) (oi := ⟨some 8, _, _, _, _, _⟩) (v := ?vd13_26) rfl (by kernel_rfl) (by kernel_rfl) (by kernel_rfl) (fun _ _ _ h => h) (Or.inl ⟨by rfl, ?yd13_26⟩) Sd13_25.out ?rd13_26
        case yd13_26 =>
          rintro w' hSw
          go_simp
          try with_reducible rfl
        try simp only [Act.put, List.setIfInBounds_toArray, List.set_cons_zero, List.set_cons_succ]
        refine wpAnyH_done (by kernel_rfl) ?_ _
        go_wp2_with fail
        go_meet
        exact ⟨rfl, gRDd13_19, rfl, RDsd13_25.out, ngRDd13_19, Sd13_25.out⟩
    · rw [if_pos (by rfl)]
      go_simp
      have hr := Lib.hid (row_last D13 D13.heap.size 33 [.int .u64 0, .int .u64 0] rfl)
      have Sd13_27 := Lib.hid (S_13.out.alloc S_13.out.size (.cells #[.int .u64 0, .int .u64 0] 33))
      obtain ⟨gRDd13_27, hgRDd13_27⟩ : ∃ g, g = D13.heap.size := ⟨_, rfl⟩
      have ngRDd13_27 : V12.heap.size ≤ gRDd13_27 := by rw [hgRDd13_27]; exact S_13.out.size
      rw [← hgRDd13_27] at hr ⊢
      have RDnd13_27 := hr
      clear hr hgRDd13_27 S_13 
      generalize D13.alloc (.cells #[.int .u64 0, .int .u64 0] 33) = Xd13_27 at Sd13_27 RDnd13_27 ⊢
      refine hK _ _ Sd13_27.out (fun _ => ?_)
      clear hK K
      try simp only [Act.put, List.setIfInBounds_toArray, List.set_cons_zero, List.set_cons_succ]
      refine wpAnyH_ready (rs := [1]) (by kernel_rfl) (by simp) ?_
      refine (AllReadyH.cons rfl (fun K hK => ?_) AllReadyH.nil)
      go_simp
      refine (HA1.out _).mono ?_
      rintro e Xd13_28 ⟨rfl, hb⟩
      have Sd13_28 := Lib.hid (Sd13_27.out.trans (hb.mono Sd13_27.out.size))
      have RDcd13_28 := Lib.hid (RDnd13_27.out.below hb RDnd13_27.out.lt)
      clear hb Sd13_27 RDnd13_27
      refine hK _ _ Sd13_28.out (fun _ => ?_)
      clear hK K
      try simp only [Act.put, List.setIfInBounds_toArray, List.set_cons_zero, List.set_cons_succ]
      refine wpAnyH_ready (rs := [3]) (by kernel_rfl) (by simp) ?_
      refine (AllReadyH.cons rfl (fun K hK => ?_) AllReadyH.nil)
      go_simp
      refine (HA2.out _).mono ?_
      rintro e Xd13_29 ⟨rfl, hb⟩
      have Sd13_29 := Lib.hid (Sd13_28.out.trans (hb.mono Sd13_28.out.size))
      have RDcd13_29 := Lib.hid (RDcd13_28.out.below hb RDcd13_28.out.lt)
      clear hb Sd13_28 RDcd13_28
      refine hK _ _ Sd13_29.out (fun _ => ?_)
      clear hK K
      try simp only [Act.put, List.setIfInBounds_toArray, List.set_cons_zero, List.set_cons_succ]
      refine wpAnyH_ready (rs := [4]) (by kernel_rfl) (by simp) ?_
      refine (AllReadyH.cons rfl (fun K hK => ?_) AllReadyH.nil)
      go_simp
      refine (HA3.out _).mono ?_
      rintro e Xd13_30 ⟨rfl, hb⟩
      have Sd13_30 := Lib.hid (Sd13_29.out.trans (hb.mono Sd13_29.out.size))
      have RDcd13_30 := Lib.hid (RDcd13_29.out.below hb RDcd13_29.out.lt)
      clear hb Sd13_29 RDcd13_29
      refine hK _ _ Sd13_30.out (fun _ => ?_)
      clear hK K
      try simp only [Act.put, List.setIfInBounds_toArray, List.set_cons_zero, List.set_cons_succ]
      refine wpAnyH_take (i := 5) (oi := ⟨some 24, _, _, _, _, _⟩) (v := ?vd13_31) rfl (by kernel_rfl) (by kernel_rfl) (by kernel_rfl) (fun _ _ _ h => h) (Or.inl ⟨by rfl, ?yd13_31⟩) Sd13_30.out ?rd13_31
      case yd13_31 =>
        rintro w' hSw
        go_simp
        try with_reducible rfl
      try simp only [Act.put, List.setIfInBounds_toArray, List.set_cons_zero, List.set_cons_succ]
      refine wpAnyH_take (i := 6) (oi := ⟨some 30, _, _, _, _, _⟩) (v := ?vd13_32) rfl (by kernel_rfl) (by kernel_rfl) (by kernel_rfl) (fun _ _ _ h => h) (Or.inl ⟨by rfl, ?yd13_32⟩) Sd13_30.out ?rd13_32
      case yd13_32 =>
        rintro w' hSw
        go_simp
        try with_reducible rfl
      try simp only [Act.put, List.setIfInBounds_toArray, List.set_cons_zero, List.set_cons_succ]
      refine wpAnyH_take (i := 7) (oi := ⟨some 31, _, _, _, _, _⟩) (v := ?vd13_33) rfl (by kernel_rfl) (by kernel_rfl) (by kernel_rfl) (fun _ _ _ h => h) (Or.inl ⟨by rfl, ?yd13_33⟩) Sd13_30.out ?rd13_33
      case yd13_33 =>
        rintro w' hSw
        go_simp
        try with_reducible rfl
      try simp only [Act.put, List.setIfInBounds_toArray, List.set_cons_zero, List.set_cons_succ]
      refine wpAnyH_ready (rs := [9]) (by kernel_rfl) (by simp) ?_
      refine (AllReadyH.cons rfl (fun K hK => ?_) AllReadyH.nil)
      have f0 := RDcd13_30.out.frozen 0
      have k0 := RDcd13_30.out.cell 0
      have f1 := RDcd13_30.out.frozen 1
      have k1 := RDcd13_30.out.cell 1
      simp only [List.getElem?_cons_zero, List.getElem?_cons_succ] at k0 k1
      rw [if_pos (by rfl)]
      go_simp
      clear f0 k0 f1 k1
      have RDsd13_34 : Hid (Row ((Xd13_30.setCell ⟨gRDd13_27, 0, none⟩ (.int .u64 (gh : Int))).setCell ⟨gRDd13_27, 1, none⟩ (.int .u64 (gl : Int))) gRDd13_27 33 [.int .u64 (gh : Int), .int .u64 (gl : Int)]) := Lib.hid ((RDcd13_30.out.store 0 (.int .u64 (gh : Int))).store 1 (.int .u64 (gl : Int)))
      have Sd13_34 := Lib.hid ((Sd13_30.out.setCell (p := ⟨gRDd13_27, 0, none⟩) (by dsimp only; omega) (.int .u64 (gh : Int))).setCell (p := ⟨gRDd13_27, 1, none⟩) (by dsimp only; omega) (.int .u64 (gl : Int)))
      clear Sd13_30 RDcd13_30
      generalize ((Xd13_30.setCell ⟨gRDd13_27, 0, none⟩ (.int .u64 (gh : Int))).setCell ⟨gRDd13_27, 1, none⟩ (.int .u64 (gl : Int))) = Xd13_34 at Sd13_34 RDsd13_34 ⊢
      refine hK _ _ Sd13_34.out (fun _ => ?_)
      clear hK K
      try simp only [Act.put, List.setIfInBounds_toArray, List.set_cons_zero, List.set_cons_succ]
      refine wpAnyH_take (i := 10) (oi := ⟨some 8, _, _, _, _, _⟩) (v := ?vd13_35) rfl (by kernel_rfl) (by kernel_rfl) (by kernel_rfl) (fun _ _ _ h => h) (Or.inl ⟨by rfl, ?yd13_35⟩) Sd13_34.out ?rd13_35
      case yd13_35 =>
        rintro w' hSw
        go_simp
        try with_reducible rfl
      try simp only [Act.put, List.setIfInBounds_toArray, List.set_cons_zero, List.set_cons_succ]
      refine wpAnyH_done (by kernel_rfl) ?_ _
      go_wp2_with fail
      go_meet
      exact ⟨rfl, gRDd13_27, rfl, RDsd13_34.out, ngRDd13_27, Sd13_34.out⟩
  case rest =>
    rename World => Wc13
    obtain ⟨rfl, gRD_13, rfl, hrow, hge, hb⟩ := hcut
    have RD_13 := Lib.hid hrow
    clear hrow
    have hd13_0 : w.heap.size < gRD_13 := Nat.lt_of_lt_of_le RA_12.out.lt hge
    have hd13_1 : w.heap.size + 1 < gRD_13 := Nat.lt_of_lt_of_le RB_12.out.lt hge
    have hd13_2 : w.heap.size + 1 + 1 < gRD_13 := Nat.lt_of_lt_of_le R1_12.out.lt hge
    have hd13_3 : w.heap.size + 1 + 1 + 1 < gRD_13 := Nat.lt_of_lt_of_le R2_12.out.lt hge
    have hd13_4 : W8.heap.size < gRD_13 := Nat.lt_of_lt_of_le RM_12.out.lt hge
    have RA_15 := Lib.hid (RA_12.out.below hb RA_12.out.lt)
    have RB_15 := Lib.hid (RB_12.out.below hb RB_12.out.lt)
    have R1_15 := Lib.hid (R1_12.out.below hb R1_12.out.lt)
    have R2_15 := Lib.hid (R2_12.out.below hb R2_12.out.lt)
    have RM_15 := Lib.hid (RM_12.out.below hb RM_12.out.lt)
    have B_15 := Lib.hid (B_12.out.trans (hb.mono B_12.out.size))
    clear hb RA_12 RB_12 R1_12 R2_12 RM_12 B_12
    go_upto_region 5 with fail
    go_cut [9, 10] from 32 to 39 (fun t u wx => NewR2 Wc13 33 [.int .u64 (mh : Int), .int .u64 (ml : Int)] (.bool true) t u wx)
    case first =>
      refine wp_region_held_drew (S := fun w' => Below Wc13.heap.size Wc13 w') (by kernel_rfl) (Below.refl _ _).drew (fun hHeld => ?_)
      have S_y16 := Lib.hid hHeld
      clear hHeld
      generalize Wc13.drew = Dy16 at S_y16 ⊢
      refine wpAnyH_take (i := 0) (oi := ⟨some 33, _, _, _, _, _⟩) (v := ?vydy16_1) rfl (by kernel_rfl) (by kernel_rfl) (by kernel_rfl) (fun _ _ _ h => h) (Or.inl ⟨by rfl, ?yydy16_1⟩) S_y16.out ?rydy16_1
      case yydy16_1 =>
        rintro w' hSw
        have k0 := (RM_15.out.below hSw RM_15.out.lt).cell 0
        have k1 := (RM_15.out.below hSw RM_15.out.lt).cell 1
        have k2 := (RM_15.out.below hSw RM_15.out.lt).cell 2
        have k3 := (RM_15.out.below hSw RM_15.out.lt).cell 3
        simp only [List.getElem?_cons_zero, List.getElem?_cons_succ] at k0 k1 k2 k3
        go_simp
        try with_reducible rfl
      try simp only [Act.put, List.setIfInBounds_toArray, List.set_cons_zero, List.set_cons_succ]
      refine wpAnyH_take (i := 2) (oi := ⟨some 35, _, _, _, _, _⟩) (v := ?vydy16_2) rfl (by kernel_rfl) (by kernel_rfl) (by kernel_rfl) (fun _ _ _ h => h) (Or.inl ⟨by rfl, ?yydy16_2⟩) S_y16.out ?rydy16_2
      case yydy16_2 =>
        rintro w' hSw
        have k0 := (RA_15.out.below hSw RA_15.out.lt).cell 0
        have k1 := (RA_15.out.below hSw RA_15.out.lt).cell 1
        have k2 := (RA_15.out.below hSw RA_15.out.lt).cell 2
        have k3 := (RA_15.out.below hSw RA_15.out.lt).cell 3
        simp only [List.getElem?_cons_zero, List.getElem?_cons_succ] at k0 k1 k2 k3
        go_simp
        try with_reducible rfl
      try simp only [Act.put, List.setIfInBounds_toArray, List.set_cons_zero, List.set_cons_succ]
      refine wpAnyH_ready (rs := [1, 8]) (by kernel_rfl) (by simp) ?_
      refine (AllReadyH.cons rfl (fun K hK => ?_) (AllReadyH.cons rfl (fun K hK => ?_) AllReadyH.nil))
      · go_simp
        refine (HB1.out _).mono ?_
        rintro e Xydy16_3 ⟨rfl, hb⟩
        have Sydy16_3 := Lib.hid (S_y16.out.trans (hb.mono S_y16.out.size))
        clear hb S_y16
        refine hK _ _ Sydy16_3.out (fun _ => ?_)
        clear hK K
        try simp only [Act.put, List.setIfInBounds_toArray, List.set_cons_zero, List.set_cons_succ]
        refine wpAnyH_ready (rs := [3, 8]) (by kernel_rfl) (by simp) ?_
        refine (AllReadyH.cons rfl (fun K hK => ?_) (AllReadyH.cons rfl (fun K hK => ?_) AllReadyH.nil))
        · go_simp
          refine (HB2.out _).mono ?_
          rintro e Xydy16_4 ⟨rfl, hb⟩
          have Sydy16_4 := Lib.hid (Sydy16_3.out.trans (hb.mono Sydy16_3.out.size))
          clear hb Sydy16_3
          refine hK _ _ Sydy16_4.out (fun _ => ?_)
          clear hK K
          try simp only [Act.put, List.setIfInBounds_toArray, List.set_cons_zero, List.set_cons_succ]
          refine wpAnyH_ready (rs := [4, 8]) (by kernel_rfl) (by simp) ?_
          refine (AllReadyH.cons rfl (fun K hK => ?_) (AllReadyH.cons rfl (fun K hK => ?_) AllReadyH.nil))
          · go_simp
            refine (HB3.out _).mono ?_
            rintro e Xydy16_5 ⟨rfl, hb⟩
            have Sydy16_5 := Lib.hid (Sydy16_4.out.trans (hb.mono Sydy16_4.out.size))
            clear hb Sydy16_4
            refine hK _ _ Sydy16_5.out (fun _ => ?_)
            clear hK K
            try simp only [Act.put, List.setIfInBounds_toArray, List.set_cons_zero, List.set_cons_succ]
            refine wpAnyH_take (i := 5) (oi := ⟨some 32, _, _, _, _, _⟩) (v := ?vydy16_6) rfl (by kernel_rfl) (by kernel_rfl) (by kernel_rfl) (fun _ _ _ h => h) (Or.inl ⟨by rfl, ?yydy16_6⟩) Sydy16_5.out ?rydy16_6
            case yydy16_6 =>
              rintro w' hSw
              go_simp
              try with_reducible rfl
            try simp only [Act.put, List.setIfInBounds_toArray, List.set_cons_zero, List.set_cons_succ]
            refine wpAnyH_take (i := 6) (oi := ⟨some 38, _, _, _, _, _⟩) (v := ?vydy16_7) rfl (by kernel_rfl) (by kernel_rfl) (by kernel_rfl) (fun _ _ _ h => h) (Or.inl ⟨by rfl, ?yydy16_7⟩) Sydy16_5.out ?rydy16_7
            case yydy16_7 =>
              rintro w' hSw
              go_simp
              try with_reducible rfl
            try simp only [Act.put, List.setIfInBounds_toArray, List.set_cons_zero, List.set_cons_succ]
            refine wpAnyH_take (i := 7) (oi := ⟨some 39, _, _, _, _, _⟩) (v := ?vydy16_8) rfl (by kernel_rfl) (by kernel_rfl) (by kernel_rfl) (fun _ _ _ h => h) (Or.inl ⟨by rfl, ?yydy16_8⟩) Sydy16_5.out ?rydy16_8
            case yydy16_8 =>
              rintro w' hSw
              go_simp
              try with_reducible rfl
            try simp only [Act.put, List.setIfInBounds_toArray, List.set_cons_zero, List.set_cons_succ]
            refine wpAnyH_ready (rs := [8]) (by kernel_rfl) (by simp) ?_
            refine (AllReadyH.cons rfl (fun K hK => ?_) AllReadyH.nil)
            rw [if_pos (by rfl)]
            go_simp
            have hr := Lib.hid (row_last Xydy16_5 Xydy16_5.heap.size 33 [.int .u64 0, .int .u64 0] rfl)
            have Sydy16_9 := Lib.hid (Sydy16_5.out.alloc Sydy16_5.out.size (.cells #[.int .u64 0, .int .u64 0] 33))
            obtain ⟨gREydy16_9, hgREydy16_9⟩ : ∃ g, g = Xydy16_5.heap.size := ⟨_, rfl⟩
            have ngREydy16_9 : Wc13.heap.size ≤ gREydy16_9 := by rw [hgREydy16_9]; exact Sydy16_5.out.size
            rw [← hgREydy16_9] at hr ⊢
            have REnydy16_9 := hr
            clear hr hgREydy16_9 Sydy16_5 
            generalize Xydy16_5.alloc (.cells #[.int .u64 0, .int .u64 0] 33) = Xydy16_9 at Sydy16_9 REnydy16_9 ⊢
            refine hK _ _ Sydy16_9.out (fun _ => ?_)
            clear hK K
            try simp only [Act.put, List.setIfInBounds_toArray, List.set_cons_zero, List.set_cons_succ]
            refine wpAnyH_ready (rs := [9]) (by kernel_rfl) (by simp) ?_
            refine (AllReadyH.cons rfl (fun K hK => ?_) AllReadyH.nil)
            have f0 := REnydy16_9.out.frozen 0
            have k0 := REnydy16_9.out.cell 0
            have f1 := REnydy16_9.out.frozen 1
            have k1 := REnydy16_9.out.cell 1
            simp only [List.getElem?_cons_zero, List.getElem?_cons_succ] at k0 k1
            rw [if_pos (by rfl)]
            go_simp
            clear f0 k0 f1 k1
            have REsydy16_10 : Hid (Row ((Xydy16_9.setCell ⟨gREydy16_9, 0, none⟩ (.int .u64 (mh : Int))).setCell ⟨gREydy16_9, 1, none⟩ (.int .u64 (ml : Int))) gREydy16_9 33 [.int .u64 (mh : Int), .int .u64 (ml : Int)]) := Lib.hid ((REnydy16_9.out.store 0 (.int .u64 (mh : Int))).store 1 (.int .u64 (ml : Int)))
            have Sydy16_10 := Lib.hid ((Sydy16_9.out.setCell (p := ⟨gREydy16_9, 0, none⟩) (by dsimp only; omega) (.int .u64 (mh : Int))).setCell (p := ⟨gREydy16_9, 1, none⟩) (by dsimp only; omega) (.int .u64 (ml : Int)))
            clear Sydy16_9 REnydy16_9
            generalize ((Xydy16_9.setCell ⟨gREydy16_9, 0, none⟩ (.int .u64 (mh : Int))).setCell ⟨gREydy16_9, 1, none⟩ (.int .u64 (ml : Int))) = Xydy16_10 at Sydy16_10 REsydy16_10 ⊢
            refine hK _ _ Sydy16_10.out (fun _ => ?_)
            clear hK K
            try simp only [Act.put, List.setIfInBounds_toArray, List.set_cons_zero, List.set_cons_succ]
            refine wpAnyH_take (i := 10) (oi := ⟨some 10, _, _, _, _, _⟩) (v := ?vydy16_11) rfl (by kernel_rfl) (by kernel_rfl) (by kernel_rfl) (fun _ _ _ h => h) (Or.inl ⟨by rfl, ?yydy16_11⟩) Sydy16_10.out ?rydy16_11
            case yydy16_11 =>
              rintro w' hSw
              go_simp
              try with_reducible rfl
            try simp only [Act.put, List.setIfInBounds_toArray, List.set_cons_zero, List.set_cons_succ]
            refine wpAnyH_done (by kernel_rfl) ?_ _
            go_wp2_with fail
            go_meet
            exact ⟨rfl, gREydy16_9, rfl, REsydy16_10.out, ngREydy16_9, Sydy16_10.out⟩
          · rw [if_pos (by rfl)]
            go_simp
            have hr := Lib.hid (row_last Xydy16_4 Xydy16_4.heap.size 33 [.int .u64 0, .int .u64 0] rfl)
            have Sydy16_12 := Lib.hid (Sydy16_4.out.alloc Sydy16_4.out.size (.cells #[.int .u64 0, .int .u64 0] 33))
            obtain ⟨gREydy16_12, hgREydy16_12⟩ : ∃ g, g = Xydy16_4.heap.size := ⟨_, rfl⟩
            have ngREydy16_12 : Wc13.heap.size ≤ gREydy16_12 := by rw [hgREydy16_12]; exact Sydy16_4.out.size
            rw [← hgREydy16_12] at hr ⊢
            have REnydy16_12 := hr
            clear hr hgREydy16_12 Sydy16_4 
            generalize Xydy16_4.alloc (.cells #[.int .u64 0, .int .u64 0] 33) = Xydy16_12 at Sydy16_12 REnydy16_12 ⊢
            refine hK _ _ Sydy16_12.out (fun _ => ?_)
            clear hK K
            try simp only [Act.put, List.setIfInBounds_toArray, List.set_cons_zero, List.set_cons_succ]
            refine wpAnyH_ready (rs := [4]) (by kernel_rfl) (by simp) ?_
            refine (AllReadyH.cons rfl (fun K hK => ?_) AllReadyH.nil)
            go_simp
            refine (HB3.out _).mono ?_
            rintro e Xydy16_13 ⟨rfl, hb⟩
            have Sydy16_13 := Lib.hid (Sydy16_12.out.trans (hb.mono Sydy16_12.out.size))
            have REcydy16_13 := Lib.hid (REnydy16_12.out.below hb REnydy16_12.out.lt)
            clear hb Sydy16_12 REnydy16_12
            refine hK _ _ Sydy16_13.out (fun _ => ?_)
            clear hK K
            try simp only [Act.put, List.setIfInBounds_toArray, List.set_cons_zero, List.set_cons_succ]
            refine wpAnyH_take (i := 5) (oi := ⟨some 32, _, _, _, _, _⟩) (v := ?vydy16_14) rfl (by kernel_rfl) (by kernel_rfl) (by kernel_rfl) (fun _ _ _ h => h) (Or.inl ⟨by rfl, ?yydy16_14⟩) Sydy16_13.out ?rydy16_14
            case yydy16_14 =>
              rintro w' hSw
              go_simp
              try with_reducible rfl
            try simp only [Act.put, List.setIfInBounds_toArray, List.set_cons_zero, List.set_cons_succ]
            refine wpAnyH_take (i := 6) (oi := ⟨some 38, _, _, _, _, _⟩) (v := ?vydy16_15) rfl (by kernel_rfl) (by kernel_rfl) (by kernel_rfl) (fun _ _ _ h => h) (Or.inl ⟨by rfl, ?yydy16_15⟩) Sydy16_13.out ?rydy16_15
            case yydy16_15 =>
              rintro w' hSw
              go_simp
              try with_reducible rfl
            try simp only [Act.put, List.setIfInBounds_toArray, List.set_cons_zero, List.set_cons_succ]
            refine wpAnyH_take (i := 7) (oi := ⟨some 39, _, _, _, _, _⟩) (v := ?vydy16_16) rfl (by kernel_rfl) (by kernel_rfl) (by kernel_rfl) (fun _ _ _ h => h) (Or.inl ⟨by rfl, ?yydy16_16⟩) Sydy16_13.out ?rydy16_16
            case yydy16_16 =>
              rintro w' hSw
              go_simp
              try with_reducible rfl
            try simp only [Act.put, List.setIfInBounds_toArray, List.set_cons_zero, List.set_cons_succ]
            refine wpAnyH_ready (rs := [9]) (by kernel_rfl) (by simp) ?_
            refine (AllReadyH.cons rfl (fun K hK => ?_) AllReadyH.nil)
            have f0 := REcydy16_13.out.frozen 0
            have k0 := REcydy16_13.out.cell 0
            have f1 := REcydy16_13.out.frozen 1
            have k1 := REcydy16_13.out.cell 1
            simp only [List.getElem?_cons_zero, List.getElem?_cons_succ] at k0 k1
            rw [if_pos (by rfl)]
            go_simp
            clear f0 k0 f1 k1
            have REsydy16_17 : Hid (Row ((Xydy16_13.setCell ⟨gREydy16_12, 0, none⟩ (.int .u64 (mh : Int))).setCell ⟨gREydy16_12, 1, none⟩ (.int .u64 (ml : Int))) gREydy16_12 33 [.int .u64 (mh : Int), .int .u64 (ml : Int)]) := Lib.hid ((REcydy16_13.out.store 0 (.int .u64 (mh : Int))).store 1 (.int .u64 (ml : Int)))
            have Sydy16_17 := Lib.hid ((Sydy16_13.out.setCell (p := ⟨gREydy16_12, 0, none⟩) (by dsimp only; omega) (.int .u64 (mh : Int))).setCell (p := ⟨gREydy16_12, 1, none⟩) (by dsimp only; omega) (.int .u64 (ml : Int)))
            clear Sydy16_13 REcydy16_13
            generalize ((Xydy16_13.setCell ⟨gREydy16_12, 0, none⟩ (.int .u64 (mh : Int))).setCell ⟨gREydy16_12, 1, none⟩ (.int .u64 (ml : Int))) = Xydy16_17 at Sydy16_17 REsydy16_17 ⊢
            refine hK _ _ Sydy16_17.out (fun _ => ?_)
            clear hK K
            try simp only [Act.put, List.setIfInBounds_toArray, List.set_cons_zero, List.set_cons_succ]
            refine wpAnyH_take (i := 10) (oi := ⟨some 10, _, _, _, _, _⟩) (v := ?vydy16_18) rfl (by kernel_rfl) (by kernel_rfl) (by kernel_rfl) (fun _ _ _ h => h) (Or.inl ⟨by rfl, ?yydy16_18⟩) Sydy16_17.out ?rydy16_18
            case yydy16_18 =>
              rintro w' hSw
              go_simp
              try with_reducible rfl
            try simp only [Act.put, List.setIfInBounds_toArray, List.set_cons_zero, List.set_cons_succ]
            refine wpAnyH_done (by kernel_rfl) ?_ _
            go_wp2_with fail
            go_meet
            exact ⟨rfl, gREydy16_12, rfl, REsydy16_17.out, ngREydy16_12, Sydy16_17.out⟩
        · rw [if_pos (by rfl)]
          go_simp
          have hr := Lib.hid (row_last Xydy16_3 Xydy16_3.heap.size 33 [.int .u64 0, .int .u64 0] rfl)
          have Sydy16_19 := Lib.hid (Sydy16_3.out.alloc Sydy16_3.out.size (.cells #[.int .u64 0, .int .u64 0] 33))
          obtain ⟨gREydy16_19, hgREydy16_19⟩ : ∃ g, g = Xydy16_3.heap.size := ⟨_, rfl⟩
          have ngREydy16_19 : Wc13.heap.size ≤ gREydy16_19 := by rw [hgREydy16_19]; exact Sydy16_3.out.size
          rw [← hgREydy16_19] at hr ⊢
          have REnydy16_19 := hr
          clear hr hgREydy16_19 Sydy16_3 
          generalize Xydy16_3.alloc (.cells #[.int .u64 0, .int .u64 0] 33) = Xydy16_19 at Sydy16_19 REnydy16_19 ⊢
          refine hK _ _ Sydy16_19.out (fun _ => ?_)
          clear hK K
          try simp only [Act.put, List.setIfInBounds_toArray, List.set_cons_zero, List.set_cons_succ]
          refine wpAnyH_ready (rs := [3]) (by kernel_rfl) (by simp) ?_
          refine (AllReadyH.cons rfl (fun K hK => ?_) AllReadyH.nil)
          go_simp
          refine (HB2.out _).mono ?_
          rintro e Xydy16_20 ⟨rfl, hb⟩
          have Sydy16_20 := Lib.hid (Sydy16_19.out.trans (hb.mono Sydy16_19.out.size))
          have REcydy16_20 := Lib.hid (REnydy16_19.out.below hb REnydy16_19.out.lt)
          clear hb Sydy16_19 REnydy16_19
          refine hK _ _ Sydy16_20.out (fun _ => ?_)
          clear hK K
          try simp only [Act.put, List.setIfInBounds_toArray, List.set_cons_zero, List.set_cons_succ]
          refine wpAnyH_ready (rs := [4]) (by kernel_rfl) (by simp) ?_
          refine (AllReadyH.cons rfl (fun K hK => ?_) AllReadyH.nil)
          go_simp
          refine (HB3.out _).mono ?_
          rintro e Xydy16_21 ⟨rfl, hb⟩
          have Sydy16_21 := Lib.hid (Sydy16_20.out.trans (hb.mono Sydy16_20.out.size))
          have REcydy16_21 := Lib.hid (REcydy16_20.out.below hb REcydy16_20.out.lt)
          clear hb Sydy16_20 REcydy16_20
          refine hK _ _ Sydy16_21.out (fun _ => ?_)
          clear hK K
          try simp only [Act.put, List.setIfInBounds_toArray, List.set_cons_zero, List.set_cons_succ]
          refine wpAnyH_take (i := 5) (oi := ⟨some 32, _, _, _, _, _⟩) (v := ?vydy16_22) rfl (by kernel_rfl) (by kernel_rfl) (by kernel_rfl) (fun _ _ _ h => h) (Or.inl ⟨by rfl, ?yydy16_22⟩) Sydy16_21.out ?rydy16_22
          case yydy16_22 =>
            rintro w' hSw
            go_simp
            try with_reducible rfl
          try simp only [Act.put, List.setIfInBounds_toArray, List.set_cons_zero, List.set_cons_succ]
          refine wpAnyH_take (i := 6) (oi := ⟨some 38, _, _, _, _, _⟩) (v := ?vydy16_23) rfl (by kernel_rfl) (by kernel_rfl) (by kernel_rfl) (fun _ _ _ h => h) (Or.inl ⟨by rfl, ?yydy16_23⟩) Sydy16_21.out ?rydy16_23
          case yydy16_23 =>
            rintro w' hSw
            go_simp
            try with_reducible rfl
          try simp only [Act.put, List.setIfInBounds_toArray, List.set_cons_zero, List.set_cons_succ]
          refine wpAnyH_take (i := 7) (oi := ⟨some 39, _, _, _, _, _⟩) (v := ?vydy16_24) rfl (by kernel_rfl) (by kernel_rfl) (by kernel_rfl) (fun _ _ _ h => h) (Or.inl ⟨by rfl, ?yydy16_24⟩) Sydy16_21.out ?rydy16_24
          case yydy16_24 =>
            rintro w' hSw
            go_simp
            try with_reducible rfl
          try simp only [Act.put, List.setIfInBounds_toArray, List.set_cons_zero, List.set_cons_succ]
          refine wpAnyH_ready (rs := [9]) (by kernel_rfl) (by simp) ?_
          refine (AllReadyH.cons rfl (fun K hK => ?_) AllReadyH.nil)
          have f0 := REcydy16_21.out.frozen 0
          have k0 := REcydy16_21.out.cell 0
          have f1 := REcydy16_21.out.frozen 1
          have k1 := REcydy16_21.out.cell 1
          simp only [List.getElem?_cons_zero, List.getElem?_cons_succ] at k0 k1
          rw [if_pos (by rfl)]
          go_simp
          clear f0 k0 f1 k1
          have REsydy16_25 : Hid (Row ((Xydy16_21.setCell ⟨gREydy16_19, 0, none⟩ (.int .u64 (mh : Int))).setCell ⟨gREydy16_19, 1, none⟩ (.int .u64 (ml : Int))) gREydy16_19 33 [.int .u64 (mh : Int), .int .u64 (ml : Int)]) := Lib.hid ((REcydy16_21.out.store 0 (.int .u64 (mh : Int))).store 1 (.int .u64 (ml : Int)))
          have Sydy16_25 := Lib.hid ((Sydy16_21.out.setCell (p := ⟨gREydy16_19, 0, none⟩) (by dsimp only; omega) (.int .u64 (mh : Int))).setCell (p := ⟨gREydy16_19, 1, none⟩) (by dsimp only; omega) (.int .u64 (ml : Int)))
          clear Sydy16_21 REcydy16_21
          generalize ((Xydy16_21.setCell ⟨gREydy16_19, 0, none⟩ (.int .u64 (mh : Int))).setCell ⟨gREydy16_19, 1, none⟩ (.int .u64 (ml : Int))) = Xydy16_25 at Sydy16_25 REsydy16_25 ⊢
          refine hK _ _ Sydy16_25.out (fun _ => ?_)
          clear hK K
          try simp only [Act.put, List.setIfInBounds_toArray, List.set_cons_zero, List.set_cons_succ]
          refine wpAnyH_take (i := 10) (oi := ⟨some 10, _, _, _, _, _⟩) (v := ?vydy16_26) rfl (by kernel_rfl) (by kernel_rfl) (by kernel_rfl) (fun _ _ _ h => h) (Or.inl ⟨by rfl, ?yydy16_26⟩) Sydy16_25.out ?rydy16_26
          case yydy16_26 =>
            rintro w' hSw
            go_simp
            try with_reducible rfl
          try simp only [Act.put, List.setIfInBounds_toArray, List.set_cons_zero, List.set_cons_succ]
          refine wpAnyH_done (by kernel_rfl) ?_ _
          go_wp2_with fail
          go_meet
          exact ⟨rfl, gREydy16_19, rfl, REsydy16_25.out, ngREydy16_19, Sydy16_25.out⟩
      · rw [if_pos (by rfl)]
        go_simp
        have hr := Lib.hid (row_last Dy16 Dy16.heap.size 33 [.int .u64 0, .int .u64 0] rfl)
        have Sydy16_27 := Lib.hid (S_y16.out.alloc S_y16.out.size (.cells #[.int .u64 0, .int .u64 0] 33))
        obtain ⟨gREydy16_27, hgREydy16_27⟩ : ∃ g, g = Dy16.heap.size := ⟨_, rfl⟩
        have ngREydy16_27 : Wc13.heap.size ≤ gREydy16_27 := by rw [hgREydy16_27]; exact S_y16.out.size
        rw [← hgREydy16_27] at hr ⊢
        have REnydy16_27 := hr
        clear hr hgREydy16_27 S_y16 
        generalize Dy16.alloc (.cells #[.int .u64 0, .int .u64 0] 33) = Xydy16_27 at Sydy16_27 REnydy16_27 ⊢
        refine hK _ _ Sydy16_27.out (fun _ => ?_)
        clear hK K
        try simp only [Act.put, List.setIfInBounds_toArray, List.set_cons_zero, List.set_cons_succ]
        refine wpAnyH_ready (rs := [1]) (by kernel_rfl) (by simp) ?_
        refine (AllReadyH.cons rfl (fun K hK => ?_) AllReadyH.nil)
        go_simp
        refine (HB1.out _).mono ?_
        rintro e Xydy16_28 ⟨rfl, hb⟩
        have Sydy16_28 := Lib.hid (Sydy16_27.out.trans (hb.mono Sydy16_27.out.size))
        have REcydy16_28 := Lib.hid (REnydy16_27.out.below hb REnydy16_27.out.lt)
        clear hb Sydy16_27 REnydy16_27
        refine hK _ _ Sydy16_28.out (fun _ => ?_)
        clear hK K
        try simp only [Act.put, List.setIfInBounds_toArray, List.set_cons_zero, List.set_cons_succ]
        refine wpAnyH_ready (rs := [3]) (by kernel_rfl) (by simp) ?_
        refine (AllReadyH.cons rfl (fun K hK => ?_) AllReadyH.nil)
        go_simp
        refine (HB2.out _).mono ?_
        rintro e Xydy16_29 ⟨rfl, hb⟩
        have Sydy16_29 := Lib.hid (Sydy16_28.out.trans (hb.mono Sydy16_28.out.size))
        have REcydy16_29 := Lib.hid (REcydy16_28.out.below hb REcydy16_28.out.lt)
        clear hb Sydy16_28 REcydy16_28
        refine hK _ _ Sydy16_29.out (fun _ => ?_)
        clear hK K
        try simp only [Act.put, List.setIfInBounds_toArray, List.set_cons_zero, List.set_cons_succ]
        refine wpAnyH_ready (rs := [4]) (by kernel_rfl) (by simp) ?_
        refine (AllReadyH.cons rfl (fun K hK => ?_) AllReadyH.nil)
        go_simp
        refine (HB3.out _).mono ?_
        rintro e Xydy16_30 ⟨rfl, hb⟩
        have Sydy16_30 := Lib.hid (Sydy16_29.out.trans (hb.mono Sydy16_29.out.size))
        have REcydy16_30 := Lib.hid (REcydy16_29.out.below hb REcydy16_29.out.lt)
        clear hb Sydy16_29 REcydy16_29
        refine hK _ _ Sydy16_30.out (fun _ => ?_)
        clear hK K
        try simp only [Act.put, List.setIfInBounds_toArray, List.set_cons_zero, List.set_cons_succ]
        refine wpAnyH_take (i := 5) (oi := ⟨some 32, _, _, _, _, _⟩) (v := ?vydy16_31) rfl (by kernel_rfl) (by kernel_rfl) (by kernel_rfl) (fun _ _ _ h => h) (Or.inl ⟨by rfl, ?yydy16_31⟩) Sydy16_30.out ?rydy16_31
        case yydy16_31 =>
          rintro w' hSw
          go_simp
          try with_reducible rfl
        try simp only [Act.put, List.setIfInBounds_toArray, List.set_cons_zero, List.set_cons_succ]
        refine wpAnyH_take (i := 6) (oi := ⟨some 38, _, _, _, _, _⟩) (v := ?vydy16_32) rfl (by kernel_rfl) (by kernel_rfl) (by kernel_rfl) (fun _ _ _ h => h) (Or.inl ⟨by rfl, ?yydy16_32⟩) Sydy16_30.out ?rydy16_32
        case yydy16_32 =>
          rintro w' hSw
          go_simp
          try with_reducible rfl
        try simp only [Act.put, List.setIfInBounds_toArray, List.set_cons_zero, List.set_cons_succ]
        refine wpAnyH_take (i := 7) (oi := ⟨some 39, _, _, _, _, _⟩) (v := ?vydy16_33) rfl (by kernel_rfl) (by kernel_rfl) (by kernel_rfl) (fun _ _ _ h => h) (Or.inl ⟨by rfl, ?yydy16_33⟩) Sydy16_30.out ?rydy16_33
        case yydy16_33 =>
          rintro w' hSw
          go_simp
          try with_reducible rfl
        try simp only [Act.put, List.setIfInBounds_toArray, List.set_cons_zero, List.set_cons_succ]
        refine wpAnyH_ready (rs := [9]) (by kernel_rfl) (by simp) ?_
        refine (AllReadyH.cons rfl (fun K hK => ?_) AllReadyH.nil)
        have f0 := REcydy16_30.out.frozen 0
        have k0 := REcydy16_30.out.cell 0
        have f1 := REcydy16_30.out.frozen 1
        have k1 := REcydy16_30.out.cell 1
        simp only [List.getElem?_cons_zero, List.getElem?_cons_succ] at k0 k1
        rw [if_pos (by rfl)]
        go_simp
        clear f0 k0 f1 k1
        have REsydy16_34 : Hid (Row ((Xydy16_30.setCell ⟨gREydy16_27, 0, none⟩ (.int .u64 (mh : Int))).setCell ⟨gREydy16_27, 1, none⟩ (.int .u64 (ml : Int))) gREydy16_27 33 [.int .u64 (mh : Int), .int .u64 (ml : Int)]) := Lib.hid ((REcydy16_30.out.store 0 (.int .u64 (mh : Int))).store 1 (.int .u64 (ml : Int)))
        have Sydy16_34 := Lib.hid ((Sydy16_30.out.setCell (p := ⟨gREydy16_27, 0, none⟩) (by dsimp only; omega) (.int .u64 (mh : Int))).setCell (p := ⟨gREydy16_27, 1, none⟩) (by dsimp only; omega) (.int .u64 (ml : Int)))
        clear Sydy16_30 REcydy16_30
        generalize ((Xydy16_30.setCell ⟨gREydy16_27, 0, none⟩ (.int .u64 (mh : Int))).setCell ⟨gREydy16_27, 1, none⟩ (.int .u64 (ml : Int))) = Xydy16_34 at Sydy16_34 REsydy16_34 ⊢
        refine hK _ _ Sydy16_34.out (fun _ => ?_)
        clear hK K
        try simp only [Act.put, List.setIfInBounds_toArray, List.set_cons_zero, List.set_cons_succ]
        refine wpAnyH_take (i := 10) (oi := ⟨some 10, _, _, _, _, _⟩) (v := ?vydy16_35) rfl (by kernel_rfl) (by kernel_rfl) (by kernel_rfl) (fun _ _ _ h => h) (Or.inl ⟨by rfl, ?yydy16_35⟩) Sydy16_34.out ?rydy16_35
        case yydy16_35 =>
          rintro w' hSw
          go_simp
          try with_reducible rfl
        try simp only [Act.put, List.setIfInBounds_toArray, List.set_cons_zero, List.set_cons_succ]
        refine wpAnyH_done (by kernel_rfl) ?_ _
        go_wp2_with fail
        go_meet
        exact ⟨rfl, gREydy16_27, rfl, REsydy16_34.out, ngREydy16_27, Sydy16_34.out⟩
    case rest =>
      rename World => Wcy16
      obtain ⟨rfl, gRE_y16, rfl, hrow, hge, hb⟩ := hcut
      have RE_y16 := Lib.hid hrow
      clear hrow
      have hdy16_0 : w.heap.size < gRE_y16 := Nat.lt_of_lt_of_le RA_15.out.lt hge
      have hdy16_1 : w.heap.size + 1 < gRE_y16 := Nat.lt_of_lt_of_le RB_15.out.lt hge
      have hdy16_2 : w.heap.size + 1 + 1 < gRE_y16 := Nat.lt_of_lt_of_le R1_15.out.lt hge
      have hdy16_3 : w.heap.size + 1 + 1 + 1 < gRE_y16 := Nat.lt_of_lt_of_le R2_15.out.lt hge
      have hdy16_4 : W8.heap.size < gRE_y16 := Nat.lt_of_lt_of_le RM_15.out.lt hge
      have hdy16_5 : gRD_13 < gRE_y16 := Nat.lt_of_lt_of_le RD_13.out.lt hge
      have RA_y18 := Lib.hid (RA_15.out.below hb RA_15.out.lt)
      have RB_y18 := Lib.hid (RB_15.out.below hb RB_15.out.lt)
      have R1_y18 := Lib.hid (R1_15.out.below hb R1_15.out.lt)
      have R2_y18 := Lib.hid (R2_15.out.below hb R2_15.out.lt)
      have RM_y18 := Lib.hid (RM_15.out.below hb RM_15.out.lt)
      have RD_y18 := Lib.hid (RD_13.out.below hb RD_13.out.lt)
      have B_y18 := Lib.hid (B_15.out.trans (hb.mono B_15.out.size))
      clear hb RA_15 RB_15 R1_15 R2_15 RM_15 RD_13 B_15
      go_wp2_with fail
      refine wp_region_held_drew (S := fun w' => Row w' (gRD_13) 33 [.int .u64 (gh : Int), .int .u64 (gl : Int)] ∧ Row w' (gRE_y16) 33 [.int .u64 (mh : Int), .int .u64 (ml : Int)]) (by kernel_rfl) ⟨RD_y18.out.drew, RE_y16.out.drew⟩ (fun hHeld => ?_)
      clear hHeld
      have RA_z19 := Lib.hid RA_y18.out.drew
      have RB_z19 := Lib.hid RB_y18.out.drew
      have R1_z19 := Lib.hid R1_y18.out.drew
      have R2_z19 := Lib.hid R2_y18.out.drew
      have RM_z19 := Lib.hid RM_y18.out.drew
      have RD_z19 := Lib.hid RD_y18.out.drew
      have RE_z19 := Lib.hid RE_y16.out.drew
      have B_z19 := Lib.hid B_y18.out.drew
      clear RA_y18 RB_y18 R1_y18 R2_y18 RM_y18 RD_y18 RE_y16 B_y18
      generalize Wcy16.drew = Dz19 at RA_z19 RB_z19 R1_z19 R2_z19 RM_z19 RD_z19 RE_z19 B_z19 ⊢
      refine wpAnyH_take (i := 0) (oi := ⟨some 40, _, _, _, _, _⟩) (v := ?vzrz19_1) rfl (by kernel_rfl) (by kernel_rfl) (by kernel_rfl) (fun _ _ _ h => h) (Or.inl ⟨by rfl, ?yzrz19_1⟩) ⟨RD_z19.out, RE_z19.out⟩ ?rzrz19_1
      case yzrz19_1 =>
        rintro w' hSw
        have k0 := (show Row w' _ _ _ from hSw.1).cell 0
        have k1 := (show Row w' _ _ _ from hSw.1).cell 1
        simp only [List.getElem?_cons_zero, List.getElem?_cons_succ] at k0 k1
        go_simp
        try with_reducible rfl
      try simp only [Act.put, List.setIfInBounds_toArray, List.set_cons_zero, List.set_cons_succ]
      refine wpAnyH_take (i := 1) (oi := ⟨some 41, _, _, _, _, _⟩) (v := ?vzrz19_2) rfl (by kernel_rfl) (by kernel_rfl) (by kernel_rfl) (fun _ _ _ h => h) (Or.inl ⟨by rfl, ?yzrz19_2⟩) ⟨RD_z19.out, RE_z19.out⟩ ?rzrz19_2
      case yzrz19_2 =>
        rintro w' hSw
        have k0 := (show Row w' _ _ _ from hSw.2).cell 0
        have k1 := (show Row w' _ _ _ from hSw.2).cell 1
        simp only [List.getElem?_cons_zero, List.getElem?_cons_succ] at k0 k1
        go_simp
        try with_reducible rfl
      try simp only [Act.put, List.setIfInBounds_toArray, List.set_cons_zero, List.set_cons_succ]
      refine wpAnyH_ready (rs := [2]) (by kernel_rfl) (by simp) ?_
      refine (AllReadyH.cons rfl (fun K hK => ?_) AllReadyH.nil)
      have f0 := R1_z19.out.frozen 0
      have k0 := R1_z19.out.cell 0
      have f1 := R1_z19.out.frozen 1
      have k1 := R1_z19.out.cell 1
      simp only [List.getElem?_cons_zero, List.getElem?_cons_succ] at k0 k1
      rw [if_pos (by rfl)]
      go_simp
      clear f0 k0 f1 k1
      have RA_szrz19_3 := Lib.hid ((RA_z19.out.far (p := ⟨w.heap.size + 1 + 1, 0, none⟩) (by dsimp only; omega) (.int .u64 (gh : Int))).far (p := ⟨w.heap.size + 1 + 1, 1, none⟩) (by dsimp only; omega) (.int .u64 (gl : Int)))
      have RB_szrz19_3 := Lib.hid ((RB_z19.out.far (p := ⟨w.heap.size + 1 + 1, 0, none⟩) (by dsimp only; omega) (.int .u64 (gh : Int))).far (p := ⟨w.heap.size + 1 + 1, 1, none⟩) (by dsimp only; omega) (.int .u64 (gl : Int)))
      have R1_szrz19_3 : Hid (Row ((Dz19.setCell ⟨w.heap.size + 1 + 1, 0, none⟩ (.int .u64 (gh : Int))).setCell ⟨w.heap.size + 1 + 1, 1, none⟩ (.int .u64 (gl : Int))) (w.heap.size + 1 + 1) 33 [.int .u64 (gh : Int), .int .u64 (gl : Int)]) := Lib.hid ((R1_z19.out.store 0 (.int .u64 (gh : Int))).store 1 (.int .u64 (gl : Int)))
      have R2_szrz19_3 := Lib.hid ((R2_z19.out.far (p := ⟨w.heap.size + 1 + 1, 0, none⟩) (by dsimp only; omega) (.int .u64 (gh : Int))).far (p := ⟨w.heap.size + 1 + 1, 1, none⟩) (by dsimp only; omega) (.int .u64 (gl : Int)))
      have RM_szrz19_3 := Lib.hid ((RM_z19.out.far (p := ⟨w.heap.size + 1 + 1, 0, none⟩) (by dsimp only; omega) (.int .u64 (gh : Int))).far (p := ⟨w.heap.size + 1 + 1, 1, none⟩) (by dsimp only; omega) (.int .u64 (gl : Int)))
      have RD_szrz19_3 := Lib.hid ((RD_z19.out.far (p := ⟨w.heap.size + 1 + 1, 0, none⟩) (by dsimp only; omega) (.int .u64 (gh : Int))).far (p := ⟨w.heap.size + 1 + 1, 1, none⟩) (by dsimp only; omega) (.int .u64 (gl : Int)))
      have RE_szrz19_3 := Lib.hid ((RE_z19.out.far (p := ⟨w.heap.size + 1 + 1, 0, none⟩) (by dsimp only; omega) (.int .u64 (gh : Int))).far (p := ⟨w.heap.size + 1 + 1, 1, none⟩) (by dsimp only; omega) (.int .u64 (gl : Int)))
      have B_szrz19_3 := Lib.hid ((B_z19.out.setCell (p := ⟨w.heap.size + 1 + 1, 0, none⟩) (by dsimp only; omega) (.int .u64 (gh : Int))).setCell (p := ⟨w.heap.size + 1 + 1, 1, none⟩) (by dsimp only; omega) (.int .u64 (gl : Int)))
      clear RA_z19 RB_z19 R1_z19 R2_z19 RM_z19 RD_z19 RE_z19 B_z19
      generalize ((Dz19.setCell ⟨w.heap.size + 1 + 1, 0, none⟩ (.int .u64 (gh : Int))).setCell ⟨w.heap.size + 1 + 1, 1, none⟩ (.int .u64 (gl : Int))) = Xzrz19_3 at RA_szrz19_3 RB_szrz19_3 R1_szrz19_3 R2_szrz19_3 RM_szrz19_3 RD_szrz19_3 RE_szrz19_3 B_szrz19_3 ⊢
      refine hK _ _ ⟨RD_szrz19_3.out, RE_szrz19_3.out⟩ (fun _ => ?_)
      clear hK K
      try simp only [Act.put, List.setIfInBounds_toArray, List.set_cons_zero, List.set_cons_succ]
      refine wpAnyH_ready (rs := [3]) (by kernel_rfl) (by simp) ?_
      refine (AllReadyH.cons rfl (fun K hK => ?_) AllReadyH.nil)
      have f0 := R2_szrz19_3.out.frozen 0
      have k0 := R2_szrz19_3.out.cell 0
      have f1 := R2_szrz19_3.out.frozen 1
      have k1 := R2_szrz19_3.out.cell 1
      simp only [List.getElem?_cons_zero, List.getElem?_cons_succ] at k0 k1
      rw [if_pos (by rfl)]
      go_simp
      clear f0 k0 f1 k1
      have RA_szrz19_4 := Lib.hid ((RA_szrz19_3.out.far (p := ⟨w.heap.size + 1 + 1 + 1, 0, none⟩) (by dsimp only; omega) (.int .u64 (mh : Int))).far (p := ⟨w.heap.size + 1 + 1 + 1, 1, none⟩) (by dsimp only; omega) (.int .u64 (ml : Int)))
      have RB_szrz19_4 := Lib.hid ((RB_szrz19_3.out.far (p := ⟨w.heap.size + 1 + 1 + 1, 0, none⟩) (by dsimp only; omega) (.int .u64 (mh : Int))).far (p := ⟨w.heap.size + 1 + 1 + 1, 1, none⟩) (by dsimp only; omega) (.int .u64 (ml : Int)))
      have R1_szrz19_4 := Lib.hid ((R1_szrz19_3.out.far (p := ⟨w.heap.size + 1 + 1 + 1, 0, none⟩) (by dsimp only; omega) (.int .u64 (mh : Int))).far (p := ⟨w.heap.size + 1 + 1 + 1, 1, none⟩) (by dsimp only; omega) (.int .u64 (ml : Int)))
      have R2_szrz19_4 : Hid (Row ((Xzrz19_3.setCell ⟨w.heap.size + 1 + 1 + 1, 0, none⟩ (.int .u64 (mh : Int))).setCell ⟨w.heap.size + 1 + 1 + 1, 1, none⟩ (.int .u64 (ml : Int))) (w.heap.size + 1 + 1 + 1) 33 [.int .u64 (mh : Int), .int .u64 (ml : Int)]) := Lib.hid ((R2_szrz19_3.out.store 0 (.int .u64 (mh : Int))).store 1 (.int .u64 (ml : Int)))
      have RM_szrz19_4 := Lib.hid ((RM_szrz19_3.out.far (p := ⟨w.heap.size + 1 + 1 + 1, 0, none⟩) (by dsimp only; omega) (.int .u64 (mh : Int))).far (p := ⟨w.heap.size + 1 + 1 + 1, 1, none⟩) (by dsimp only; omega) (.int .u64 (ml : Int)))
      have RD_szrz19_4 := Lib.hid ((RD_szrz19_3.out.far (p := ⟨w.heap.size + 1 + 1 + 1, 0, none⟩) (by dsimp only; omega) (.int .u64 (mh : Int))).far (p := ⟨w.heap.size + 1 + 1 + 1, 1, none⟩) (by dsimp only; omega) (.int .u64 (ml : Int)))
      have RE_szrz19_4 := Lib.hid ((RE_szrz19_3.out.far (p := ⟨w.heap.size + 1 + 1 + 1, 0, none⟩) (by dsimp only; omega) (.int .u64 (mh : Int))).far (p := ⟨w.heap.size + 1 + 1 + 1, 1, none⟩) (by dsimp only; omega) (.int .u64 (ml : Int)))
      have B_szrz19_4 := Lib.hid ((B_szrz19_3.out.setCell (p := ⟨w.heap.size + 1 + 1 + 1, 0, none⟩) (by dsimp only; omega) (.int .u64 (mh : Int))).setCell (p := ⟨w.heap.size + 1 + 1 + 1, 1, none⟩) (by dsimp only; omega) (.int .u64 (ml : Int)))
      clear RA_szrz19_3 RB_szrz19_3 R1_szrz19_3 R2_szrz19_3 RM_szrz19_3 RD_szrz19_3 RE_szrz19_3 B_szrz19_3
      generalize ((Xzrz19_3.setCell ⟨w.heap.size + 1 + 1 + 1, 0, none⟩ (.int .u64 (mh : Int))).setCell ⟨w.heap.size + 1 + 1 + 1, 1, none⟩ (.int .u64 (ml : Int))) = Xzrz19_4 at RA_szrz19_4 RB_szrz19_4 R1_szrz19_4 R2_szrz19_4 RM_szrz19_4 RD_szrz19_4 RE_szrz19_4 B_szrz19_4 ⊢
      refine hK _ _ ⟨RD_szrz19_4.out, RE_szrz19_4.out⟩ (fun _ => ?_)
      clear hK K
      try simp only [Act.put, List.setIfInBounds_toArray, List.set_cons_zero, List.set_cons_succ]
      refine wpAnyH_done (by kernel_rfl) ?_ _
      have cz20_0 := R1_szrz19_4.out.cell 0
      have cz20_1 := R1_szrz19_4.out.cell 1
      simp only [List.getElem?_cons_zero, List.getElem?_cons_succ] at cz20_0 cz20_1
      have cz21_0 := R2_szrz19_4.out.cell 0
      have cz21_1 := R2_szrz19_4.out.cell 1
      simp only [List.getElem?_cons_zero, List.getElem?_cons_succ] at cz21_0 cz21_1
      go_wp2
      exact bodyPost_ret (v := .tuple #[.agg #[.int .u64 (gh : Int), .int .u64 (gl : Int)], .agg #[.int .u64 (mh : Int), .int .u64 (ml : Int)]]) (by simp [results, Try.results18, go_sem, *]) rfl ⟨rfl, B_szrz19_4.out⟩
end Go.Proofs.Ytbmfijcckdkmdaa.Ky
