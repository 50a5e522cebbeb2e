/-
  Keys: the reference's Grows, Order, Less.
-/
import Derived.Test.YtbmfijcckdkmdaaKy17
import Derived.Deep.CutRange
import Derived.Test.YtbmfijcckdkmdaaWi2
import Derived.LoopTactic
import Derived.Deep.RegionHeld
import Derived.Deep.Cut
import Derived.WalkLawsBesides
namespace Go.Proofs.Ytbmfijcckdkmdaa.Ky
set_option maxRecDepth 100000
open Go.RowKit Go.Proofs.Ytbmfijcckdkmdaa.Wd Go.Proofs.Ytbmfijcckdkmdaa.Wi Go.Proofs.Ytbmfijcckdkmdaa.Lift


def ordM (p m q n : Nat) : Int := if cmpM p q = 0 then cmpM m n else cmpM p q
theorem ord_less (p m q n : Nat) : decide (ordM p m q n < 0) = lessN p m q n := by
  unfold ordM lessN cmpM
  by_cases h : p = q
  · subst h
    simp only [Nat.lt_irrefl, if_false, if_true]
    rw [decide_eq_decide]
    repeat' split
    all_goals omega
  · by_cases hl : p < q
    · simp [h, hl]
    · simp [h, hl]
set_option maxHeartbeats 4000000 in
theorem Order_ref {p m q n ph pl mh ml qh ql nh nl : Nat} (H1 : Wn p ph pl) (H2 : Wn m mh ml) (H3 : Wn q qh ql) (H4 : Wn n nh nl) (w : World) :
    Calls Try.prog 33 #[.agg #[.int .u64 (ph : Int), .int .u64 (pl : Int)], .agg #[.int .u64 (mh : Int), .int .u64 (ml : Int)], .agg #[.int .u64 (qh : Int), .int .u64 (ql : Int)], .agg #[.int .u64 (nh : Int), .int .u64 (nl : Int)]] w fun e w' => e = .returned (.int .i64 (ordM p m q n)) ∧ Below w.heap.size w w' := by
  obtain ⟨s1, hs1⟩ : ∃ s, cmpM p q = s := ⟨_, rfl⟩
  obtain ⟨s2, hs2⟩ : ∃ s, cmpM m n = s := ⟨_, rfl⟩
  have HC1 := Lib.hid (CmpR_is H1 H3 hs1)
  have HC2 := Lib.hid (CmpR_is H2 H4 hs2)
  have HO : Hid (ordM p m q n = if s1 = 0 then s2 else s1) := Lib.hid (by unfold ordM; rw [hs1, hs2])
  clear H1 H2 H3 H4 hs1 hs2
  generalize ordM p m q n = r at HO ⊢
  by_cases h : s1 = 0
  · subst h
    have HE : Hid (r = s2) := Lib.hid (by rw [HO.out, if_pos rfl])
    clear HO
    go_enter Try.func33, Try.ntmps33
    go_upto_region 1 with fail
    have R1_a1 := Lib.hid ((((row_last w (w.heap.size) 33 [.int .u64 (ph : Int), .int .u64 (pl : Int)] (by simp)).alloc (.cells #[.int .u64 (mh : Int), .int .u64 (ml : Int)] 33)).alloc (.cells #[.int .u64 (qh : Int), .int .u64 (ql : Int)] 33)).alloc (.cells #[.int .u64 (nh : Int), .int .u64 (nl : Int)] 33))
    have R2_a1 := Lib.hid (((row_last (w.alloc (.cells #[.int .u64 (ph : Int), .int .u64 (pl : Int)] 33)) (w.heap.size + 1) 33 [.int .u64 (mh : Int), .int .u64 (ml : Int)] (by simp)).alloc (.cells #[.int .u64 (qh : Int), .int .u64 (ql : Int)] 33)).alloc (.cells #[.int .u64 (nh : Int), .int .u64 (nl : Int)] 33))
    have R3_a1 := Lib.hid ((row_last ((w.alloc (.cells #[.int .u64 (ph : Int), .int .u64 (pl : Int)] 33)).alloc (.cells #[.int .u64 (mh : Int), .int .u64 (ml : Int)] 33)) (w.heap.size + 1 + 1) 33 [.int .u64 (qh : Int), .int .u64 (ql : Int)] (by simp)).alloc (.cells #[.int .u64 (nh : Int), .int .u64 (nl : Int)] 33))
    have R4_a1 := Lib.hid (row_last (((w.alloc (.cells #[.int .u64 (ph : Int), .int .u64 (pl : Int)] 33)).alloc (.cells #[.int .u64 (mh : Int), .int .u64 (ml : Int)] 33)).alloc (.cells #[.int .u64 (qh : Int), .int .u64 (ql : Int)] 33)) (w.heap.size + 1 + 1 + 1) 33 [.int .u64 (nh : Int), .int .u64 (nl : Int)] (by simp))
    have B_a1 := Lib.hid (((((Below.refl w.heap.size w).alloc (Nat.le_refl _) (.cells #[.int .u64 (ph : Int), .int .u64 (pl : Int)] 33)).alloc (by have := Nat.le_refl w.heap.size; simp <;> omega) (.cells #[.int .u64 (mh : Int), .int .u64 (ml : Int)] 33)).alloc (by have := Nat.le_refl w.heap.size; simp <;> omega) (.cells #[.int .u64 (qh : Int), .int .u64 (ql : Int)] 33)).alloc (by have := Nat.le_refl w.heap.size; simp <;> omega) (.cells #[.int .u64 (nh : Int), .int .u64 (nl : Int)] 33))
    generalize ((((w.alloc (.cells #[.int .u64 (ph : Int), .int .u64 (pl : Int)] 33)).alloc (.cells #[.int .u64 (mh : Int), .int .u64 (ml : Int)] 33)).alloc (.cells #[.int .u64 (qh : Int), .int .u64 (ql : Int)] 33)).alloc (.cells #[.int .u64 (nh : Int), .int .u64 (nl : Int)] 33)) = Va1 at R1_a1 R2_a1 R3_a1 R4_a1 B_a1 ⊢
    have ca3_0 := R1_a1.out.cell 0
    have ca3_1 := R1_a1.out.cell 1
    simp only [List.getElem?_cons_zero, List.getElem?_cons_succ] at ca3_0 ca3_1
    have ca4_0 := R3_a1.out.cell 0
    have ca4_1 := R3_a1.out.cell 1
    simp only [List.getElem?_cons_zero, List.getElem?_cons_succ] at ca4_0 ca4_1
    go_wp2_with fail
    refine (HC1.out _).mono ?_
    rintro e Wa2 ⟨rfl, hb⟩
    clear ca3_0 ca3_1 ca4_0 ca4_1
    have R1_a5 := Lib.hid (R1_a1.out.below hb R1_a1.out.lt)
    have R2_a5 := Lib.hid (R2_a1.out.below hb R2_a1.out.lt)
    have R3_a5 := Lib.hid (R3_a1.out.below hb R3_a1.out.lt)
    have R4_a5 := Lib.hid (R4_a1.out.below hb R4_a1.out.lt)
    have B_a5 := Lib.hid (B_a1.out.trans (hb.mono B_a1.out.size))
    clear hb R1_a1 R2_a1 R3_a1 R4_a1 B_a1
    have ca7_0 := R2_a5.out.cell 0
    have ca7_1 := R2_a5.out.cell 1
    simp only [List.getElem?_cons_zero, List.getElem?_cons_succ] at ca7_0 ca7_1
    have ca8_0 := R4_a5.out.cell 0
    have ca8_1 := R4_a5.out.cell 1
    simp only [List.getElem?_cons_zero, List.getElem?_cons_succ] at ca8_0 ca8_1
    go_wp2_with fail
    refine (HC2.out _).mono ?_
    rintro e Wa6 ⟨rfl, hb⟩
    clear ca7_0 ca7_1 ca8_0 ca8_1
    have R1_a9 := Lib.hid (R1_a5.out.below hb R1_a5.out.lt)
    have R2_a9 := Lib.hid (R2_a5.out.below hb R2_a5.out.lt)
    have R3_a9 := Lib.hid (R3_a5.out.below hb R3_a5.out.lt)
    have R4_a9 := Lib.hid (R4_a5.out.below hb R4_a5.out.lt)
    have B_a9 := Lib.hid (B_a5.out.trans (hb.mono B_a5.out.size))
    clear hb R1_a5 R2_a5 R3_a5 R4_a5 B_a5
    go_wp2
    go_ret
    exact ⟨by rw [HE.out]; rfl, B_a9.out⟩
  · have HE : Hid (r = s1) := Lib.hid (by rw [HO.out, if_neg h])
    clear HO
    go_enter Try.func33, Try.ntmps33
    go_upto_region 1 with fail
    have R1_b1 := Lib.hid ((((row_last w (w.heap.size) 33 [.int .u64 (ph : Int), .int .u64 (pl : Int)] (by simp)).alloc (.cells #[.int .u64 (mh : Int), .int .u64 (ml : Int)] 33)).alloc (.cells #[.int .u64 (qh : Int), .int .u64 (ql : Int)] 33)).alloc (.cells #[.int .u64 (nh : Int), .int .u64 (nl : Int)] 33))
    have R2_b1 := Lib.hid (((row_last (w.alloc (.cells #[.int .u64 (ph : Int), .int .u64 (pl : Int)] 33)) (w.heap.size + 1) 33 [.int .u64 (mh : Int), .int .u64 (ml : Int)] (by simp)).alloc (.cells #[.int .u64 (qh : Int), .int .u64 (ql : Int)] 33)).alloc (.cells #[.int .u64 (nh : Int), .int .u64 (nl : Int)] 33))
    have R3_b1 := Lib.hid ((row_last ((w.alloc (.cells #[.int .u64 (ph : Int), .int .u64 (pl : Int)] 33)).alloc (.cells #[.int .u64 (mh : Int), .int .u64 (ml : Int)] 33)) (w.heap.size + 1 + 1) 33 [.int .u64 (qh : Int), .int .u64 (ql : Int)] (by simp)).alloc (.cells #[.int .u64 (nh : Int), .int .u64 (nl : Int)] 33))
    have R4_b1 := Lib.hid (row_last (((w.alloc (.cells #[.int .u64 (ph : Int), .int .u64 (pl : Int)] 33)).alloc (.cells #[.int .u64 (mh : Int), .int .u64 (ml : Int)] 33)).alloc (.cells #[.int .u64 (qh : Int), .int .u64 (ql : Int)] 33)) (w.heap.size + 1 + 1 + 1) 33 [.int .u64 (nh : Int), .int .u64 (nl : Int)] (by simp))
    have B_b1 := Lib.hid (((((Below.refl w.heap.size w).alloc (Nat.le_refl _) (.cells #[.int .u64 (ph : Int), .int .u64 (pl : Int)] 33)).alloc (by have := Nat.le_refl w.heap.size; simp <;> omega) (.cells #[.int .u64 (mh : Int), .int .u64 (ml : Int)] 33)).alloc (by have := Nat.le_refl w.heap.size; simp <;> omega) (.cells #[.int .u64 (qh : Int), .int .u64 (ql : Int)] 33)).alloc (by have := Nat.le_refl w.heap.size; simp <;> omega) (.cells #[.int .u64 (nh : Int), .int .u64 (nl : Int)] 33))
    generalize ((((w.alloc (.cells #[.int .u64 (ph : Int), .int .u64 (pl : Int)] 33)).alloc (.cells #[.int .u64 (mh : Int), .int .u64 (ml : Int)] 33)).alloc (.cells #[.int .u64 (qh : Int), .int .u64 (ql : Int)] 33)).alloc (.cells #[.int .u64 (nh : Int), .int .u64 (nl : Int)] 33)) = Vb1 at R1_b1 R2_b1 R3_b1 R4_b1 B_b1 ⊢
    have cb3_0 := R1_b1.out.cell 0
    have cb3_1 := R1_b1.out.cell 1
    simp only [List.getElem?_cons_zero, List.getElem?_cons_succ] at cb3_0 cb3_1
    have cb4_0 := R3_b1.out.cell 0
    have cb4_1 := R3_b1.out.cell 1
    simp only [List.getElem?_cons_zero, List.getElem?_cons_succ] at cb4_0 cb4_1
    go_wp2_with fail
    refine (HC1.out _).mono ?_
    rintro e Wb2 ⟨rfl, hb⟩
    clear cb3_0 cb3_1 cb4_0 cb4_1
    have R1_b5 := Lib.hid (R1_b1.out.below hb R1_b1.out.lt)
    have R2_b5 := Lib.hid (R2_b1.out.below hb R2_b1.out.lt)
    have R3_b5 := Lib.hid (R3_b1.out.below hb R3_b1.out.lt)
    have R4_b5 := Lib.hid (R4_b1.out.below hb R4_b1.out.lt)
    have B_b5 := Lib.hid (B_b1.out.trans (hb.mono B_b1.out.size))
    clear hb R1_b1 R2_b1 R3_b1 R4_b1 B_b1
    go_wp2
    go_ret
    exact ⟨by rw [HE.out]; rfl, B_b5.out⟩

set_option maxHeartbeats 4000000 in
theorem Less_ref {x0 x1 y0 y1 u0 u1 v0 v1 z0 z1 t0 t1 : Int} (kx : KOk x0 x1 y0 y1) (ku : KOk u0 u1 v0 v1) (kz : KOk z0 z1 t0 t1) (w : World) :
    Calls Try.prog 20 #[KV x0 x1 y0 y1, KV u0 u1 v0 v1, KV z0 z1 t0 t1] w fun e w' => e = .returned (.bool (lessB x0 x1 y0 y1 u0 u1 v0 v1 z0 z1 t0 t1)) ∧ Below w.heap.size w w' := by
  have HBA := Lib.hid (Box_ref x0 x1 y0 y1)
  have HBB := Lib.hid (Box_ref u0 u1 v0 v1)
  have HBC := Lib.hid (Box_ref z0 z1 t0 t1)
  cases h0 : boxB x0 x1 y0 y1
  · rw [show lessB x0 x1 y0 y1 u0 u1 v0 v1 z0 z1 t0 t1 = false from by unfold lessB; rw [h0]; simp]
    rw [h0] at HBA
    clear h0 kx ku kz
    go_enter Try.func20, Try.ntmps20
    go_upto_region 1 with fail
    have RA_a1 := Lib.hid (((row_last w (w.heap.size) 23 [.int .i64 x0, .int .i64 x1, .int .i64 y0, .int .i64 y1] (by simp)).alloc (.cells #[.int .i64 u0, .int .i64 u1, .int .i64 v0, .int .i64 v1] 23)).alloc (.cells #[.int .i64 z0, .int .i64 z1, .int .i64 t0, .int .i64 t1] 23))
    have RB_a1 := Lib.hid ((row_last (w.alloc (.cells #[.int .i64 x0, .int .i64 x1, .int .i64 y0, .int .i64 y1] 23)) (w.heap.size + 1) 23 [.int .i64 u0, .int .i64 u1, .int .i64 v0, .int .i64 v1] (by simp)).alloc (.cells #[.int .i64 z0, .int .i64 z1, .int .i64 t0, .int .i64 t1] 23))
    have RC_a1 := Lib.hid (row_last ((w.alloc (.cells #[.int .i64 x0, .int .i64 x1, .int .i64 y0, .int .i64 y1] 23)).alloc (.cells #[.int .i64 u0, .int .i64 u1, .int .i64 v0, .int .i64 v1] 23)) (w.heap.size + 1 + 1) 23 [.int .i64 z0, .int .i64 z1, .int .i64 t0, .int .i64 t1] (by simp))
    have B_a1 := Lib.hid ((((Below.refl w.heap.size w).alloc (Nat.le_refl _) (.cells #[.int .i64 x0, .int .i64 x1, .int .i64 y0, .int .i64 y1] 23)).alloc (by have := Nat.le_refl w.heap.size; simp <;> omega) (.cells #[.int .i64 u0, .int .i64 u1, .int .i64 v0, .int .i64 v1] 23)).alloc (by have := Nat.le_refl w.heap.size; simp <;> omega) (.cells #[.int .i64 z0, .int .i64 z1, .int .i64 t0, .int .i64 t1] 23))
    generalize (((w.alloc (.cells #[.int .i64 x0, .int .i64 x1, .int .i64 y0, .int .i64 y1] 23)).alloc (.cells #[.int .i64 u0, .int .i64 u1, .int .i64 v0, .int .i64 v1] 23)).alloc (.cells #[.int .i64 z0, .int .i64 z1, .int .i64 t0, .int .i64 t1] 23)) = Va1 at RA_a1 RB_a1 RC_a1 B_a1 ⊢
    have ca3_0 := RA_a1.out.cell 0
    have ca3_1 := RA_a1.out.cell 1
    have ca3_2 := RA_a1.out.cell 2
    have ca3_3 := RA_a1.out.cell 3
    simp only [List.getElem?_cons_zero, List.getElem?_cons_succ] at ca3_0 ca3_1 ca3_2 ca3_3
    go_wp2_with fail
    refine (HBA.out _).mono ?_
    rintro e Wa2 ⟨rfl, hb⟩
    clear ca3_0 ca3_1 ca3_2 ca3_3
    have RA_a4 := Lib.hid (RA_a1.out.below hb RA_a1.out.lt)
    have RB_a4 := Lib.hid (RB_a1.out.below hb RB_a1.out.lt)
    have RC_a4 := Lib.hid (RC_a1.out.below hb RC_a1.out.lt)
    have B_a4 := Lib.hid (B_a1.out.trans (hb.mono B_a1.out.size))
    clear hb RA_a1 RB_a1 RC_a1 B_a1
    go_wp2
    go_ret
    exact ⟨rfl, B_a4.out⟩
  rw [h0] at HBA
  cases h1 : boxB u0 u1 v0 v1
  · rw [show lessB x0 x1 y0 y1 u0 u1 v0 v1 z0 z1 t0 t1 = false from by unfold lessB; rw [h0, h1]; simp]
    rw [h1] at HBB
    clear h0 h1 kx ku kz
    go_enter Try.func20, Try.ntmps20
    go_upto_region 1 with fail
    have RA_b1 := Lib.hid (((row_last w (w.heap.size) 23 [.int .i64 x0, .int .i64 x1, .int .i64 y0, .int .i64 y1] (by simp)).alloc (.cells #[.int .i64 u0, .int .i64 u1, .int .i64 v0, .int .i64 v1] 23)).alloc (.cells #[.int .i64 z0, .int .i64 z1, .int .i64 t0, .int .i64 t1] 23))
    have RB_b1 := Lib.hid ((row_last (w.alloc (.cells #[.int .i64 x0, .int .i64 x1, .int .i64 y0, .int .i64 y1] 23)) (w.heap.size + 1) 23 [.int .i64 u0, .int .i64 u1, .int .i64 v0, .int .i64 v1] (by simp)).alloc (.cells #[.int .i64 z0, .int .i64 z1, .int .i64 t0, .int .i64 t1] 23))
    have RC_b1 := Lib.hid (row_last ((w.alloc (.cells #[.int .i64 x0, .int .i64 x1, .int .i64 y0, .int .i64 y1] 23)).alloc (.cells #[.int .i64 u0, .int .i64 u1, .int .i64 v0, .int .i64 v1] 23)) (w.heap.size + 1 + 1) 23 [.int .i64 z0, .int .i64 z1, .int .i64 t0, .int .i64 t1] (by simp))
    have B_b1 := Lib.hid ((((Below.refl w.heap.size w).alloc (Nat.le_refl _) (.cells #[.int .i64 x0, .int .i64 x1, .int .i64 y0, .int .i64 y1] 23)).alloc (by have := Nat.le_refl w.heap.size; simp <;> omega) (.cells #[.int .i64 u0, .int .i64 u1, .int .i64 v0, .int .i64 v1] 23)).alloc (by have := Nat.le_refl w.heap.size; simp <;> omega) (.cells #[.int .i64 z0, .int .i64 z1, .int .i64 t0, .int .i64 t1] 23))
    generalize (((w.alloc (.cells #[.int .i64 x0, .int .i64 x1, .int .i64 y0, .int .i64 y1] 23)).alloc (.cells #[.int .i64 u0, .int .i64 u1, .int .i64 v0, .int .i64 v1] 23)).alloc (.cells #[.int .i64 z0, .int .i64 z1, .int .i64 t0, .int .i64 t1] 23)) = Vb1 at RA_b1 RB_b1 RC_b1 B_b1 ⊢
    have cb3_0 := RA_b1.out.cell 0
    have cb3_1 := RA_b1.out.cell 1
    have cb3_2 := RA_b1.out.cell 2
    have cb3_3 := RA_b1.out.cell 3
    simp only [List.getElem?_cons_zero, List.getElem?_cons_succ] at cb3_0 cb3_1 cb3_2 cb3_3
    go_wp2_with fail
    refine (HBA.out _).mono ?_
    rintro e Wb2 ⟨rfl, hb⟩
    clear cb3_0 cb3_1 cb3_2 cb3_3
    have RA_b4 := Lib.hid (RA_b1.out.below hb RA_b1.out.lt)
    have RB_b4 := Lib.hid (RB_b1.out.below hb RB_b1.out.lt)
    have RC_b4 := Lib.hid (RC_b1.out.below hb RC_b1.out.lt)
    have B_b4 := Lib.hid (B_b1.out.trans (hb.mono B_b1.out.size))
    clear hb RA_b1 RB_b1 RC_b1 B_b1
    have cb6_0 := RB_b4.out.cell 0
    have cb6_1 := RB_b4.out.cell 1
    have cb6_2 := RB_b4.out.cell 2
    have cb6_3 := RB_b4.out.cell 3
    simp only [List.getElem?_cons_zero, List.getElem?_cons_succ] at cb6_0 cb6_1 cb6_2 cb6_3
    go_wp2_with fail
    refine (HBB.out _).mono ?_
    rintro e Wb5 ⟨rfl, hb⟩
    clear cb6_0 cb6_1 cb6_2 cb6_3
    have RA_b7 := Lib.hid (RA_b4.out.below hb RA_b4.out.lt)
    have RB_b7 := Lib.hid (RB_b4.out.below hb RB_b4.out.lt)
    have RC_b7 := Lib.hid (RC_b4.out.below hb RC_b4.out.lt)
    have B_b7 := Lib.hid (B_b4.out.trans (hb.mono B_b4.out.size))
    clear hb RA_b4 RB_b4 RC_b4 B_b4
    go_wp2
    go_ret
    exact ⟨rfl, B_b7.out⟩
  rw [h1] at HBB
  cases h2 : boxB z0 z1 t0 t1
  · rw [show lessB x0 x1 y0 y1 u0 u1 v0 v1 z0 z1 t0 t1 = false from by unfold lessB; rw [h0, h1, h2]; simp]
    rw [h2] at HBC
    clear h0 h1 h2 kx ku kz
    go_enter Try.func20, Try.ntmps20
    go_upto_region 1 with fail
    have RA_c1 := Lib.hid (((row_last w (w.heap.size) 23 [.int .i64 x0, .int .i64 x1, .int .i64 y0, .int .i64 y1] (by simp)).alloc (.cells #[.int .i64 u0, .int .i64 u1, .int .i64 v0, .int .i64 v1] 23)).alloc (.cells #[.int .i64 z0, .int .i64 z1, .int .i64 t0, .int .i64 t1] 23))
    have RB_c1 := Lib.hid ((row_last (w.alloc (.cells #[.int .i64 x0, .int .i64 x1, .int .i64 y0, .int .i64 y1] 23)) (w.heap.size + 1) 23 [.int .i64 u0, .int .i64 u1, .int .i64 v0, .int .i64 v1] (by simp)).alloc (.cells #[.int .i64 z0, .int .i64 z1, .int .i64 t0, .int .i64 t1] 23))
    have RC_c1 := Lib.hid (row_last ((w.alloc (.cells #[.int .i64 x0, .int .i64 x1, .int .i64 y0, .int .i64 y1] 23)).alloc (.cells #[.int .i64 u0, .int .i64 u1, .int .i64 v0, .int .i64 v1] 23)) (w.heap.size + 1 + 1) 23 [.int .i64 z0, .int .i64 z1, .int .i64 t0, .int .i64 t1] (by simp))
    have B_c1 := Lib.hid ((((Below.refl w.heap.size w).alloc (Nat.le_refl _) (.cells #[.int .i64 x0, .int .i64 x1, .int .i64 y0, .int .i64 y1] 23)).alloc (by have := Nat.le_refl w.heap.size; simp <;> omega) (.cells #[.int .i64 u0, .int .i64 u1, .int .i64 v0, .int .i64 v1] 23)).alloc (by have := Nat.le_refl w.heap.size; simp <;> omega) (.cells #[.int .i64 z0, .int .i64 z1, .int .i64 t0, .int .i64 t1] 23))
    generalize (((w.alloc (.cells #[.int .i64 x0, .int .i64 x1, .int .i64 y0, .int .i64 y1] 23)).alloc (.cells #[.int .i64 u0, .int .i64 u1, .int .i64 v0, .int .i64 v1] 23)).alloc (.cells #[.int .i64 z0, .int .i64 z1, .int .i64 t0, .int .i64 t1] 23)) = Vc1 at RA_c1 RB_c1 RC_c1 B_c1 ⊢
    have cc3_0 := RA_c1.out.cell 0
    have cc3_1 := RA_c1.out.cell 1
    have cc3_2 := RA_c1.out.cell 2
    have cc3_3 := RA_c1.out.cell 3
    simp only [List.getElem?_cons_zero, List.getElem?_cons_succ] at cc3_0 cc3_1 cc3_2 cc3_3
    go_wp2_with fail
    refine (HBA.out _).mono ?_
    rintro e Wc2 ⟨rfl, hb⟩
    clear cc3_0 cc3_1 cc3_2 cc3_3
    have RA_c4 := Lib.hid (RA_c1.out.below hb RA_c1.out.lt)
    have RB_c4 := Lib.hid (RB_c1.out.below hb RB_c1.out.lt)
    have RC_c4 := Lib.hid (RC_c1.out.below hb RC_c1.out.lt)
    have B_c4 := Lib.hid (B_c1.out.trans (hb.mono B_c1.out.size))
    clear hb RA_c1 RB_c1 RC_c1 B_c1
    have cc6_0 := RB_c4.out.cell 0
    have cc6_1 := RB_c4.out.cell 1
    have cc6_2 := RB_c4.out.cell 2
    have cc6_3 := RB_c4.out.cell 3
    simp only [List.getElem?_cons_zero, List.getElem?_cons_succ] at cc6_0 cc6_1 cc6_2 cc6_3
    go_wp2_with fail
    refine (HBB.out _).mono ?_
    rintro e Wc5 ⟨rfl, hb⟩
    clear cc6_0 cc6_1 cc6_2 cc6_3
    have RA_c7 := Lib.hid (RA_c4.out.below hb RA_c4.out.lt)
    have RB_c7 := Lib.hid (RB_c4.out.below hb RB_c4.out.lt)
    have RC_c7 := Lib.hid (RC_c4.out.below hb RC_c4.out.lt)
    have B_c7 := Lib.hid (B_c4.out.trans (hb.mono B_c4.out.size))
    clear hb RA_c4 RB_c4 RC_c4 B_c4
    have cc9_0 := RC_c7.out.cell 0
    have cc9_1 := RC_c7.out.cell 1
    have cc9_2 := RC_c7.out.cell 2
    have cc9_3 := RC_c7.out.cell 3
    simp only [List.getElem?_cons_zero, List.getElem?_cons_succ] at cc9_0 cc9_1 cc9_2 cc9_3
    go_wp2_with fail
    refine (HBC.out _).mono ?_
    rintro e Wc8 ⟨rfl, hb⟩
    clear cc9_0 cc9_1 cc9_2 cc9_3
    have RA_c10 := Lib.hid (RA_c7.out.below hb RA_c7.out.lt)
    have RB_c10 := Lib.hid (RB_c7.out.below hb RB_c7.out.lt)
    have RC_c10 := Lib.hid (RC_c7.out.below hb RC_c7.out.lt)
    have B_c10 := Lib.hid (B_c7.out.trans (hb.mono B_c7.out.size))
    clear hb RA_c7 RB_c7 RC_c7 B_c7
    go_wp2
    go_ret
    exact ⟨rfl, B_c10.out⟩
  rw [h2] at HBC
  obtain ⟨ah, al, g1⟩ := wn_of _ (growA_lt kx kz)
  obtain ⟨bh, bl, g2⟩ := wn_of _ (growM_lt kx kz)
  obtain ⟨ch, cl, g3⟩ := wn_of _ (growA_lt ku kz)
  obtain ⟨dh, dl, g4⟩ := wn_of _ (growM_lt ku kz)
  have HG1 := Lib.hid (GrowsR_yes kx kz h0 h2 g1 g2)
  have HG2 := Lib.hid (GrowsR_yes ku kz h1 h2 g3 g4)
  have HO := Lib.hid (Order_ref g1 g2 g3 g4)
  have HZ := Lib.hid (ord_less (growA x0 x1 y0 y1 z0 z1 t0 t1) (growM x0 x1 y0 y1 z0 z1 t0 t1) (growA u0 u1 v0 v1 z0 z1 t0 t1) (growM u0 u1 v0 v1 z0 z1 t0 t1))
  have HE : Hid (lessB x0 x1 y0 y1 u0 u1 v0 v1 z0 z1 t0 t1 = lessN (growA x0 x1 y0 y1 z0 z1 t0 t1) (growM x0 x1 y0 y1 z0 z1 t0 t1) (growA u0 u1 v0 v1 z0 z1 t0 t1) (growM u0 u1 v0 v1 z0 z1 t0 t1)) := Lib.hid (by unfold lessB; rw [h0, h1, h2]; rfl)
  generalize lessB x0 x1 y0 y1 u0 u1 v0 v1 z0 z1 t0 t1 = r at HE ⊢
  rw [← HE.out] at HZ
  generalize ordM (growA x0 x1 y0 y1 z0 z1 t0 t1) (growM x0 x1 y0 y1 z0 z1 t0 t1) (growA u0 u1 v0 v1 z0 z1 t0 t1) (growM u0 u1 v0 v1 z0 z1 t0 t1) = o at HO HZ
  clear h0 h1 h2 g1 g2 g3 g4 HE kx ku kz
  go_enter Try.func20, Try.ntmps20
  go_upto_region 1 with fail
  have RA_d1 := Lib.hid (((row_last w (w.heap.size) 23 [.int .i64 x0, .int .i64 x1, .int .i64 y0, .int .i64 y1] (by simp)).alloc (.cells #[.int .i64 u0, .int .i64 u1, .int .i64 v0, .int .i64 v1] 23)).alloc (.cells #[.int .i64 z0, .int .i64 z1, .int .i64 t0, .int .i64 t1] 23))
  have RB_d1 := Lib.hid ((row_last (w.alloc (.cells #[.int .i64 x0, .int .i64 x1, .int .i64 y0, .int .i64 y1] 23)) (w.heap.size + 1) 23 [.int .i64 u0, .int .i64 u1, .int .i64 v0, .int .i64 v1] (by simp)).alloc (.cells #[.int .i64 z0, .int .i64 z1, .int .i64 t0, .int .i64 t1] 23))
  have RC_d1 := Lib.hid (row_last ((w.alloc (.cells #[.int .i64 x0, .int .i64 x1, .int .i64 y0, .int .i64 y1] 23)).alloc (.cells #[.int .i64 u0, .int .i64 u1, .int .i64 v0, .int .i64 v1] 23)) (w.heap.size + 1 + 1) 23 [.int .i64 z0, .int .i64 z1, .int .i64 t0, .int .i64 t1] (by simp))
  have B_d1 := Lib.hid ((((Below.refl w.heap.size w).alloc (Nat.le_refl _) (.cells #[.int .i64 x0, .int .i64 x1, .int .i64 y0, .int .i64 y1] 23)).alloc (by have := Nat.le_refl w.heap.size; simp <;> omega) (.cells #[.int .i64 u0, .int .i64 u1, .int .i64 v0, .int .i64 v1] 23)).alloc (by have := Nat.le_refl w.heap.size; simp <;> omega) (.cells #[.int .i64 z0, .int .i64 z1, .int .i64 t0, .int .i64 t1] 23))
  generalize (((w.alloc (.cells #[.int .i64 x0, .int .i64 x1, .int .i64 y0, .int .i64 y1] 23)).alloc (.cells #[.int .i64 u0, .int .i64 u1, .int .i64 v0, .int .i64 v1] 23)).alloc (.cells #[.int .i64 z0, .int .i64 z1, .int .i64 t0, .int .i64 t1] 23)) = Vd1 at RA_d1 RB_d1 RC_d1 B_d1 ⊢
  have cd3_0 := RA_d1.out.cell 0
  have cd3_1 := RA_d1.out.cell 1
  have cd3_2 := RA_d1.out.cell 2
  have cd3_3 := RA_d1.out.cell 3
  simp only [List.getElem?_cons_zero, List.getElem?_cons_succ] at cd3_0 cd3_1 cd3_2 cd3_3
  go_wp2_with fail
  refine (HBA.out _).mono ?_
  rintro e Wd2 ⟨rfl, hb⟩
  clear cd3_0 cd3_1 cd3_2 cd3_3
  have RA_d4 := Lib.hid (RA_d1.out.below hb RA_d1.out.lt)
  have RB_d4 := Lib.hid (RB_d1.out.below hb RB_d1.out.lt)
  have RC_d4 := Lib.hid (RC_d1.out.below hb RC_d1.out.lt)
  have B_d4 := Lib.hid (B_d1.out.trans (hb.mono B_d1.out.size))
  clear hb RA_d1 RB_d1 RC_d1 B_d1
  have cd6_0 := RB_d4.out.cell 0
  have cd6_1 := RB_d4.out.cell 1
  have cd6_2 := RB_d4.out.cell 2
  have cd6_3 := RB_d4.out.cell 3
  simp only [List.getElem?_cons_zero, List.getElem?_cons_succ] at cd6_0 cd6_1 cd6_2 cd6_3
  go_wp2_with fail
  refine (HBB.out _).mono ?_
  rintro e Wd5 ⟨rfl, hb⟩
  clear cd6_0 cd6_1 cd6_2 cd6_3
  have RA_d7 := Lib.hid (RA_d4.out.below hb RA_d4.out.lt)
  have RB_d7 := Lib.hid (RB_d4.out.below hb RB_d4.out.lt)
  have RC_d7 := Lib.hid (RC_d4.out.below hb RC_d4.out.lt)
  have B_d7 := Lib.hid (B_d4.out.trans (hb.mono B_d4.out.size))
  clear hb RA_d4 RB_d4 RC_d4 B_d4
  have cd9_0 := RC_d7.out.cell 0
  have cd9_1 := RC_d7.out.cell 1
  have cd9_2 := RC_d7.out.cell 2
  have cd9_3 := RC_d7.out.cell 3
  simp only [List.getElem?_cons_zero, List.getElem?_cons_succ] at cd9_0 cd9_1 cd9_2 cd9_3
  go_wp2_with fail
  refine (HBC.out _).mono ?_
  rintro e Wd8 ⟨rfl, hb⟩
  clear cd9_0 cd9_1 cd9_2 cd9_3
  have RA_d10 := Lib.hid (RA_d7.out.below hb RA_d7.out.lt)
  have RB_d10 := Lib.hid (RB_d7.out.below hb RB_d7.out.lt)
  have RC_d10 := Lib.hid (RC_d7.out.below hb RC_d7.out.lt)
  have B_d10 := Lib.hid (B_d7.out.trans (hb.mono B_d7.out.size))
  clear hb RA_d7 RB_d7 RC_d7 B_d7
  have cd12_0 := RA_d10.out.cell 0
  have cd12_1 := RA_d10.out.cell 1
  have cd12_2 := RA_d10.out.cell 2
  have cd12_3 := RA_d10.out.cell 3
  simp only [List.getElem?_cons_zero, List.getElem?_cons_succ] at cd12_0 cd12_1 cd12_2 cd12_3
  have cd13_0 := RC_d10.out.cell 0
  have cd13_1 := RC_d10.out.cell 1
  have cd13_2 := RC_d10.out.cell 2
  have cd13_3 := RC_d10.out.cell 3
  simp only [List.getElem?_cons_zero, List.getElem?_cons_succ] at cd13_0 cd13_1 cd13_2 cd13_3
  go_wp2_with fail
  refine (HG1.out _).mono ?_
  rintro e Wd11 ⟨rfl, hb⟩
  clear cd12_0 cd12_1 cd12_2 cd12_3 cd13_0 cd13_1 cd13_2 cd13_3
  have RA_d14 := Lib.hid (RA_d10.out.below hb RA_d10.out.lt)
  have RB_d14 := Lib.hid (RB_d10.out.below hb RB_d10.out.lt)
  have RC_d14 := Lib.hid (RC_d10.out.below hb RC_d10.out.lt)
  have B_d14 := Lib.hid (B_d10.out.trans (hb.mono B_d10.out.size))
  clear hb RA_d10 RB_d10 RC_d10 B_d10
  go_upto_region 4 with fail
  have hltd15_0 : w.heap.size < Wd11.heap.size := RA_d14.out.lt
  have hltd15_1 : w.heap.size + 1 < Wd11.heap.size := RB_d14.out.lt
  have hltd15_2 : w.heap.size + 1 + 1 < Wd11.heap.size := RC_d14.out.lt
  have RA_d15 := Lib.hid ((RA_d14.out.alloc (.cells #[.int .u64 (ah : Int), .int .u64 (al : Int)] 33)).alloc (.cells #[.int .u64 (bh : Int), .int .u64 (bl : Int)] 33))
  have RB_d15 := Lib.hid ((RB_d14.out.alloc (.cells #[.int .u64 (ah : Int), .int .u64 (al : Int)] 33)).alloc (.cells #[.int .u64 (bh : Int), .int .u64 (bl : Int)] 33))
  have RC_d15 := Lib.hid ((RC_d14.out.alloc (.cells #[.int .u64 (ah : Int), .int .u64 (al : Int)] 33)).alloc (.cells #[.int .u64 (bh : Int), .int .u64 (bl : Int)] 33))
  have R7_d15 := Lib.hid ((row_last Wd11 (Wd11.heap.size) 33 [.int .u64 (ah : Int), .int .u64 (al : Int)] (by simp)).alloc (.cells #[.int .u64 (bh : Int), .int .u64 (bl : Int)] 33))
  have R8_d15 := Lib.hid (row_last (Wd11.alloc (.cells #[.int .u64 (ah : Int), .int .u64 (al : Int)] 33)) (Wd11.heap.size + 1) 33 [.int .u64 (bh : Int), .int .u64 (bl : Int)] (by simp))
  have B_d15 := Lib.hid ((B_d14.out.alloc B_d14.out.size (.cells #[.int .u64 (ah : Int), .int .u64 (al : Int)] 33)).alloc (by have := B_d14.out.size; simp <;> omega) (.cells #[.int .u64 (bh : Int), .int .u64 (bl : Int)] 33))
  clear RA_d14 RB_d14 RC_d14 B_d14
  generalize ((Wd11.alloc (.cells #[.int .u64 (ah : Int), .int .u64 (al : Int)] 33)).alloc (.cells #[.int .u64 (bh : Int), .int .u64 (bl : Int)] 33)) = Vd15 at RA_d15 RB_d15 RC_d15 R7_d15 R8_d15 B_d15 ⊢
  have cd17_0 := RB_d15.out.cell 0
  have cd17_1 := RB_d15.out.cell 1
  have cd17_2 := RB_d15.out.cell 2
  have cd17_3 := RB_d15.out.cell 3
  simp only [List.getElem?_cons_zero, List.getElem?_cons_succ] at cd17_0 cd17_1 cd17_2 cd17_3
  have cd18_0 := RC_d15.out.cell 0
  have cd18_1 := RC_d15.out.cell 1
  have cd18_2 := RC_d15.out.cell 2
  have cd18_3 := RC_d15.out.cell 3
  simp only [List.getElem?_cons_zero, List.getElem?_cons_succ] at cd18_0 cd18_1 cd18_2 cd18_3
  go_wp2_with fail
  refine (HG2.out _).mono ?_
  rintro e Wd16 ⟨rfl, hb⟩
  clear cd17_0 cd17_1 cd17_2 cd17_3 cd18_0 cd18_1 cd18_2 cd18_3
  have RA_d19 := Lib.hid (RA_d15.out.below hb RA_d15.out.lt)
  have RB_d19 := Lib.hid (RB_d15.out.below hb RB_d15.out.lt)
  have RC_d19 := Lib.hid (RC_d15.out.below hb RC_d15.out.lt)
  have R7_d19 := Lib.hid (R7_d15.out.below hb R7_d15.out.lt)
  have R8_d19 := Lib.hid (R8_d15.out.below hb R8_d15.out.lt)
  have B_d19 := Lib.hid (B_d15.out.trans (hb.mono B_d15.out.size))
  clear hb RA_d15 RB_d15 RC_d15 R7_d15 R8_d15 B_d15
  go_upto_region 5 with fail
  have hltd20_0 : w.heap.size < Wd16.heap.size := RA_d19.out.lt
  have hltd20_1 : w.heap.size + 1 < Wd16.heap.size := RB_d19.out.lt
  have hltd20_2 : w.heap.size + 1 + 1 < Wd16.heap.size := RC_d19.out.lt
  have hltd20_3 : Wd11.heap.size < Wd16.heap.size := R7_d19.out.lt
  have hltd20_4 : Wd11.heap.size + 1 < Wd16.heap.size := R8_d19.out.lt
  have RA_d20 := Lib.hid ((RA_d19.out.alloc (.cells #[.int .u64 (ch : Int), .int .u64 (cl : Int)] 33)).alloc (.cells #[.int .u64 (dh : Int), .int .u64 (dl : Int)] 33))
  have RB_d20 := Lib.hid ((RB_d19.out.alloc (.cells #[.int .u64 (ch : Int), .int .u64 (cl : Int)] 33)).alloc (.cells #[.int .u64 (dh : Int), .int .u64 (dl : Int)] 33))
  have RC_d20 := Lib.hid ((RC_d19.out.alloc (.cells #[.int .u64 (ch : Int), .int .u64 (cl : Int)] 33)).alloc (.cells #[.int .u64 (dh : Int), .int .u64 (dl : Int)] 33))
  have R7_d20 := Lib.hid ((R7_d19.out.alloc (.cells #[.int .u64 (ch : Int), .int .u64 (cl : Int)] 33)).alloc (.cells #[.int .u64 (dh : Int), .int .u64 (dl : Int)] 33))
  have R8_d20 := Lib.hid ((R8_d19.out.alloc (.cells #[.int .u64 (ch : Int), .int .u64 (cl : Int)] 33)).alloc (.cells #[.int .u64 (dh : Int), .int .u64 (dl : Int)] 33))
  have R9_d20 := Lib.hid ((row_last Wd16 (Wd16.heap.size) 33 [.int .u64 (ch : Int), .int .u64 (cl : Int)] (by simp)).alloc (.cells #[.int .u64 (dh : Int), .int .u64 (dl : Int)] 33))
  have R10_d20 := Lib.hid (row_last (Wd16.alloc (.cells #[.int .u64 (ch : Int), .int .u64 (cl : Int)] 33)) (Wd16.heap.size + 1) 33 [.int .u64 (dh : Int), .int .u64 (dl : Int)] (by simp))
  have B_d20 := Lib.hid ((B_d19.out.alloc B_d19.out.size (.cells #[.int .u64 (ch : Int), .int .u64 (cl : Int)] 33)).alloc (by have := B_d19.out.size; simp <;> omega) (.cells #[.int .u64 (dh : Int), .int .u64 (dl : Int)] 33))
  clear RA_d19 RB_d19 RC_d19 R7_d19 R8_d19 B_d19
  generalize ((Wd16.alloc (.cells #[.int .u64 (ch : Int), .int .u64 (cl : Int)] 33)).alloc (.cells #[.int .u64 (dh : Int), .int .u64 (dl : Int)] 33)) = Vd20 at RA_d20 RB_d20 RC_d20 R7_d20 R8_d20 R9_d20 R10_d20 B_d20 ⊢
  have cd22_0 := R7_d20.out.cell 0
  have cd22_1 := R7_d20.out.cell 1
  simp only [List.getElem?_cons_zero, List.getElem?_cons_succ] at cd22_0 cd22_1
  have cd23_0 := R8_d20.out.cell 0
  have cd23_1 := R8_d20.out.cell 1
  simp only [List.getElem?_cons_zero, List.getElem?_cons_succ] at cd23_0 cd23_1
  have cd24_0 := R9_d20.out.cell 0
  have cd24_1 := R9_d20.out.cell 1
  simp only [List.getElem?_cons_zero, List.getElem?_cons_succ] at cd24_0 cd24_1
  have cd25_0 := R10_d20.out.cell 0
  have cd25_1 := R10_d20.out.cell 1
  simp only [List.getElem?_cons_zero, List.getElem?_cons_succ] at cd25_0 cd25_1
  go_wp2_with fail
  refine (HO.out _).mono ?_
  rintro e Wd21 ⟨rfl, hb⟩
  clear cd22_0 cd22_1 cd23_0 cd23_1 cd24_0 cd24_1 cd25_0 cd25_1
  have RA_d26 := Lib.hid (RA_d20.out.below hb RA_d20.out.lt)
  have RB_d26 := Lib.hid (RB_d20.out.below hb RB_d20.out.lt)
  have RC_d26 := Lib.hid (RC_d20.out.below hb RC_d20.out.lt)
  have R7_d26 := Lib.hid (R7_d20.out.below hb R7_d20.out.lt)
  have R8_d26 := Lib.hid (R8_d20.out.below hb R8_d20.out.lt)
  have R9_d26 := Lib.hid (R9_d20.out.below hb R9_d20.out.lt)
  have R10_d26 := Lib.hid (R10_d20.out.below hb R10_d20.out.lt)
  have B_d26 := Lib.hid (B_d20.out.trans (hb.mono B_d20.out.size))
  clear hb RA_d20 RB_d20 RC_d20 R7_d20 R8_d20 R9_d20 R10_d20 B_d20
  go_wp2
  go_ret
  exact ⟨by rw [← HZ.out]; rfl, B_d26.out⟩
end Go.Proofs.Ytbmfijcckdkmdaa.Ky
