/-
  Keys: which box grows less.
-/
import Derived.Test.YtbmfijcckdkmdaaKy6
import Derived.Test.YtbmfijcckdkmdaaWi2
import Derived.LoopTactic
import Derived.Deep.RegionHeld
import Derived.Deep.Cut
import Derived.WalkLawsBesides
namespace Go.Proofs.Ytbmfijcckdkmdaa.Ky
set_option maxRecDepth 100000
open Go.RowKit Go.Proofs.Ytbmfijcckdkmdaa.Wd Go.Proofs.Ytbmfijcckdkmdaa.Wi Go.Proofs.Ytbmfijcckdkmdaa.Lift


/-- how much a box grows by another one -/
def growA (x0 x1 y0 y1 u0 u1 v0 v1 : Int) : Nat := widM (minI x0 u0) (maxI x1 u1) * widM (minI y0 v0) (maxI y1 v1) - widM x0 x1 * widM y0 y1
def growM (x0 x1 y0 y1 u0 u1 v0 v1 : Int) : Nat := widM (minI x0 u0) (maxI x1 u1) + widM (minI y0 v0) (maxI y1 v1) - (widM x0 x1 + widM y0 y1)
def lessN (p q r s : Nat) : Bool := if p = r then decide (q < s) else decide (p < r)
def lessB (x0 x1 y0 y1 u0 u1 v0 v1 z0 z1 t0 t1 : Int) : Bool := boxB x0 x1 y0 y1 && (boxB u0 u1 v0 v1 && boxB z0 z1 t0 t1) && lessN (growA x0 x1 y0 y1 z0 z1 t0 t1) (growM x0 x1 y0 y1 z0 z1 t0 t1) (growA u0 u1 v0 v1 z0 z1 t0 t1) (growM u0 u1 v0 v1 z0 z1 t0 t1)
theorem cmp_neg (a b : Nat) : decide (cmpM a b < 0) = decide (a < b) := by
  rw [decide_eq_decide]; unfold cmpM
  repeat' split
  all_goals omega
theorem cmp_neg' {a b : Nat} {s : Int} (h : cmpM a b = s) : decide (s < 0) = decide (a < b) := h ▸ cmp_neg a b
theorem growA_lt {x0 x1 y0 y1 u0 u1 v0 v1 : Int} (kx : KOk x0 x1 y0 y1) (ku : KOk u0 u1 v0 v1) : growA x0 x1 y0 y1 u0 u1 v0 v1 < 340282366920938463463374607431768211456 := Nat.lt_of_le_of_lt (Nat.sub_le _ _) (area_lt (union_ok kx ku))
theorem growM_lt {x0 x1 y0 y1 u0 u1 v0 v1 : Int} (kx : KOk x0 x1 y0 y1) (ku : KOk u0 u1 v0 v1) : growM x0 x1 y0 y1 u0 u1 v0 v1 < 340282366920938463463374607431768211456 := Nat.lt_of_le_of_lt (Nat.sub_le _ _) (margin_lt (union_ok kx ku))

set_option maxHeartbeats 4000000 in
theorem Less_any {x0 x1 y0 y1 u0 u1 v0 v1 z0 z1 t0 t1 : Int} (kx : KOk x0 x1 y0 y1) (ku : KOk u0 u1 v0 v1) (kz : KOk z0 z1 t0 t1) (w : World) :
    Calls Try.prog 19 #[KV x0 x1 y0 y1, KV u0 u1 v0 v1, KV z0 z1 t0 t1] w fun e w' => e = .returned (.bool (lessB x0 x1 y0 y1 u0 u1 v0 v1 z0 z1 t0 t1)) ∧ Below w.heap.size w w' := by
  have HX := Lib.hid (boxes3 x0 x1 y0 y1 u0 u1 v0 v1 z0 z1 t0 t1)
  obtain ⟨r, hr⟩ : ∃ r, (boxB x0 x1 y0 y1 && (boxB u0 u1 v0 v1 && boxB z0 z1 t0 t1)) = r := ⟨_, rfl⟩
  unfold lessB
  rw [hr] at HX ⊢
  cases r
  · clear hr kx ku kz
    go_enter Try.func19, Try.ntmps19
    go_upto_region 1 with fail
    have RA_1 := Lib.hid (((row_last w (w.heap.size) 23 [.int .i64 x0, .int .i64 x1, .int .i64 y0, .int .i64 y1] (by simp)).alloc (.cells #[.int .i64 u0, .int .i64 u1, .int .i64 v0, .int .i64 v1] 23)).alloc (.cells #[.int .i64 z0, .int .i64 z1, .int .i64 t0, .int .i64 t1] 23))
    have RB_1 := Lib.hid ((row_last (w.alloc (.cells #[.int .i64 x0, .int .i64 x1, .int .i64 y0, .int .i64 y1] 23)) (w.heap.size + 1) 23 [.int .i64 u0, .int .i64 u1, .int .i64 v0, .int .i64 v1] (by simp)).alloc (.cells #[.int .i64 z0, .int .i64 z1, .int .i64 t0, .int .i64 t1] 23))
    have RC_1 := Lib.hid (row_last ((w.alloc (.cells #[.int .i64 x0, .int .i64 x1, .int .i64 y0, .int .i64 y1] 23)).alloc (.cells #[.int .i64 u0, .int .i64 u1, .int .i64 v0, .int .i64 v1] 23)) (w.heap.size + 1 + 1) 23 [.int .i64 z0, .int .i64 z1, .int .i64 t0, .int .i64 t1] (by simp))
    have B_1 := Lib.hid ((((Below.refl w.heap.size w).alloc (Nat.le_refl _) (.cells #[.int .i64 x0, .int .i64 x1, .int .i64 y0, .int .i64 y1] 23)).alloc (by have := Nat.le_refl w.heap.size; simp <;> omega) (.cells #[.int .i64 u0, .int .i64 u1, .int .i64 v0, .int .i64 v1] 23)).alloc (by have := Nat.le_refl w.heap.size; simp <;> omega) (.cells #[.int .i64 z0, .int .i64 z1, .int .i64 t0, .int .i64 t1] 23))
    generalize (((w.alloc (.cells #[.int .i64 x0, .int .i64 x1, .int .i64 y0, .int .i64 y1] 23)).alloc (.cells #[.int .i64 u0, .int .i64 u1, .int .i64 v0, .int .i64 v1] 23)).alloc (.cells #[.int .i64 z0, .int .i64 z1, .int .i64 t0, .int .i64 t1] 23)) = V1 at RA_1 RB_1 RC_1 B_1 ⊢
    have c3_0 := RA_1.out.cell 0
    have c3_1 := RA_1.out.cell 1
    have c3_2 := RA_1.out.cell 2
    have c3_3 := RA_1.out.cell 3
    simp only [List.getElem?_cons_zero, List.getElem?_cons_succ] at c3_0 c3_1 c3_2 c3_3
    have c4_0 := RB_1.out.cell 0
    have c4_1 := RB_1.out.cell 1
    have c4_2 := RB_1.out.cell 2
    have c4_3 := RB_1.out.cell 3
    simp only [List.getElem?_cons_zero, List.getElem?_cons_succ] at c4_0 c4_1 c4_2 c4_3
    have c5_0 := RC_1.out.cell 0
    have c5_1 := RC_1.out.cell 1
    have c5_2 := RC_1.out.cell 2
    have c5_3 := RC_1.out.cell 3
    simp only [List.getElem?_cons_zero, List.getElem?_cons_succ] at c5_0 c5_1 c5_2 c5_3
    go_wp2_with fail
    refine (HX.out _).mono ?_
    rintro e W2 ⟨rfl, hb⟩
    clear c3_0 c3_1 c3_2 c3_3 c4_0 c4_1 c4_2 c4_3 c5_0 c5_1 c5_2 c5_3
    have RA_6 := Lib.hid (RA_1.out.below hb RA_1.out.lt)
    have RB_6 := Lib.hid (RB_1.out.below hb RB_1.out.lt)
    have RC_6 := Lib.hid (RC_1.out.below hb RC_1.out.lt)
    have B_6 := Lib.hid (B_1.out.trans (hb.mono B_1.out.size))
    clear hb RA_1 RB_1 RC_1 B_1
    go_wp2
    go_ret
    exact ⟨rfl, B_6.out⟩
  · rw [Bool.true_and]
    simp only [Bool.and_eq_true] at hr
    obtain ⟨hx, hu, hz⟩ := hr
    obtain ⟨ah, al, h1⟩ := wn_of _ (growA_lt kx kz)
    obtain ⟨bh, bl, h2⟩ := wn_of _ (growM_lt kx kz)
    obtain ⟨ch, cl, h3⟩ := wn_of _ (growA_lt ku kz)
    obtain ⟨dh, dl, h4⟩ := wn_of _ (growM_lt ku kz)
    have HG1 := Lib.hid (Grows_yes kx kz (by rw [hx, hz]; rfl) h1 h2)
    have HG2 := Lib.hid (Grows_yes ku kz (by rw [hu, hz]; rfl) h3 h4)
    clear hx hu hz kx ku kz
    generalize growA x0 x1 y0 y1 z0 z1 t0 t1 = p at h1 ⊢
    generalize growM x0 x1 y0 y1 z0 z1 t0 t1 = q at h2 ⊢
    generalize growA u0 u1 v0 v1 z0 z1 t0 t1 = p2 at h3 ⊢
    generalize growM u0 u1 v0 v1 z0 z1 t0 t1 = q2 at h4 ⊢
    obtain ⟨s1, hs1⟩ : ∃ s, cmpM p p2 = s := ⟨_, rfl⟩
    obtain ⟨s2, hs2⟩ : ∃ s, cmpM q q2 = s := ⟨_, rfl⟩
    have HC1 := Lib.hid (Cmp_is h1 h3 hs1)
    have HC2 := Lib.hid (Cmp_is h2 h4 hs2)
    have HZ1 : Hid (p ≠ p2 → decide (s1 < 0) = lessN p q p2 q2) := Lib.hid (fun hn => by unfold lessN; rw [if_neg hn, cmp_neg' hs1])
    have HZ2 : Hid (p = p2 → decide (s2 < 0) = lessN p q p2 q2) := Lib.hid (fun hn => by unfold lessN; rw [if_pos hn, cmp_neg' hs2])
    have HP : Hid (p = p2 ↔ (ah = ch ∧ al = cl)) := Lib.hid (by have := h1.hh; have := h1.hl; have := h1.he; have := h3.hh; have := h3.hl; have := h3.he; omega)
    clear h1 h2 h3 h4 hs1 hs2
    generalize lessN p q p2 q2 = r at HZ1 HZ2 ⊢
    by_cases hal : ah = ch ∧ al = cl
    · have HZ := Lib.hid (HZ2.out (HP.out.2 hal))
      obtain ⟨rfl, rfl⟩ := hal
      clear HZ1 HZ2 HP
      go_enter Try.func19, Try.ntmps19
      go_upto_region 1 with fail
      have RA_1 := Lib.hid (((row_last w (w.heap.size) 23 [.int .i64 x0, .int .i64 x1, .int .i64 y0, .int .i64 y1] (by simp)).alloc (.cells #[.int .i64 u0, .int .i64 u1, .int .i64 v0, .int .i64 v1] 23)).alloc (.cells #[.int .i64 z0, .int .i64 z1, .int .i64 t0, .int .i64 t1] 23))
      have RB_1 := Lib.hid ((row_last (w.alloc (.cells #[.int .i64 x0, .int .i64 x1, .int .i64 y0, .int .i64 y1] 23)) (w.heap.size + 1) 23 [.int .i64 u0, .int .i64 u1, .int .i64 v0, .int .i64 v1] (by simp)).alloc (.cells #[.int .i64 z0, .int .i64 z1, .int .i64 t0, .int .i64 t1] 23))
      have RC_1 := Lib.hid (row_last ((w.alloc (.cells #[.int .i64 x0, .int .i64 x1, .int .i64 y0, .int .i64 y1] 23)).alloc (.cells #[.int .i64 u0, .int .i64 u1, .int .i64 v0, .int .i64 v1] 23)) (w.heap.size + 1 + 1) 23 [.int .i64 z0, .int .i64 z1, .int .i64 t0, .int .i64 t1] (by simp))
      have B_1 := Lib.hid ((((Below.refl w.heap.size w).alloc (Nat.le_refl _) (.cells #[.int .i64 x0, .int .i64 x1, .int .i64 y0, .int .i64 y1] 23)).alloc (by have := Nat.le_refl w.heap.size; simp <;> omega) (.cells #[.int .i64 u0, .int .i64 u1, .int .i64 v0, .int .i64 v1] 23)).alloc (by have := Nat.le_refl w.heap.size; simp <;> omega) (.cells #[.int .i64 z0, .int .i64 z1, .int .i64 t0, .int .i64 t1] 23))
      generalize (((w.alloc (.cells #[.int .i64 x0, .int .i64 x1, .int .i64 y0, .int .i64 y1] 23)).alloc (.cells #[.int .i64 u0, .int .i64 u1, .int .i64 v0, .int .i64 v1] 23)).alloc (.cells #[.int .i64 z0, .int .i64 z1, .int .i64 t0, .int .i64 t1] 23)) = V1 at RA_1 RB_1 RC_1 B_1 ⊢
      have c3_0 := RA_1.out.cell 0
      have c3_1 := RA_1.out.cell 1
      have c3_2 := RA_1.out.cell 2
      have c3_3 := RA_1.out.cell 3
      simp only [List.getElem?_cons_zero, List.getElem?_cons_succ] at c3_0 c3_1 c3_2 c3_3
      have c4_0 := RB_1.out.cell 0
      have c4_1 := RB_1.out.cell 1
      have c4_2 := RB_1.out.cell 2
      have c4_3 := RB_1.out.cell 3
      simp only [List.getElem?_cons_zero, List.getElem?_cons_succ] at c4_0 c4_1 c4_2 c4_3
      have c5_0 := RC_1.out.cell 0
      have c5_1 := RC_1.out.cell 1
      have c5_2 := RC_1.out.cell 2
      have c5_3 := RC_1.out.cell 3
      simp only [List.getElem?_cons_zero, List.getElem?_cons_succ] at c5_0 c5_1 c5_2 c5_3
      go_wp2_with fail
      refine (HX.out _).mono ?_
      rintro e W2 ⟨rfl, hb⟩
      clear c3_0 c3_1 c3_2 c3_3 c4_0 c4_1 c4_2 c4_3 c5_0 c5_1 c5_2 c5_3
      have RA_6 := Lib.hid (RA_1.out.below hb RA_1.out.lt)
      have RB_6 := Lib.hid (RB_1.out.below hb RB_1.out.lt)
      have RC_6 := Lib.hid (RC_1.out.below hb RC_1.out.lt)
      have B_6 := Lib.hid (B_1.out.trans (hb.mono B_1.out.size))
      clear hb RA_1 RB_1 RC_1 B_1
      have c8_0 := RA_6.out.cell 0
      have c8_1 := RA_6.out.cell 1
      have c8_2 := RA_6.out.cell 2
      have c8_3 := RA_6.out.cell 3
      simp only [List.getElem?_cons_zero, List.getElem?_cons_succ] at c8_0 c8_1 c8_2 c8_3
      have c9_0 := RC_6.out.cell 0
      have c9_1 := RC_6.out.cell 1
      have c9_2 := RC_6.out.cell 2
      have c9_3 := RC_6.out.cell 3
      simp only [List.getElem?_cons_zero, List.getElem?_cons_succ] at c9_0 c9_1 c9_2 c9_3
      go_wp2_with fail
      refine (HG1.out _).mono ?_
      rintro e W7 ⟨rfl, hb⟩
      clear c8_0 c8_1 c8_2 c8_3 c9_0 c9_1 c9_2 c9_3
      have RA_10 := Lib.hid (RA_6.out.below hb RA_6.out.lt)
      have RB_10 := Lib.hid (RB_6.out.below hb RB_6.out.lt)
      have RC_10 := Lib.hid (RC_6.out.below hb RC_6.out.lt)
      have B_10 := Lib.hid (B_6.out.trans (hb.mono B_6.out.size))
      clear hb RA_6 RB_6 RC_6 B_6
      go_upto_region 4 with fail
      have hlt11_0 : w.heap.size < W7.heap.size := RA_10.out.lt
      have hlt11_1 : w.heap.size + 1 < W7.heap.size := RB_10.out.lt
      have hlt11_2 : w.heap.size + 1 + 1 < W7.heap.size := RC_10.out.lt
      have RA_11 := Lib.hid ((RA_10.out.alloc (.cells #[.int .u64 (ah : Int), .int .u64 (al : Int)] 33)).alloc (.cells #[.int .u64 (bh : Int), .int .u64 (bl : Int)] 33))
      have RB_11 := Lib.hid ((RB_10.out.alloc (.cells #[.int .u64 (ah : Int), .int .u64 (al : Int)] 33)).alloc (.cells #[.int .u64 (bh : Int), .int .u64 (bl : Int)] 33))
      have RC_11 := Lib.hid ((RC_10.out.alloc (.cells #[.int .u64 (ah : Int), .int .u64 (al : Int)] 33)).alloc (.cells #[.int .u64 (bh : Int), .int .u64 (bl : Int)] 33))
      have R7_11 := Lib.hid ((row_last W7 (W7.heap.size) 33 [.int .u64 (ah : Int), .int .u64 (al : Int)] (by simp)).alloc (.cells #[.int .u64 (bh : Int), .int .u64 (bl : Int)] 33))
      have R8_11 := Lib.hid (row_last (W7.alloc (.cells #[.int .u64 (ah : Int), .int .u64 (al : Int)] 33)) (W7.heap.size + 1) 33 [.int .u64 (bh : Int), .int .u64 (bl : Int)] (by simp))
      have B_11 := Lib.hid ((B_10.out.alloc B_10.out.size (.cells #[.int .u64 (ah : Int), .int .u64 (al : Int)] 33)).alloc (by have := B_10.out.size; simp <;> omega) (.cells #[.int .u64 (bh : Int), .int .u64 (bl : Int)] 33))
      clear RA_10 RB_10 RC_10 B_10
      generalize ((W7.alloc (.cells #[.int .u64 (ah : Int), .int .u64 (al : Int)] 33)).alloc (.cells #[.int .u64 (bh : Int), .int .u64 (bl : Int)] 33)) = V11 at RA_11 RB_11 RC_11 R7_11 R8_11 B_11 ⊢
      have c13_0 := RB_11.out.cell 0
      have c13_1 := RB_11.out.cell 1
      have c13_2 := RB_11.out.cell 2
      have c13_3 := RB_11.out.cell 3
      simp only [List.getElem?_cons_zero, List.getElem?_cons_succ] at c13_0 c13_1 c13_2 c13_3
      have c14_0 := RC_11.out.cell 0
      have c14_1 := RC_11.out.cell 1
      have c14_2 := RC_11.out.cell 2
      have c14_3 := RC_11.out.cell 3
      simp only [List.getElem?_cons_zero, List.getElem?_cons_succ] at c14_0 c14_1 c14_2 c14_3
      go_wp2_with fail
      refine (HG2.out _).mono ?_
      rintro e W12 ⟨rfl, hb⟩
      clear c13_0 c13_1 c13_2 c13_3 c14_0 c14_1 c14_2 c14_3
      have RA_15 := Lib.hid (RA_11.out.below hb RA_11.out.lt)
      have RB_15 := Lib.hid (RB_11.out.below hb RB_11.out.lt)
      have RC_15 := Lib.hid (RC_11.out.below hb RC_11.out.lt)
      have R7_15 := Lib.hid (R7_11.out.below hb R7_11.out.lt)
      have R8_15 := Lib.hid (R8_11.out.below hb R8_11.out.lt)
      have B_15 := Lib.hid (B_11.out.trans (hb.mono B_11.out.size))
      clear hb RA_11 RB_11 RC_11 R7_11 R8_11 B_11
      go_upto_region 5 with fail
      have hlt16_0 : w.heap.size < W12.heap.size := RA_15.out.lt
      have hlt16_1 : w.heap.size + 1 < W12.heap.size := RB_15.out.lt
      have hlt16_2 : w.heap.size + 1 + 1 < W12.heap.size := RC_15.out.lt
      have hlt16_3 : W7.heap.size < W12.heap.size := R7_15.out.lt
      have hlt16_4 : W7.heap.size + 1 < W12.heap.size := R8_15.out.lt
      have RA_16 := Lib.hid ((RA_15.out.alloc (.cells #[.int .u64 (ah : Int), .int .u64 (al : Int)] 33)).alloc (.cells #[.int .u64 (dh : Int), .int .u64 (dl : Int)] 33))
      have RB_16 := Lib.hid ((RB_15.out.alloc (.cells #[.int .u64 (ah : Int), .int .u64 (al : Int)] 33)).alloc (.cells #[.int .u64 (dh : Int), .int .u64 (dl : Int)] 33))
      have RC_16 := Lib.hid ((RC_15.out.alloc (.cells #[.int .u64 (ah : Int), .int .u64 (al : Int)] 33)).alloc (.cells #[.int .u64 (dh : Int), .int .u64 (dl : Int)] 33))
      have R7_16 := Lib.hid ((R7_15.out.alloc (.cells #[.int .u64 (ah : Int), .int .u64 (al : Int)] 33)).alloc (.cells #[.int .u64 (dh : Int), .int .u64 (dl : Int)] 33))
      have R8_16 := Lib.hid ((R8_15.out.alloc (.cells #[.int .u64 (ah : Int), .int .u64 (al : Int)] 33)).alloc (.cells #[.int .u64 (dh : Int), .int .u64 (dl : Int)] 33))
      have R9_16 := Lib.hid ((row_last W12 (W12.heap.size) 33 [.int .u64 (ah : Int), .int .u64 (al : Int)] (by simp)).alloc (.cells #[.int .u64 (dh : Int), .int .u64 (dl : Int)] 33))
      have R10_16 := Lib.hid (row_last (W12.alloc (.cells #[.int .u64 (ah : Int), .int .u64 (al : Int)] 33)) (W12.heap.size + 1) 33 [.int .u64 (dh : Int), .int .u64 (dl : Int)] (by simp))
      have B_16 := Lib.hid ((B_15.out.alloc B_15.out.size (.cells #[.int .u64 (ah : Int), .int .u64 (al : Int)] 33)).alloc (by have := B_15.out.size; simp <;> omega) (.cells #[.int .u64 (dh : Int), .int .u64 (dl : Int)] 33))
      clear RA_15 RB_15 RC_15 R7_15 R8_15 B_15
      generalize ((W12.alloc (.cells #[.int .u64 (ah : Int), .int .u64 (al : Int)] 33)).alloc (.cells #[.int .u64 (dh : Int), .int .u64 (dl : Int)] 33)) = V16 at RA_16 RB_16 RC_16 R7_16 R8_16 R9_16 R10_16 B_16 ⊢
      have c18_0 := R7_16.out.cell 0
      have c18_1 := R7_16.out.cell 1
      simp only [List.getElem?_cons_zero, List.getElem?_cons_succ] at c18_0 c18_1
      have c19_0 := R9_16.out.cell 0
      have c19_1 := R9_16.out.cell 1
      simp only [List.getElem?_cons_zero, List.getElem?_cons_succ] at c19_0 c19_1
      have c20_0 := R8_16.out.cell 0
      have c20_1 := R8_16.out.cell 1
      simp only [List.getElem?_cons_zero, List.getElem?_cons_succ] at c20_0 c20_1
      have c21_0 := R10_16.out.cell 0
      have c21_1 := R10_16.out.cell 1
      simp only [List.getElem?_cons_zero, List.getElem?_cons_succ] at c21_0 c21_1
      go_wp2_with fail
      refine (HC2.out _).mono ?_
      rintro e W17 ⟨rfl, hb⟩
      clear c18_0 c18_1 c19_0 c19_1 c20_0 c20_1 c21_0 c21_1
      have RA_22 := Lib.hid (RA_16.out.below hb RA_16.out.lt)
      have RB_22 := Lib.hid (RB_16.out.below hb RB_16.out.lt)
      have RC_22 := Lib.hid (RC_16.out.below hb RC_16.out.lt)
      have R7_22 := Lib.hid (R7_16.out.below hb R7_16.out.lt)
      have R8_22 := Lib.hid (R8_16.out.below hb R8_16.out.lt)
      have R9_22 := Lib.hid (R9_16.out.below hb R9_16.out.lt)
      have R10_22 := Lib.hid (R10_16.out.below hb R10_16.out.lt)
      have B_22 := Lib.hid (B_16.out.trans (hb.mono B_16.out.size))
      clear hb RA_16 RB_16 RC_16 R7_16 R8_16 R9_16 R10_16 B_16
      go_wp2
      go_ret
      exact ⟨by rw [HZ.out]; rfl, B_22.out⟩
    · have HZ := Lib.hid (HZ1.out (fun h => hal (HP.out.1 h)))
      clear HZ1 HZ2 HP
      by_cases hah : ah = ch
      · have hal2 : ¬ al = cl := fun h => hal ⟨hah, h⟩
        subst hah
        clear hal
        go_enter Try.func19, Try.ntmps19
        go_upto_region 1 with fail
        have RA_p1 := Lib.hid (((row_last w (w.heap.size) 23 [.int .i64 x0, .int .i64 x1, .int .i64 y0, .int .i64 y1] (by simp)).alloc (.cells #[.int .i64 u0, .int .i64 u1, .int .i64 v0, .int .i64 v1] 23)).alloc (.cells #[.int .i64 z0, .int .i64 z1, .int .i64 t0, .int .i64 t1] 23))
        have RB_p1 := Lib.hid ((row_last (w.alloc (.cells #[.int .i64 x0, .int .i64 x1, .int .i64 y0, .int .i64 y1] 23)) (w.heap.size + 1) 23 [.int .i64 u0, .int .i64 u1, .int .i64 v0, .int .i64 v1] (by simp)).alloc (.cells #[.int .i64 z0, .int .i64 z1, .int .i64 t0, .int .i64 t1] 23))
        have RC_p1 := Lib.hid (row_last ((w.alloc (.cells #[.int .i64 x0, .int .i64 x1, .int .i64 y0, .int .i64 y1] 23)).alloc (.cells #[.int .i64 u0, .int .i64 u1, .int .i64 v0, .int .i64 v1] 23)) (w.heap.size + 1 + 1) 23 [.int .i64 z0, .int .i64 z1, .int .i64 t0, .int .i64 t1] (by simp))
        have B_p1 := Lib.hid ((((Below.refl w.heap.size w).alloc (Nat.le_refl _) (.cells #[.int .i64 x0, .int .i64 x1, .int .i64 y0, .int .i64 y1] 23)).alloc (by have := Nat.le_refl w.heap.size; simp <;> omega) (.cells #[.int .i64 u0, .int .i64 u1, .int .i64 v0, .int .i64 v1] 23)).alloc (by have := Nat.le_refl w.heap.size; simp <;> omega) (.cells #[.int .i64 z0, .int .i64 z1, .int .i64 t0, .int .i64 t1] 23))
        generalize (((w.alloc (.cells #[.int .i64 x0, .int .i64 x1, .int .i64 y0, .int .i64 y1] 23)).alloc (.cells #[.int .i64 u0, .int .i64 u1, .int .i64 v0, .int .i64 v1] 23)).alloc (.cells #[.int .i64 z0, .int .i64 z1, .int .i64 t0, .int .i64 t1] 23)) = Vp1 at RA_p1 RB_p1 RC_p1 B_p1 ⊢
        have cp3_0 := RA_p1.out.cell 0
        have cp3_1 := RA_p1.out.cell 1
        have cp3_2 := RA_p1.out.cell 2
        have cp3_3 := RA_p1.out.cell 3
        simp only [List.getElem?_cons_zero, List.getElem?_cons_succ] at cp3_0 cp3_1 cp3_2 cp3_3
        have cp4_0 := RB_p1.out.cell 0
        have cp4_1 := RB_p1.out.cell 1
        have cp4_2 := RB_p1.out.cell 2
        have cp4_3 := RB_p1.out.cell 3
        simp only [List.getElem?_cons_zero, List.getElem?_cons_succ] at cp4_0 cp4_1 cp4_2 cp4_3
        have cp5_0 := RC_p1.out.cell 0
        have cp5_1 := RC_p1.out.cell 1
        have cp5_2 := RC_p1.out.cell 2
        have cp5_3 := RC_p1.out.cell 3
        simp only [List.getElem?_cons_zero, List.getElem?_cons_succ] at cp5_0 cp5_1 cp5_2 cp5_3
        go_wp2_with fail
        refine (HX.out _).mono ?_
        rintro e Wp2 ⟨rfl, hb⟩
        clear cp3_0 cp3_1 cp3_2 cp3_3 cp4_0 cp4_1 cp4_2 cp4_3 cp5_0 cp5_1 cp5_2 cp5_3
        have RA_p6 := Lib.hid (RA_p1.out.below hb RA_p1.out.lt)
        have RB_p6 := Lib.hid (RB_p1.out.below hb RB_p1.out.lt)
        have RC_p6 := Lib.hid (RC_p1.out.below hb RC_p1.out.lt)
        have B_p6 := Lib.hid (B_p1.out.trans (hb.mono B_p1.out.size))
        clear hb RA_p1 RB_p1 RC_p1 B_p1
        have cp8_0 := RA_p6.out.cell 0
        have cp8_1 := RA_p6.out.cell 1
        have cp8_2 := RA_p6.out.cell 2
        have cp8_3 := RA_p6.out.cell 3
        simp only [List.getElem?_cons_zero, List.getElem?_cons_succ] at cp8_0 cp8_1 cp8_2 cp8_3
        have cp9_0 := RC_p6.out.cell 0
        have cp9_1 := RC_p6.out.cell 1
        have cp9_2 := RC_p6.out.cell 2
        have cp9_3 := RC_p6.out.cell 3
        simp only [List.getElem?_cons_zero, List.getElem?_cons_succ] at cp9_0 cp9_1 cp9_2 cp9_3
        go_wp2_with fail
        refine (HG1.out _).mono ?_
        rintro e Wp7 ⟨rfl, hb⟩
        clear cp8_0 cp8_1 cp8_2 cp8_3 cp9_0 cp9_1 cp9_2 cp9_3
        have RA_p10 := Lib.hid (RA_p6.out.below hb RA_p6.out.lt)
        have RB_p10 := Lib.hid (RB_p6.out.below hb RB_p6.out.lt)
        have RC_p10 := Lib.hid (RC_p6.out.below hb RC_p6.out.lt)
        have B_p10 := Lib.hid (B_p6.out.trans (hb.mono B_p6.out.size))
        clear hb RA_p6 RB_p6 RC_p6 B_p6
        go_upto_region 4 with fail
        have hltp11_0 : w.heap.size < Wp7.heap.size := RA_p10.out.lt
        have hltp11_1 : w.heap.size + 1 < Wp7.heap.size := RB_p10.out.lt
        have hltp11_2 : w.heap.size + 1 + 1 < Wp7.heap.size := RC_p10.out.lt
        have RA_p11 := Lib.hid ((RA_p10.out.alloc (.cells #[.int .u64 (ah : Int), .int .u64 (al : Int)] 33)).alloc (.cells #[.int .u64 (bh : Int), .int .u64 (bl : Int)] 33))
        have RB_p11 := Lib.hid ((RB_p10.out.alloc (.cells #[.int .u64 (ah : Int), .int .u64 (al : Int)] 33)).alloc (.cells #[.int .u64 (bh : Int), .int .u64 (bl : Int)] 33))
        have RC_p11 := Lib.hid ((RC_p10.out.alloc (.cells #[.int .u64 (ah : Int), .int .u64 (al : Int)] 33)).alloc (.cells #[.int .u64 (bh : Int), .int .u64 (bl : Int)] 33))
        have R7_p11 := Lib.hid ((row_last Wp7 (Wp7.heap.size) 33 [.int .u64 (ah : Int), .int .u64 (al : Int)] (by simp)).alloc (.cells #[.int .u64 (bh : Int), .int .u64 (bl : Int)] 33))
        have R8_p11 := Lib.hid (row_last (Wp7.alloc (.cells #[.int .u64 (ah : Int), .int .u64 (al : Int)] 33)) (Wp7.heap.size + 1) 33 [.int .u64 (bh : Int), .int .u64 (bl : Int)] (by simp))
        have B_p11 := Lib.hid ((B_p10.out.alloc B_p10.out.size (.cells #[.int .u64 (ah : Int), .int .u64 (al : Int)] 33)).alloc (by have := B_p10.out.size; simp <;> omega) (.cells #[.int .u64 (bh : Int), .int .u64 (bl : Int)] 33))
        clear RA_p10 RB_p10 RC_p10 B_p10
        generalize ((Wp7.alloc (.cells #[.int .u64 (ah : Int), .int .u64 (al : Int)] 33)).alloc (.cells #[.int .u64 (bh : Int), .int .u64 (bl : Int)] 33)) = Vp11 at RA_p11 RB_p11 RC_p11 R7_p11 R8_p11 B_p11 ⊢
        have cp13_0 := RB_p11.out.cell 0
        have cp13_1 := RB_p11.out.cell 1
        have cp13_2 := RB_p11.out.cell 2
        have cp13_3 := RB_p11.out.cell 3
        simp only [List.getElem?_cons_zero, List.getElem?_cons_succ] at cp13_0 cp13_1 cp13_2 cp13_3
        have cp14_0 := RC_p11.out.cell 0
        have cp14_1 := RC_p11.out.cell 1
        have cp14_2 := RC_p11.out.cell 2
        have cp14_3 := RC_p11.out.cell 3
        simp only [List.getElem?_cons_zero, List.getElem?_cons_succ] at cp14_0 cp14_1 cp14_2 cp14_3
        go_wp2_with fail
        refine (HG2.out _).mono ?_
        rintro e Wp12 ⟨rfl, hb⟩
        clear cp13_0 cp13_1 cp13_2 cp13_3 cp14_0 cp14_1 cp14_2 cp14_3
        have RA_p15 := Lib.hid (RA_p11.out.below hb RA_p11.out.lt)
        have RB_p15 := Lib.hid (RB_p11.out.below hb RB_p11.out.lt)
        have RC_p15 := Lib.hid (RC_p11.out.below hb RC_p11.out.lt)
        have R7_p15 := Lib.hid (R7_p11.out.below hb R7_p11.out.lt)
        have R8_p15 := Lib.hid (R8_p11.out.below hb R8_p11.out.lt)
        have B_p15 := Lib.hid (B_p11.out.trans (hb.mono B_p11.out.size))
        clear hb RA_p11 RB_p11 RC_p11 R7_p11 R8_p11 B_p11
        go_upto_region 5 with fail
        have hltp16_0 : w.heap.size < Wp12.heap.size := RA_p15.out.lt
        have hltp16_1 : w.heap.size + 1 < Wp12.heap.size := RB_p15.out.lt
        have hltp16_2 : w.heap.size + 1 + 1 < Wp12.heap.size := RC_p15.out.lt
        have hltp16_3 : Wp7.heap.size < Wp12.heap.size := R7_p15.out.lt
        have hltp16_4 : Wp7.heap.size + 1 < Wp12.heap.size := R8_p15.out.lt
        have RA_p16 := Lib.hid ((RA_p15.out.alloc (.cells #[.int .u64 (ah : Int), .int .u64 (cl : Int)] 33)).alloc (.cells #[.int .u64 (dh : Int), .int .u64 (dl : Int)] 33))
        have RB_p16 := Lib.hid ((RB_p15.out.alloc (.cells #[.int .u64 (ah : Int), .int .u64 (cl : Int)] 33)).alloc (.cells #[.int .u64 (dh : Int), .int .u64 (dl : Int)] 33))
        have RC_p16 := Lib.hid ((RC_p15.out.alloc (.cells #[.int .u64 (ah : Int), .int .u64 (cl : Int)] 33)).alloc (.cells #[.int .u64 (dh : Int), .int .u64 (dl : Int)] 33))
        have R7_p16 := Lib.hid ((R7_p15.out.alloc (.cells #[.int .u64 (ah : Int), .int .u64 (cl : Int)] 33)).alloc (.cells #[.int .u64 (dh : Int), .int .u64 (dl : Int)] 33))
        have R8_p16 := Lib.hid ((R8_p15.out.alloc (.cells #[.int .u64 (ah : Int), .int .u64 (cl : Int)] 33)).alloc (.cells #[.int .u64 (dh : Int), .int .u64 (dl : Int)] 33))
        have R9_p16 := Lib.hid ((row_last Wp12 (Wp12.heap.size) 33 [.int .u64 (ah : Int), .int .u64 (cl : Int)] (by simp)).alloc (.cells #[.int .u64 (dh : Int), .int .u64 (dl : Int)] 33))
        have R10_p16 := Lib.hid (row_last (Wp12.alloc (.cells #[.int .u64 (ah : Int), .int .u64 (cl : Int)] 33)) (Wp12.heap.size + 1) 33 [.int .u64 (dh : Int), .int .u64 (dl : Int)] (by simp))
        have B_p16 := Lib.hid ((B_p15.out.alloc B_p15.out.size (.cells #[.int .u64 (ah : Int), .int .u64 (cl : Int)] 33)).alloc (by have := B_p15.out.size; simp <;> omega) (.cells #[.int .u64 (dh : Int), .int .u64 (dl : Int)] 33))
        clear RA_p15 RB_p15 RC_p15 R7_p15 R8_p15 B_p15
        generalize ((Wp12.alloc (.cells #[.int .u64 (ah : Int), .int .u64 (cl : Int)] 33)).alloc (.cells #[.int .u64 (dh : Int), .int .u64 (dl : Int)] 33)) = Vp16 at RA_p16 RB_p16 RC_p16 R7_p16 R8_p16 R9_p16 R10_p16 B_p16 ⊢
        have cp18_0 := R7_p16.out.cell 0
        have cp18_1 := R7_p16.out.cell 1
        simp only [List.getElem?_cons_zero, List.getElem?_cons_succ] at cp18_0 cp18_1
        have cp19_0 := R9_p16.out.cell 0
        have cp19_1 := R9_p16.out.cell 1
        simp only [List.getElem?_cons_zero, List.getElem?_cons_succ] at cp19_0 cp19_1
        have cp20_0 := R8_p16.out.cell 0
        have cp20_1 := R8_p16.out.cell 1
        simp only [List.getElem?_cons_zero, List.getElem?_cons_succ] at cp20_0 cp20_1
        have cp21_0 := R10_p16.out.cell 0
        have cp21_1 := R10_p16.out.cell 1
        simp only [List.getElem?_cons_zero, List.getElem?_cons_succ] at cp21_0 cp21_1
        go_wp2_with fail
        refine (HC1.out _).mono ?_
        rintro e Wp17 ⟨rfl, hb⟩
        clear cp18_0 cp18_1 cp19_0 cp19_1 cp20_0 cp20_1 cp21_0 cp21_1
        have RA_p22 := Lib.hid (RA_p16.out.below hb RA_p16.out.lt)
        have RB_p22 := Lib.hid (RB_p16.out.below hb RB_p16.out.lt)
        have RC_p22 := Lib.hid (RC_p16.out.below hb RC_p16.out.lt)
        have R7_p22 := Lib.hid (R7_p16.out.below hb R7_p16.out.lt)
        have R8_p22 := Lib.hid (R8_p16.out.below hb R8_p16.out.lt)
        have R9_p22 := Lib.hid (R9_p16.out.below hb R9_p16.out.lt)
        have R10_p22 := Lib.hid (R10_p16.out.below hb R10_p16.out.lt)
        have B_p22 := Lib.hid (B_p16.out.trans (hb.mono B_p16.out.size))
        clear hb RA_p16 RB_p16 RC_p16 R7_p16 R8_p16 R9_p16 R10_p16 B_p16
        go_wp2
        go_ret
        exact ⟨by rw [HZ.out]; rfl, B_p22.out⟩
      · clear hal
        go_enter Try.func19, Try.ntmps19
        go_upto_region 1 with fail
        have RA_q1 := Lib.hid (((row_last w (w.heap.size) 23 [.int .i64 x0, .int .i64 x1, .int .i64 y0, .int .i64 y1] (by simp)).alloc (.cells #[.int .i64 u0, .int .i64 u1, .int .i64 v0, .int .i64 v1] 23)).alloc (.cells #[.int .i64 z0, .int .i64 z1, .int .i64 t0, .int .i64 t1] 23))
        have RB_q1 := Lib.hid ((row_last (w.alloc (.cells #[.int .i64 x0, .int .i64 x1, .int .i64 y0, .int .i64 y1] 23)) (w.heap.size + 1) 23 [.int .i64 u0, .int .i64 u1, .int .i64 v0, .int .i64 v1] (by simp)).alloc (.cells #[.int .i64 z0, .int .i64 z1, .int .i64 t0, .int .i64 t1] 23))
        have RC_q1 := Lib.hid (row_last ((w.alloc (.cells #[.int .i64 x0, .int .i64 x1, .int .i64 y0, .int .i64 y1] 23)).alloc (.cells #[.int .i64 u0, .int .i64 u1, .int .i64 v0, .int .i64 v1] 23)) (w.heap.size + 1 + 1) 23 [.int .i64 z0, .int .i64 z1, .int .i64 t0, .int .i64 t1] (by simp))
        have B_q1 := Lib.hid ((((Below.refl w.heap.size w).alloc (Nat.le_refl _) (.cells #[.int .i64 x0, .int .i64 x1, .int .i64 y0, .int .i64 y1] 23)).alloc (by have := Nat.le_refl w.heap.size; simp <;> omega) (.cells #[.int .i64 u0, .int .i64 u1, .int .i64 v0, .int .i64 v1] 23)).alloc (by have := Nat.le_refl w.heap.size; simp <;> omega) (.cells #[.int .i64 z0, .int .i64 z1, .int .i64 t0, .int .i64 t1] 23))
        generalize (((w.alloc (.cells #[.int .i64 x0, .int .i64 x1, .int .i64 y0, .int .i64 y1] 23)).alloc (.cells #[.int .i64 u0, .int .i64 u1, .int .i64 v0, .int .i64 v1] 23)).alloc (.cells #[.int .i64 z0, .int .i64 z1, .int .i64 t0, .int .i64 t1] 23)) = Vq1 at RA_q1 RB_q1 RC_q1 B_q1 ⊢
        have cq3_0 := RA_q1.out.cell 0
        have cq3_1 := RA_q1.out.cell 1
        have cq3_2 := RA_q1.out.cell 2
        have cq3_3 := RA_q1.out.cell 3
        simp only [List.getElem?_cons_zero, List.getElem?_cons_succ] at cq3_0 cq3_1 cq3_2 cq3_3
        have cq4_0 := RB_q1.out.cell 0
        have cq4_1 := RB_q1.out.cell 1
        have cq4_2 := RB_q1.out.cell 2
        have cq4_3 := RB_q1.out.cell 3
        simp only [List.getElem?_cons_zero, List.getElem?_cons_succ] at cq4_0 cq4_1 cq4_2 cq4_3
        have cq5_0 := RC_q1.out.cell 0
        have cq5_1 := RC_q1.out.cell 1
        have cq5_2 := RC_q1.out.cell 2
        have cq5_3 := RC_q1.out.cell 3
        simp only [List.getElem?_cons_zero, List.getElem?_cons_succ] at cq5_0 cq5_1 cq5_2 cq5_3
        go_wp2_with fail
        refine (HX.out _).mono ?_
        rintro e Wq2 ⟨rfl, hb⟩
        clear cq3_0 cq3_1 cq3_2 cq3_3 cq4_0 cq4_1 cq4_2 cq4_3 cq5_0 cq5_1 cq5_2 cq5_3
        have RA_q6 := Lib.hid (RA_q1.out.below hb RA_q1.out.lt)
        have RB_q6 := Lib.hid (RB_q1.out.below hb RB_q1.out.lt)
        have RC_q6 := Lib.hid (RC_q1.out.below hb RC_q1.out.lt)
        have B_q6 := Lib.hid (B_q1.out.trans (hb.mono B_q1.out.size))
        clear hb RA_q1 RB_q1 RC_q1 B_q1
        have cq8_0 := RA_q6.out.cell 0
        have cq8_1 := RA_q6.out.cell 1
        have cq8_2 := RA_q6.out.cell 2
        have cq8_3 := RA_q6.out.cell 3
        simp only [List.getElem?_cons_zero, List.getElem?_cons_succ] at cq8_0 cq8_1 cq8_2 cq8_3
        have cq9_0 := RC_q6.out.cell 0
        have cq9_1 := RC_q6.out.cell 1
        have cq9_2 := RC_q6.out.cell 2
        have cq9_3 := RC_q6.out.cell 3
        simp only [List.getElem?_cons_zero, List.getElem?_cons_succ] at cq9_0 cq9_1 cq9_2 cq9_3
        go_wp2_with fail
        refine (HG1.out _).mono ?_
        rintro e Wq7 ⟨rfl, hb⟩
        clear cq8_0 cq8_1 cq8_2 cq8_3 cq9_0 cq9_1 cq9_2 cq9_3
        have RA_q10 := Lib.hid (RA_q6.out.below hb RA_q6.out.lt)
        have RB_q10 := Lib.hid (RB_q6.out.below hb RB_q6.out.lt)
        have RC_q10 := Lib.hid (RC_q6.out.below hb RC_q6.out.lt)
        have B_q10 := Lib.hid (B_q6.out.trans (hb.mono B_q6.out.size))
        clear hb RA_q6 RB_q6 RC_q6 B_q6
        go_upto_region 4 with fail
        have hltq11_0 : w.heap.size < Wq7.heap.size := RA_q10.out.lt
        have hltq11_1 : w.heap.size + 1 < Wq7.heap.size := RB_q10.out.lt
        have hltq11_2 : w.heap.size + 1 + 1 < Wq7.heap.size := RC_q10.out.lt
        have RA_q11 := Lib.hid ((RA_q10.out.alloc (.cells #[.int .u64 (ah : Int), .int .u64 (al : Int)] 33)).alloc (.cells #[.int .u64 (bh : Int), .int .u64 (bl : Int)] 33))
        have RB_q11 := Lib.hid ((RB_q10.out.alloc (.cells #[.int .u64 (ah : Int), .int .u64 (al : Int)] 33)).alloc (.cells #[.int .u64 (bh : Int), .int .u64 (bl : Int)] 33))
        have RC_q11 := Lib.hid ((RC_q10.out.alloc (.cells #[.int .u64 (ah : Int), .int .u64 (al : Int)] 33)).alloc (.cells #[.int .u64 (bh : Int), .int .u64 (bl : Int)] 33))
        have R7_q11 := Lib.hid ((row_last Wq7 (Wq7.heap.size) 33 [.int .u64 (ah : Int), .int .u64 (al : Int)] (by simp)).alloc (.cells #[.int .u64 (bh : Int), .int .u64 (bl : Int)] 33))
        have R8_q11 := Lib.hid (row_last (Wq7.alloc (.cells #[.int .u64 (ah : Int), .int .u64 (al : Int)] 33)) (Wq7.heap.size + 1) 33 [.int .u64 (bh : Int), .int .u64 (bl : Int)] (by simp))
        have B_q11 := Lib.hid ((B_q10.out.alloc B_q10.out.size (.cells #[.int .u64 (ah : Int), .int .u64 (al : Int)] 33)).alloc (by have := B_q10.out.size; simp <;> omega) (.cells #[.int .u64 (bh : Int), .int .u64 (bl : Int)] 33))
        clear RA_q10 RB_q10 RC_q10 B_q10
        generalize ((Wq7.alloc (.cells #[.int .u64 (ah : Int), .int .u64 (al : Int)] 33)).alloc (.cells #[.int .u64 (bh : Int), .int .u64 (bl : Int)] 33)) = Vq11 at RA_q11 RB_q11 RC_q11 R7_q11 R8_q11 B_q11 ⊢
        have cq13_0 := RB_q11.out.cell 0
        have cq13_1 := RB_q11.out.cell 1
        have cq13_2 := RB_q11.out.cell 2
        have cq13_3 := RB_q11.out.cell 3
        simp only [List.getElem?_cons_zero, List.getElem?_cons_succ] at cq13_0 cq13_1 cq13_2 cq13_3
        have cq14_0 := RC_q11.out.cell 0
        have cq14_1 := RC_q11.out.cell 1
        have cq14_2 := RC_q11.out.cell 2
        have cq14_3 := RC_q11.out.cell 3
        simp only [List.getElem?_cons_zero, List.getElem?_cons_succ] at cq14_0 cq14_1 cq14_2 cq14_3
        go_wp2_with fail
        refine (HG2.out _).mono ?_
        rintro e Wq12 ⟨rfl, hb⟩
        clear cq13_0 cq13_1 cq13_2 cq13_3 cq14_0 cq14_1 cq14_2 cq14_3
        have RA_q15 := Lib.hid (RA_q11.out.below hb RA_q11.out.lt)
        have RB_q15 := Lib.hid (RB_q11.out.below hb RB_q11.out.lt)
        have RC_q15 := Lib.hid (RC_q11.out.below hb RC_q11.out.lt)
        have R7_q15 := Lib.hid (R7_q11.out.below hb R7_q11.out.lt)
        have R8_q15 := Lib.hid (R8_q11.out.below hb R8_q11.out.lt)
        have B_q15 := Lib.hid (B_q11.out.trans (hb.mono B_q11.out.size))
        clear hb RA_q11 RB_q11 RC_q11 R7_q11 R8_q11 B_q11
        go_upto_region 5 with fail
        have hltq16_0 : w.heap.size < Wq12.heap.size := RA_q15.out.lt
        have hltq16_1 : w.heap.size + 1 < Wq12.heap.size := RB_q15.out.lt
        have hltq16_2 : w.heap.size + 1 + 1 < Wq12.heap.size := RC_q15.out.lt
        have hltq16_3 : Wq7.heap.size < Wq12.heap.size := R7_q15.out.lt
        have hltq16_4 : Wq7.heap.size + 1 < Wq12.heap.size := R8_q15.out.lt
        have RA_q16 := Lib.hid ((RA_q15.out.alloc (.cells #[.int .u64 (ch : Int), .int .u64 (cl : Int)] 33)).alloc (.cells #[.int .u64 (dh : Int), .int .u64 (dl : Int)] 33))
        have RB_q16 := Lib.hid ((RB_q15.out.alloc (.cells #[.int .u64 (ch : Int), .int .u64 (cl : Int)] 33)).alloc (.cells #[.int .u64 (dh : Int), .int .u64 (dl : Int)] 33))
        have RC_q16 := Lib.hid ((RC_q15.out.alloc (.cells #[.int .u64 (ch : Int), .int .u64 (cl : Int)] 33)).alloc (.cells #[.int .u64 (dh : Int), .int .u64 (dl : Int)] 33))
        have R7_q16 := Lib.hid ((R7_q15.out.alloc (.cells #[.int .u64 (ch : Int), .int .u64 (cl : Int)] 33)).alloc (.cells #[.int .u64 (dh : Int), .int .u64 (dl : Int)] 33))
        have R8_q16 := Lib.hid ((R8_q15.out.alloc (.cells #[.int .u64 (ch : Int), .int .u64 (cl : Int)] 33)).alloc (.cells #[.int .u64 (dh : Int), .int .u64 (dl : Int)] 33))
        have R9_q16 := Lib.hid ((row_last Wq12 (Wq12.heap.size) 33 [.int .u64 (ch : Int), .int .u64 (cl : Int)] (by simp)).alloc (.cells #[.int .u64 (dh : Int), .int .u64 (dl : Int)] 33))
        have R10_q16 := Lib.hid (row_last (Wq12.alloc (.cells #[.int .u64 (ch : Int), .int .u64 (cl : Int)] 33)) (Wq12.heap.size + 1) 33 [.int .u64 (dh : Int), .int .u64 (dl : Int)] (by simp))
        have B_q16 := Lib.hid ((B_q15.out.alloc B_q15.out.size (.cells #[.int .u64 (ch : Int), .int .u64 (cl : Int)] 33)).alloc (by have := B_q15.out.size; simp <;> omega) (.cells #[.int .u64 (dh : Int), .int .u64 (dl : Int)] 33))
        clear RA_q15 RB_q15 RC_q15 R7_q15 R8_q15 B_q15
        generalize ((Wq12.alloc (.cells #[.int .u64 (ch : Int), .int .u64 (cl : Int)] 33)).alloc (.cells #[.int .u64 (dh : Int), .int .u64 (dl : Int)] 33)) = Vq16 at RA_q16 RB_q16 RC_q16 R7_q16 R8_q16 R9_q16 R10_q16 B_q16 ⊢
        have cq18_0 := R7_q16.out.cell 0
        have cq18_1 := R7_q16.out.cell 1
        simp only [List.getElem?_cons_zero, List.getElem?_cons_succ] at cq18_0 cq18_1
        have cq19_0 := R9_q16.out.cell 0
        have cq19_1 := R9_q16.out.cell 1
        simp only [List.getElem?_cons_zero, List.getElem?_cons_succ] at cq19_0 cq19_1
        have cq20_0 := R8_q16.out.cell 0
        have cq20_1 := R8_q16.out.cell 1
        simp only [List.getElem?_cons_zero, List.getElem?_cons_succ] at cq20_0 cq20_1
        have cq21_0 := R10_q16.out.cell 0
        have cq21_1 := R10_q16.out.cell 1
        simp only [List.getElem?_cons_zero, List.getElem?_cons_succ] at cq21_0 cq21_1
        go_wp2_with fail
        refine (HC1.out _).mono ?_
        rintro e Wq17 ⟨rfl, hb⟩
        clear cq18_0 cq18_1 cq19_0 cq19_1 cq20_0 cq20_1 cq21_0 cq21_1
        have RA_q22 := Lib.hid (RA_q16.out.below hb RA_q16.out.lt)
        have RB_q22 := Lib.hid (RB_q16.out.below hb RB_q16.out.lt)
        have RC_q22 := Lib.hid (RC_q16.out.below hb RC_q16.out.lt)
        have R7_q22 := Lib.hid (R7_q16.out.below hb R7_q16.out.lt)
        have R8_q22 := Lib.hid (R8_q16.out.below hb R8_q16.out.lt)
        have R9_q22 := Lib.hid (R9_q16.out.below hb R9_q16.out.lt)
        have R10_q22 := Lib.hid (R10_q16.out.below hb R10_q16.out.lt)
        have B_q22 := Lib.hid (B_q16.out.trans (hb.mono B_q16.out.size))
        clear hb RA_q16 RB_q16 RC_q16 R7_q16 R8_q16 R9_q16 R10_q16 B_q16
        go_wp2
        go_ret
        exact ⟨by rw [HZ.out]; rfl, B_q22.out⟩
end Go.Proofs.Ytbmfijcckdkmdaa.Ky
