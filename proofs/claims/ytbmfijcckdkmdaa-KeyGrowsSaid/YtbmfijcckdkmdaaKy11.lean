/-
  Keys: to which side a box goes.
-/
import Derived.Test.YtbmfijcckdkmdaaKy10
import Derived.Test.YtbmfijcckdkmdaaWi2
import Derived.LoopTactic
import Derived.Deep.RegionHeld
import Derived.Deep.Cut
import Derived.WalkLawsBesides
namespace Go.Proofs.Ytbmfijcckdkmdaa.Ky
set_option maxRecDepth 100000
open Go.RowKit Go.Proofs.Ytbmfijcckdkmdaa.Wd Go.Proofs.Ytbmfijcckdkmdaa.Wi Go.Proofs.Ytbmfijcckdkmdaa.Lift


/-- to the left? -/
def goesM (n least nl nr : Nat) (a b : Bool) : Bool := if n - nr = least then true else if n - nl = least then false else if a then true else if b then false else decide (nl ≤ nr)
set_option maxHeartbeats 4000000 in
theorem goes_any {gl g1 g2 gm n c nl nr least cl cr : Nat} {A Al Ar : Option Addr} {x0 x1 y0 y1 u0 u1 v0 v1 z0 z1 t0 t1 : Int} (w : World)
    (hl : Row w gl 38 [.slice A n c]) (h1 : Row w g1 66 [.slice Al nl cl, .int .i64 x0, .int .i64 x1, .int .i64 y0, .int .i64 y1]) (h2 : Row w g2 66 [.slice Ar nr cr, .int .i64 u0, .int .i64 u1, .int .i64 v0, .int .i64 v1]) (hm : Row w gm 3 [.int .i64 (least : Int)])
    (kx : KOk x0 x1 y0 y1) (ku : KOk u0 u1 v0 v1) (kz : KOk z0 z1 t0 t1) (hn : n ≤ 1000) (hs : nl + nr ≤ n) :
    Calls Try.prog 48 #[KV z0 z1 t0 t1, .pointer (some ⟨gl, 0, none⟩), .pointer (some ⟨g1, 0, none⟩), .pointer (some ⟨g2, 0, none⟩), .pointer (some ⟨gm, 0, none⟩)] w fun e w' => e = .returned (.pointer (some ⟨if goesM n least nl nr (lessB x0 x1 y0 y1 u0 u1 v0 v1 z0 z1 t0 t1) (lessB u0 u1 v0 v1 x0 x1 y0 y1 z0 z1 t0 t1) then g1 else g2, 0, none⟩)) ∧ Below w.heap.size w w' := by
  have HL1 := Lib.hid (fun w => Less_any kx ku kz w)
  have HL2 := Lib.hid (fun w => Less_any ku kx kz w)
  generalize lessB x0 x1 y0 y1 u0 u1 v0 v1 z0 z1 t0 t1 = a at HL1 ⊢
  generalize lessB u0 u1 v0 v1 x0 x1 y0 y1 z0 z1 t0 t1 = b at HL2 ⊢
  clear kx ku kz
  have RL_ := Lib.hid hl
  have R1_ := Lib.hid h1
  have R2_ := Lib.hid h2
  have RM_ := Lib.hid hm
  clear hl h1 h2 hm
  obtain ⟨q, hq⟩ : ∃ q, q = n - nl - nr := ⟨_, rfl⟩
  have e1 : (n : Int) - (nl : Int) - (nr : Int) = (q : Int) := by omega
  have HG : Hid (∀ r, (if nl + q = least then true else if nr + q = least then false else if a then true else if b then false else decide (nl ≤ nr)) = r → (if goesM n least nl nr a b then g1 else g2) = if r then g1 else g2) := Lib.hid (fun r h => by
    unfold goesM
    rw [show n - nr = nl + q by omega, show n - nl = nr + q by omega, h])
  have hq2 : nl + nr + q = n := by omega
  obtain ⟨gr, hgr⟩ : ∃ gr, (if goesM n least nl nr a b then g1 else g2) = gr := ⟨_, rfl⟩
  rw [hgr] at HG ⊢
  clear hgr
  clear hq
  by_cases hA : nl + q = least
  · have HE : Hid (gr = g1) := Lib.hid (HG.out true (by rw [if_pos hA]))
    have hA' : (nl : Int) + (q : Int) = (least : Int) := by omega
    clear HG hA
    go_enter Try.func48, Try.ntmps48
    go_upto_region 1 with fail
    have hlta1_0 : gl < w.heap.size := RL_.out.lt
    have hlta1_1 : g1 < w.heap.size := R1_.out.lt
    have hlta1_2 : g2 < w.heap.size := R2_.out.lt
    have hlta1_3 : gm < w.heap.size := RM_.out.lt
    have RL_a1 := Lib.hid (RL_.out.alloc (.cells #[.int .i64 z0, .int .i64 z1, .int .i64 t0, .int .i64 t1] 23))
    have R1_a1 := Lib.hid (R1_.out.alloc (.cells #[.int .i64 z0, .int .i64 z1, .int .i64 t0, .int .i64 t1] 23))
    have R2_a1 := Lib.hid (R2_.out.alloc (.cells #[.int .i64 z0, .int .i64 z1, .int .i64 t0, .int .i64 t1] 23))
    have RM_a1 := Lib.hid (RM_.out.alloc (.cells #[.int .i64 z0, .int .i64 z1, .int .i64 t0, .int .i64 t1] 23))
    have RY_a1 := Lib.hid (row_last w (w.heap.size) 23 [.int .i64 z0, .int .i64 z1, .int .i64 t0, .int .i64 t1] (by simp))
    have B_a1 := Lib.hid ((Below.refl w.heap.size w).alloc (Nat.le_refl _) (.cells #[.int .i64 z0, .int .i64 z1, .int .i64 t0, .int .i64 t1] 23))
    clear RL_ R1_ R2_ RM_
    generalize (w.alloc (.cells #[.int .i64 z0, .int .i64 z1, .int .i64 t0, .int .i64 t1] 23)) = Va1 at RL_a1 R1_a1 R2_a1 RM_a1 RY_a1 B_a1 ⊢
    have ca2_0 := RL_a1.out.cell 0
    simp only [List.getElem?_cons_zero] at ca2_0
    have ca3_0 := R1_a1.out.cell 0
    have ca3_1 := R1_a1.out.cell 1
    have ca3_2 := R1_a1.out.cell 2
    have ca3_3 := R1_a1.out.cell 3
    have ca3_4 := R1_a1.out.cell 4
    simp only [List.getElem?_cons_zero, List.getElem?_cons_succ] at ca3_0 ca3_1 ca3_2 ca3_3 ca3_4
    have ca4_0 := R2_a1.out.cell 0
    have ca4_1 := R2_a1.out.cell 1
    have ca4_2 := R2_a1.out.cell 2
    have ca4_3 := R2_a1.out.cell 3
    have ca4_4 := R2_a1.out.cell 4
    simp only [List.getElem?_cons_zero, List.getElem?_cons_succ] at ca4_0 ca4_1 ca4_2 ca4_3 ca4_4
    have ca5_0 := RM_a1.out.cell 0
    simp only [List.getElem?_cons_zero] at ca5_0
    have ca6_0 := RY_a1.out.cell 0
    have ca6_1 := RY_a1.out.cell 1
    have ca6_2 := RY_a1.out.cell 2
    have ca6_3 := RY_a1.out.cell 3
    simp only [List.getElem?_cons_zero, List.getElem?_cons_succ] at ca6_0 ca6_1 ca6_2 ca6_3
    go_wp2
    go_ret
    exact ⟨by rw [HE.out]; rfl, B_a1.out⟩
  have hA' : ¬ (nl : Int) + (q : Int) = (least : Int) := by omega
  by_cases hB : nr + q = least
  · have HE : Hid (gr = g2) := Lib.hid (HG.out false (by rw [if_neg hA, if_pos hB]))
    have hB' : (nr : Int) + (q : Int) = (least : Int) := by omega
    clear HG hA hB
    go_enter Try.func48, Try.ntmps48
    go_upto_region 1 with fail
    have hltb1_0 : gl < w.heap.size := RL_.out.lt
    have hltb1_1 : g1 < w.heap.size := R1_.out.lt
    have hltb1_2 : g2 < w.heap.size := R2_.out.lt
    have hltb1_3 : gm < w.heap.size := RM_.out.lt
    have RL_b1 := Lib.hid (RL_.out.alloc (.cells #[.int .i64 z0, .int .i64 z1, .int .i64 t0, .int .i64 t1] 23))
    have R1_b1 := Lib.hid (R1_.out.alloc (.cells #[.int .i64 z0, .int .i64 z1, .int .i64 t0, .int .i64 t1] 23))
    have R2_b1 := Lib.hid (R2_.out.alloc (.cells #[.int .i64 z0, .int .i64 z1, .int .i64 t0, .int .i64 t1] 23))
    have RM_b1 := Lib.hid (RM_.out.alloc (.cells #[.int .i64 z0, .int .i64 z1, .int .i64 t0, .int .i64 t1] 23))
    have RY_b1 := Lib.hid (row_last w (w.heap.size) 23 [.int .i64 z0, .int .i64 z1, .int .i64 t0, .int .i64 t1] (by simp))
    have B_b1 := Lib.hid ((Below.refl w.heap.size w).alloc (Nat.le_refl _) (.cells #[.int .i64 z0, .int .i64 z1, .int .i64 t0, .int .i64 t1] 23))
    clear RL_ R1_ R2_ RM_
    generalize (w.alloc (.cells #[.int .i64 z0, .int .i64 z1, .int .i64 t0, .int .i64 t1] 23)) = Vb1 at RL_b1 R1_b1 R2_b1 RM_b1 RY_b1 B_b1 ⊢
    have cb2_0 := RL_b1.out.cell 0
    simp only [List.getElem?_cons_zero] at cb2_0
    have cb3_0 := R1_b1.out.cell 0
    have cb3_1 := R1_b1.out.cell 1
    have cb3_2 := R1_b1.out.cell 2
    have cb3_3 := R1_b1.out.cell 3
    have cb3_4 := R1_b1.out.cell 4
    simp only [List.getElem?_cons_zero, List.getElem?_cons_succ] at cb3_0 cb3_1 cb3_2 cb3_3 cb3_4
    have cb4_0 := R2_b1.out.cell 0
    have cb4_1 := R2_b1.out.cell 1
    have cb4_2 := R2_b1.out.cell 2
    have cb4_3 := R2_b1.out.cell 3
    have cb4_4 := R2_b1.out.cell 4
    simp only [List.getElem?_cons_zero, List.getElem?_cons_succ] at cb4_0 cb4_1 cb4_2 cb4_3 cb4_4
    have cb5_0 := RM_b1.out.cell 0
    simp only [List.getElem?_cons_zero] at cb5_0
    have cb6_0 := RY_b1.out.cell 0
    have cb6_1 := RY_b1.out.cell 1
    have cb6_2 := RY_b1.out.cell 2
    have cb6_3 := RY_b1.out.cell 3
    simp only [List.getElem?_cons_zero, List.getElem?_cons_succ] at cb6_0 cb6_1 cb6_2 cb6_3
    go_wp2
    go_ret
    exact ⟨by rw [HE.out]; rfl, B_b1.out⟩
  have hB' : ¬ (nr : Int) + (q : Int) = (least : Int) := by omega
  cases a
  case true =>
    have HE : Hid (gr = g1) := Lib.hid (HG.out true (by rw [if_neg hA, if_neg hB]; rfl))
    clear HG hA hB
    go_enter Try.func48, Try.ntmps48
    go_upto_region 1 with fail
    have hltc1_0 : gl < w.heap.size := RL_.out.lt
    have hltc1_1 : g1 < w.heap.size := R1_.out.lt
    have hltc1_2 : g2 < w.heap.size := R2_.out.lt
    have hltc1_3 : gm < w.heap.size := RM_.out.lt
    have RL_c1 := Lib.hid (RL_.out.alloc (.cells #[.int .i64 z0, .int .i64 z1, .int .i64 t0, .int .i64 t1] 23))
    have R1_c1 := Lib.hid (R1_.out.alloc (.cells #[.int .i64 z0, .int .i64 z1, .int .i64 t0, .int .i64 t1] 23))
    have R2_c1 := Lib.hid (R2_.out.alloc (.cells #[.int .i64 z0, .int .i64 z1, .int .i64 t0, .int .i64 t1] 23))
    have RM_c1 := Lib.hid (RM_.out.alloc (.cells #[.int .i64 z0, .int .i64 z1, .int .i64 t0, .int .i64 t1] 23))
    have RY_c1 := Lib.hid (row_last w (w.heap.size) 23 [.int .i64 z0, .int .i64 z1, .int .i64 t0, .int .i64 t1] (by simp))
    have B_c1 := Lib.hid ((Below.refl w.heap.size w).alloc (Nat.le_refl _) (.cells #[.int .i64 z0, .int .i64 z1, .int .i64 t0, .int .i64 t1] 23))
    clear RL_ R1_ R2_ RM_
    generalize (w.alloc (.cells #[.int .i64 z0, .int .i64 z1, .int .i64 t0, .int .i64 t1] 23)) = Vc1 at RL_c1 R1_c1 R2_c1 RM_c1 RY_c1 B_c1 ⊢
    have cc3_0 := RL_c1.out.cell 0
    simp only [List.getElem?_cons_zero] at cc3_0
    have cc4_0 := R1_c1.out.cell 0
    have cc4_1 := R1_c1.out.cell 1
    have cc4_2 := R1_c1.out.cell 2
    have cc4_3 := R1_c1.out.cell 3
    have cc4_4 := R1_c1.out.cell 4
    simp only [List.getElem?_cons_zero, List.getElem?_cons_succ] at cc4_0 cc4_1 cc4_2 cc4_3 cc4_4
    have cc5_0 := R2_c1.out.cell 0
    have cc5_1 := R2_c1.out.cell 1
    have cc5_2 := R2_c1.out.cell 2
    have cc5_3 := R2_c1.out.cell 3
    have cc5_4 := R2_c1.out.cell 4
    simp only [List.getElem?_cons_zero, List.getElem?_cons_succ] at cc5_0 cc5_1 cc5_2 cc5_3 cc5_4
    have cc6_0 := RM_c1.out.cell 0
    simp only [List.getElem?_cons_zero] at cc6_0
    have cc7_0 := RY_c1.out.cell 0
    have cc7_1 := RY_c1.out.cell 1
    have cc7_2 := RY_c1.out.cell 2
    have cc7_3 := RY_c1.out.cell 3
    simp only [List.getElem?_cons_zero, List.getElem?_cons_succ] at cc7_0 cc7_1 cc7_2 cc7_3
    go_wp2_with fail
    refine (HL1.out _).mono ?_
    rintro e Wc2 ⟨rfl, hb⟩
    clear cc3_0 cc4_0 cc4_1 cc4_2 cc4_3 cc4_4 cc5_0 cc5_1 cc5_2 cc5_3 cc5_4 cc6_0 cc7_0 cc7_1 cc7_2 cc7_3
    have RL_c8 := Lib.hid (RL_c1.out.below hb RL_c1.out.lt)
    have R1_c8 := Lib.hid (R1_c1.out.below hb R1_c1.out.lt)
    have R2_c8 := Lib.hid (R2_c1.out.below hb R2_c1.out.lt)
    have RM_c8 := Lib.hid (RM_c1.out.below hb RM_c1.out.lt)
    have RY_c8 := Lib.hid (RY_c1.out.below hb RY_c1.out.lt)
    have B_c8 := Lib.hid (B_c1.out.trans (hb.mono B_c1.out.size))
    clear hb RL_c1 R1_c1 R2_c1 RM_c1 RY_c1 B_c1
    have cc9_0 := RL_c8.out.cell 0
    simp only [List.getElem?_cons_zero] at cc9_0
    have cc10_0 := R1_c8.out.cell 0
    have cc10_1 := R1_c8.out.cell 1
    have cc10_2 := R1_c8.out.cell 2
    have cc10_3 := R1_c8.out.cell 3
    have cc10_4 := R1_c8.out.cell 4
    simp only [List.getElem?_cons_zero, List.getElem?_cons_succ] at cc10_0 cc10_1 cc10_2 cc10_3 cc10_4
    have cc11_0 := R2_c8.out.cell 0
    have cc11_1 := R2_c8.out.cell 1
    have cc11_2 := R2_c8.out.cell 2
    have cc11_3 := R2_c8.out.cell 3
    have cc11_4 := R2_c8.out.cell 4
    simp only [List.getElem?_cons_zero, List.getElem?_cons_succ] at cc11_0 cc11_1 cc11_2 cc11_3 cc11_4
    have cc12_0 := RM_c8.out.cell 0
    simp only [List.getElem?_cons_zero] at cc12_0
    have cc13_0 := RY_c8.out.cell 0
    have cc13_1 := RY_c8.out.cell 1
    have cc13_2 := RY_c8.out.cell 2
    have cc13_3 := RY_c8.out.cell 3
    simp only [List.getElem?_cons_zero, List.getElem?_cons_succ] at cc13_0 cc13_1 cc13_2 cc13_3
    go_wp2
    go_ret
    exact ⟨by rw [HE.out]; rfl, B_c8.out⟩
  cases b
  case true =>
    have HE : Hid (gr = g2) := Lib.hid (HG.out false (by rw [if_neg hA, if_neg hB]; rfl))
    clear HG hA hB
    go_enter Try.func48, Try.ntmps48
    go_upto_region 1 with fail
    have hltd1_0 : gl < w.heap.size := RL_.out.lt
    have hltd1_1 : g1 < w.heap.size := R1_.out.lt
    have hltd1_2 : g2 < w.heap.size := R2_.out.lt
    have hltd1_3 : gm < w.heap.size := RM_.out.lt
    have RL_d1 := Lib.hid (RL_.out.alloc (.cells #[.int .i64 z0, .int .i64 z1, .int .i64 t0, .int .i64 t1] 23))
    have R1_d1 := Lib.hid (R1_.out.alloc (.cells #[.int .i64 z0, .int .i64 z1, .int .i64 t0, .int .i64 t1] 23))
    have R2_d1 := Lib.hid (R2_.out.alloc (.cells #[.int .i64 z0, .int .i64 z1, .int .i64 t0, .int .i64 t1] 23))
    have RM_d1 := Lib.hid (RM_.out.alloc (.cells #[.int .i64 z0, .int .i64 z1, .int .i64 t0, .int .i64 t1] 23))
    have RY_d1 := Lib.hid (row_last w (w.heap.size) 23 [.int .i64 z0, .int .i64 z1, .int .i64 t0, .int .i64 t1] (by simp))
    have B_d1 := Lib.hid ((Below.refl w.heap.size w).alloc (Nat.le_refl _) (.cells #[.int .i64 z0, .int .i64 z1, .int .i64 t0, .int .i64 t1] 23))
    clear RL_ R1_ R2_ RM_
    generalize (w.alloc (.cells #[.int .i64 z0, .int .i64 z1, .int .i64 t0, .int .i64 t1] 23)) = Vd1 at RL_d1 R1_d1 R2_d1 RM_d1 RY_d1 B_d1 ⊢
    have cd3_0 := RL_d1.out.cell 0
    simp only [List.getElem?_cons_zero] at cd3_0
    have cd4_0 := R1_d1.out.cell 0
    have cd4_1 := R1_d1.out.cell 1
    have cd4_2 := R1_d1.out.cell 2
    have cd4_3 := R1_d1.out.cell 3
    have cd4_4 := R1_d1.out.cell 4
    simp only [List.getElem?_cons_zero, List.getElem?_cons_succ] at cd4_0 cd4_1 cd4_2 cd4_3 cd4_4
    have cd5_0 := R2_d1.out.cell 0
    have cd5_1 := R2_d1.out.cell 1
    have cd5_2 := R2_d1.out.cell 2
    have cd5_3 := R2_d1.out.cell 3
    have cd5_4 := R2_d1.out.cell 4
    simp only [List.getElem?_cons_zero, List.getElem?_cons_succ] at cd5_0 cd5_1 cd5_2 cd5_3 cd5_4
    have cd6_0 := RM_d1.out.cell 0
    simp only [List.getElem?_cons_zero] at cd6_0
    have cd7_0 := RY_d1.out.cell 0
    have cd7_1 := RY_d1.out.cell 1
    have cd7_2 := RY_d1.out.cell 2
    have cd7_3 := RY_d1.out.cell 3
    simp only [List.getElem?_cons_zero, List.getElem?_cons_succ] at cd7_0 cd7_1 cd7_2 cd7_3
    go_wp2_with fail
    refine (HL1.out _).mono ?_
    rintro e Wd2 ⟨rfl, hb⟩
    clear cd3_0 cd4_0 cd4_1 cd4_2 cd4_3 cd4_4 cd5_0 cd5_1 cd5_2 cd5_3 cd5_4 cd6_0 cd7_0 cd7_1 cd7_2 cd7_3
    have RL_d8 := Lib.hid (RL_d1.out.below hb RL_d1.out.lt)
    have R1_d8 := Lib.hid (R1_d1.out.below hb R1_d1.out.lt)
    have R2_d8 := Lib.hid (R2_d1.out.below hb R2_d1.out.lt)
    have RM_d8 := Lib.hid (RM_d1.out.below hb RM_d1.out.lt)
    have RY_d8 := Lib.hid (RY_d1.out.below hb RY_d1.out.lt)
    have B_d8 := Lib.hid (B_d1.out.trans (hb.mono B_d1.out.size))
    clear hb RL_d1 R1_d1 R2_d1 RM_d1 RY_d1 B_d1
    have cd10_0 := RL_d8.out.cell 0
    simp only [List.getElem?_cons_zero] at cd10_0
    have cd11_0 := R1_d8.out.cell 0
    have cd11_1 := R1_d8.out.cell 1
    have cd11_2 := R1_d8.out.cell 2
    have cd11_3 := R1_d8.out.cell 3
    have cd11_4 := R1_d8.out.cell 4
    simp only [List.getElem?_cons_zero, List.getElem?_cons_succ] at cd11_0 cd11_1 cd11_2 cd11_3 cd11_4
    have cd12_0 := R2_d8.out.cell 0
    have cd12_1 := R2_d8.out.cell 1
    have cd12_2 := R2_d8.out.cell 2
    have cd12_3 := R2_d8.out.cell 3
    have cd12_4 := R2_d8.out.cell 4
    simp only [List.getElem?_cons_zero, List.getElem?_cons_succ] at cd12_0 cd12_1 cd12_2 cd12_3 cd12_4
    have cd13_0 := RM_d8.out.cell 0
    simp only [List.getElem?_cons_zero] at cd13_0
    have cd14_0 := RY_d8.out.cell 0
    have cd14_1 := RY_d8.out.cell 1
    have cd14_2 := RY_d8.out.cell 2
    have cd14_3 := RY_d8.out.cell 3
    simp only [List.getElem?_cons_zero, List.getElem?_cons_succ] at cd14_0 cd14_1 cd14_2 cd14_3
    go_wp2_with fail
    refine (HL2.out _).mono ?_
    rintro e Wd9 ⟨rfl, hb⟩
    clear cd10_0 cd11_0 cd11_1 cd11_2 cd11_3 cd11_4 cd12_0 cd12_1 cd12_2 cd12_3 cd12_4 cd13_0 cd14_0 cd14_1 cd14_2 cd14_3
    have RL_d15 := Lib.hid (RL_d8.out.below hb RL_d8.out.lt)
    have R1_d15 := Lib.hid (R1_d8.out.below hb R1_d8.out.lt)
    have R2_d15 := Lib.hid (R2_d8.out.below hb R2_d8.out.lt)
    have RM_d15 := Lib.hid (RM_d8.out.below hb RM_d8.out.lt)
    have RY_d15 := Lib.hid (RY_d8.out.below hb RY_d8.out.lt)
    have B_d15 := Lib.hid (B_d8.out.trans (hb.mono B_d8.out.size))
    clear hb RL_d8 R1_d8 R2_d8 RM_d8 RY_d8 B_d8
    have cd16_0 := RL_d15.out.cell 0
    simp only [List.getElem?_cons_zero] at cd16_0
    have cd17_0 := R1_d15.out.cell 0
    have cd17_1 := R1_d15.out.cell 1
    have cd17_2 := R1_d15.out.cell 2
    have cd17_3 := R1_d15.out.cell 3
    have cd17_4 := R1_d15.out.cell 4
    simp only [List.getElem?_cons_zero, List.getElem?_cons_succ] at cd17_0 cd17_1 cd17_2 cd17_3 cd17_4
    have cd18_0 := R2_d15.out.cell 0
    have cd18_1 := R2_d15.out.cell 1
    have cd18_2 := R2_d15.out.cell 2
    have cd18_3 := R2_d15.out.cell 3
    have cd18_4 := R2_d15.out.cell 4
    simp only [List.getElem?_cons_zero, List.getElem?_cons_succ] at cd18_0 cd18_1 cd18_2 cd18_3 cd18_4
    have cd19_0 := RM_d15.out.cell 0
    simp only [List.getElem?_cons_zero] at cd19_0
    have cd20_0 := RY_d15.out.cell 0
    have cd20_1 := RY_d15.out.cell 1
    have cd20_2 := RY_d15.out.cell 2
    have cd20_3 := RY_d15.out.cell 3
    simp only [List.getElem?_cons_zero, List.getElem?_cons_succ] at cd20_0 cd20_1 cd20_2 cd20_3
    go_wp2
    go_ret
    exact ⟨by rw [HE.out]; rfl, B_d15.out⟩
  by_cases hC : nr < nl
  · have hC' : (nr : Int) < (nl : Int) := by omega
    have HE : Hid (gr = g2) := Lib.hid (HG.out false (by rw [if_neg hA, if_neg hB]; simp; omega))
    clear HG hA hB hC
    go_enter Try.func48, Try.ntmps48
    go_upto_region 1 with fail
    have hlte1_0 : gl < w.heap.size := RL_.out.lt
    have hlte1_1 : g1 < w.heap.size := R1_.out.lt
    have hlte1_2 : g2 < w.heap.size := R2_.out.lt
    have hlte1_3 : gm < w.heap.size := RM_.out.lt
    have RL_e1 := Lib.hid (RL_.out.alloc (.cells #[.int .i64 z0, .int .i64 z1, .int .i64 t0, .int .i64 t1] 23))
    have R1_e1 := Lib.hid (R1_.out.alloc (.cells #[.int .i64 z0, .int .i64 z1, .int .i64 t0, .int .i64 t1] 23))
    have R2_e1 := Lib.hid (R2_.out.alloc (.cells #[.int .i64 z0, .int .i64 z1, .int .i64 t0, .int .i64 t1] 23))
    have RM_e1 := Lib.hid (RM_.out.alloc (.cells #[.int .i64 z0, .int .i64 z1, .int .i64 t0, .int .i64 t1] 23))
    have RY_e1 := Lib.hid (row_last w (w.heap.size) 23 [.int .i64 z0, .int .i64 z1, .int .i64 t0, .int .i64 t1] (by simp))
    have B_e1 := Lib.hid ((Below.refl w.heap.size w).alloc (Nat.le_refl _) (.cells #[.int .i64 z0, .int .i64 z1, .int .i64 t0, .int .i64 t1] 23))
    clear RL_ R1_ R2_ RM_
    generalize (w.alloc (.cells #[.int .i64 z0, .int .i64 z1, .int .i64 t0, .int .i64 t1] 23)) = Ve1 at RL_e1 R1_e1 R2_e1 RM_e1 RY_e1 B_e1 ⊢
    have ce3_0 := RL_e1.out.cell 0
    simp only [List.getElem?_cons_zero] at ce3_0
    have ce4_0 := R1_e1.out.cell 0
    have ce4_1 := R1_e1.out.cell 1
    have ce4_2 := R1_e1.out.cell 2
    have ce4_3 := R1_e1.out.cell 3
    have ce4_4 := R1_e1.out.cell 4
    simp only [List.getElem?_cons_zero, List.getElem?_cons_succ] at ce4_0 ce4_1 ce4_2 ce4_3 ce4_4
    have ce5_0 := R2_e1.out.cell 0
    have ce5_1 := R2_e1.out.cell 1
    have ce5_2 := R2_e1.out.cell 2
    have ce5_3 := R2_e1.out.cell 3
    have ce5_4 := R2_e1.out.cell 4
    simp only [List.getElem?_cons_zero, List.getElem?_cons_succ] at ce5_0 ce5_1 ce5_2 ce5_3 ce5_4
    have ce6_0 := RM_e1.out.cell 0
    simp only [List.getElem?_cons_zero] at ce6_0
    have ce7_0 := RY_e1.out.cell 0
    have ce7_1 := RY_e1.out.cell 1
    have ce7_2 := RY_e1.out.cell 2
    have ce7_3 := RY_e1.out.cell 3
    simp only [List.getElem?_cons_zero, List.getElem?_cons_succ] at ce7_0 ce7_1 ce7_2 ce7_3
    go_wp2_with fail
    refine (HL1.out _).mono ?_
    rintro e We2 ⟨rfl, hb⟩
    clear ce3_0 ce4_0 ce4_1 ce4_2 ce4_3 ce4_4 ce5_0 ce5_1 ce5_2 ce5_3 ce5_4 ce6_0 ce7_0 ce7_1 ce7_2 ce7_3
    have RL_e8 := Lib.hid (RL_e1.out.below hb RL_e1.out.lt)
    have R1_e8 := Lib.hid (R1_e1.out.below hb R1_e1.out.lt)
    have R2_e8 := Lib.hid (R2_e1.out.below hb R2_e1.out.lt)
    have RM_e8 := Lib.hid (RM_e1.out.below hb RM_e1.out.lt)
    have RY_e8 := Lib.hid (RY_e1.out.below hb RY_e1.out.lt)
    have B_e8 := Lib.hid (B_e1.out.trans (hb.mono B_e1.out.size))
    clear hb RL_e1 R1_e1 R2_e1 RM_e1 RY_e1 B_e1
    have ce10_0 := RL_e8.out.cell 0
    simp only [List.getElem?_cons_zero] at ce10_0
    have ce11_0 := R1_e8.out.cell 0
    have ce11_1 := R1_e8.out.cell 1
    have ce11_2 := R1_e8.out.cell 2
    have ce11_3 := R1_e8.out.cell 3
    have ce11_4 := R1_e8.out.cell 4
    simp only [List.getElem?_cons_zero, List.getElem?_cons_succ] at ce11_0 ce11_1 ce11_2 ce11_3 ce11_4
    have ce12_0 := R2_e8.out.cell 0
    have ce12_1 := R2_e8.out.cell 1
    have ce12_2 := R2_e8.out.cell 2
    have ce12_3 := R2_e8.out.cell 3
    have ce12_4 := R2_e8.out.cell 4
    simp only [List.getElem?_cons_zero, List.getElem?_cons_succ] at ce12_0 ce12_1 ce12_2 ce12_3 ce12_4
    have ce13_0 := RM_e8.out.cell 0
    simp only [List.getElem?_cons_zero] at ce13_0
    have ce14_0 := RY_e8.out.cell 0
    have ce14_1 := RY_e8.out.cell 1
    have ce14_2 := RY_e8.out.cell 2
    have ce14_3 := RY_e8.out.cell 3
    simp only [List.getElem?_cons_zero, List.getElem?_cons_succ] at ce14_0 ce14_1 ce14_2 ce14_3
    go_wp2_with fail
    refine (HL2.out _).mono ?_
    rintro e We9 ⟨rfl, hb⟩
    clear ce10_0 ce11_0 ce11_1 ce11_2 ce11_3 ce11_4 ce12_0 ce12_1 ce12_2 ce12_3 ce12_4 ce13_0 ce14_0 ce14_1 ce14_2 ce14_3
    have RL_e15 := Lib.hid (RL_e8.out.below hb RL_e8.out.lt)
    have R1_e15 := Lib.hid (R1_e8.out.below hb R1_e8.out.lt)
    have R2_e15 := Lib.hid (R2_e8.out.below hb R2_e8.out.lt)
    have RM_e15 := Lib.hid (RM_e8.out.below hb RM_e8.out.lt)
    have RY_e15 := Lib.hid (RY_e8.out.below hb RY_e8.out.lt)
    have B_e15 := Lib.hid (B_e8.out.trans (hb.mono B_e8.out.size))
    clear hb RL_e8 R1_e8 R2_e8 RM_e8 RY_e8 B_e8
    have ce16_0 := RL_e15.out.cell 0
    simp only [List.getElem?_cons_zero] at ce16_0
    have ce17_0 := R1_e15.out.cell 0
    have ce17_1 := R1_e15.out.cell 1
    have ce17_2 := R1_e15.out.cell 2
    have ce17_3 := R1_e15.out.cell 3
    have ce17_4 := R1_e15.out.cell 4
    simp only [List.getElem?_cons_zero, List.getElem?_cons_succ] at ce17_0 ce17_1 ce17_2 ce17_3 ce17_4
    have ce18_0 := R2_e15.out.cell 0
    have ce18_1 := R2_e15.out.cell 1
    have ce18_2 := R2_e15.out.cell 2
    have ce18_3 := R2_e15.out.cell 3
    have ce18_4 := R2_e15.out.cell 4
    simp only [List.getElem?_cons_zero, List.getElem?_cons_succ] at ce18_0 ce18_1 ce18_2 ce18_3 ce18_4
    have ce19_0 := RM_e15.out.cell 0
    simp only [List.getElem?_cons_zero] at ce19_0
    have ce20_0 := RY_e15.out.cell 0
    have ce20_1 := RY_e15.out.cell 1
    have ce20_2 := RY_e15.out.cell 2
    have ce20_3 := RY_e15.out.cell 3
    simp only [List.getElem?_cons_zero, List.getElem?_cons_succ] at ce20_0 ce20_1 ce20_2 ce20_3
    go_wp2
    go_ret
    exact ⟨by rw [HE.out]; rfl, B_e15.out⟩
  · have hC' : ¬ (nr : Int) < (nl : Int) := by omega
    have HE : Hid (gr = g1) := Lib.hid (HG.out true (by rw [if_neg hA, if_neg hB]; simp; omega))
    clear HG hA hB hC
    go_enter Try.func48, Try.ntmps48
    go_upto_region 1 with fail
    have hltf1_0 : gl < w.heap.size := RL_.out.lt
    have hltf1_1 : g1 < w.heap.size := R1_.out.lt
    have hltf1_2 : g2 < w.heap.size := R2_.out.lt
    have hltf1_3 : gm < w.heap.size := RM_.out.lt
    have RL_f1 := Lib.hid (RL_.out.alloc (.cells #[.int .i64 z0, .int .i64 z1, .int .i64 t0, .int .i64 t1] 23))
    have R1_f1 := Lib.hid (R1_.out.alloc (.cells #[.int .i64 z0, .int .i64 z1, .int .i64 t0, .int .i64 t1] 23))
    have R2_f1 := Lib.hid (R2_.out.alloc (.cells #[.int .i64 z0, .int .i64 z1, .int .i64 t0, .int .i64 t1] 23))
    have RM_f1 := Lib.hid (RM_.out.alloc (.cells #[.int .i64 z0, .int .i64 z1, .int .i64 t0, .int .i64 t1] 23))
    have RY_f1 := Lib.hid (row_last w (w.heap.size) 23 [.int .i64 z0, .int .i64 z1, .int .i64 t0, .int .i64 t1] (by simp))
    have B_f1 := Lib.hid ((Below.refl w.heap.size w).alloc (Nat.le_refl _) (.cells #[.int .i64 z0, .int .i64 z1, .int .i64 t0, .int .i64 t1] 23))
    clear RL_ R1_ R2_ RM_
    generalize (w.alloc (.cells #[.int .i64 z0, .int .i64 z1, .int .i64 t0, .int .i64 t1] 23)) = Vf1 at RL_f1 R1_f1 R2_f1 RM_f1 RY_f1 B_f1 ⊢
    have cf3_0 := RL_f1.out.cell 0
    simp only [List.getElem?_cons_zero] at cf3_0
    have cf4_0 := R1_f1.out.cell 0
    have cf4_1 := R1_f1.out.cell 1
    have cf4_2 := R1_f1.out.cell 2
    have cf4_3 := R1_f1.out.cell 3
    have cf4_4 := R1_f1.out.cell 4
    simp only [List.getElem?_cons_zero, List.getElem?_cons_succ] at cf4_0 cf4_1 cf4_2 cf4_3 cf4_4
    have cf5_0 := R2_f1.out.cell 0
    have cf5_1 := R2_f1.out.cell 1
    have cf5_2 := R2_f1.out.cell 2
    have cf5_3 := R2_f1.out.cell 3
    have cf5_4 := R2_f1.out.cell 4
    simp only [List.getElem?_cons_zero, List.getElem?_cons_succ] at cf5_0 cf5_1 cf5_2 cf5_3 cf5_4
    have cf6_0 := RM_f1.out.cell 0
    simp only [List.getElem?_cons_zero] at cf6_0
    have cf7_0 := RY_f1.out.cell 0
    have cf7_1 := RY_f1.out.cell 1
    have cf7_2 := RY_f1.out.cell 2
    have cf7_3 := RY_f1.out.cell 3
    simp only [List.getElem?_cons_zero, List.getElem?_cons_succ] at cf7_0 cf7_1 cf7_2 cf7_3
    go_wp2_with fail
    refine (HL1.out _).mono ?_
    rintro e Wf2 ⟨rfl, hb⟩
    clear cf3_0 cf4_0 cf4_1 cf4_2 cf4_3 cf4_4 cf5_0 cf5_1 cf5_2 cf5_3 cf5_4 cf6_0 cf7_0 cf7_1 cf7_2 cf7_3
    have RL_f8 := Lib.hid (RL_f1.out.below hb RL_f1.out.lt)
    have R1_f8 := Lib.hid (R1_f1.out.below hb R1_f1.out.lt)
    have R2_f8 := Lib.hid (R2_f1.out.below hb R2_f1.out.lt)
    have RM_f8 := Lib.hid (RM_f1.out.below hb RM_f1.out.lt)
    have RY_f8 := Lib.hid (RY_f1.out.below hb RY_f1.out.lt)
    have B_f8 := Lib.hid (B_f1.out.trans (hb.mono B_f1.out.size))
    clear hb RL_f1 R1_f1 R2_f1 RM_f1 RY_f1 B_f1
    have cf10_0 := RL_f8.out.cell 0
    simp only [List.getElem?_cons_zero] at cf10_0
    have cf11_0 := R1_f8.out.cell 0
    have cf11_1 := R1_f8.out.cell 1
    have cf11_2 := R1_f8.out.cell 2
    have cf11_3 := R1_f8.out.cell 3
    have cf11_4 := R1_f8.out.cell 4
    simp only [List.getElem?_cons_zero, List.getElem?_cons_succ] at cf11_0 cf11_1 cf11_2 cf11_3 cf11_4
    have cf12_0 := R2_f8.out.cell 0
    have cf12_1 := R2_f8.out.cell 1
    have cf12_2 := R2_f8.out.cell 2
    have cf12_3 := R2_f8.out.cell 3
    have cf12_4 := R2_f8.out.cell 4
    simp only [List.getElem?_cons_zero, List.getElem?_cons_succ] at cf12_0 cf12_1 cf12_2 cf12_3 cf12_4
    have cf13_0 := RM_f8.out.cell 0
    simp only [List.getElem?_cons_zero] at cf13_0
    have cf14_0 := RY_f8.out.cell 0
    have cf14_1 := RY_f8.out.cell 1
    have cf14_2 := RY_f8.out.cell 2
    have cf14_3 := RY_f8.out.cell 3
    simp only [List.getElem?_cons_zero, List.getElem?_cons_succ] at cf14_0 cf14_1 cf14_2 cf14_3
    go_wp2_with fail
    refine (HL2.out _).mono ?_
    rintro e Wf9 ⟨rfl, hb⟩
    clear cf10_0 cf11_0 cf11_1 cf11_2 cf11_3 cf11_4 cf12_0 cf12_1 cf12_2 cf12_3 cf12_4 cf13_0 cf14_0 cf14_1 cf14_2 cf14_3
    have RL_f15 := Lib.hid (RL_f8.out.below hb RL_f8.out.lt)
    have R1_f15 := Lib.hid (R1_f8.out.below hb R1_f8.out.lt)
    have R2_f15 := Lib.hid (R2_f8.out.below hb R2_f8.out.lt)
    have RM_f15 := Lib.hid (RM_f8.out.below hb RM_f8.out.lt)
    have RY_f15 := Lib.hid (RY_f8.out.below hb RY_f8.out.lt)
    have B_f15 := Lib.hid (B_f8.out.trans (hb.mono B_f8.out.size))
    clear hb RL_f8 R1_f8 R2_f8 RM_f8 RY_f8 B_f8
    have cf16_0 := RL_f15.out.cell 0
    simp only [List.getElem?_cons_zero] at cf16_0
    have cf17_0 := R1_f15.out.cell 0
    have cf17_1 := R1_f15.out.cell 1
    have cf17_2 := R1_f15.out.cell 2
    have cf17_3 := R1_f15.out.cell 3
    have cf17_4 := R1_f15.out.cell 4
    simp only [List.getElem?_cons_zero, List.getElem?_cons_succ] at cf17_0 cf17_1 cf17_2 cf17_3 cf17_4
    have cf18_0 := R2_f15.out.cell 0
    have cf18_1 := R2_f15.out.cell 1
    have cf18_2 := R2_f15.out.cell 2
    have cf18_3 := R2_f15.out.cell 3
    have cf18_4 := R2_f15.out.cell 4
    simp only [List.getElem?_cons_zero, List.getElem?_cons_succ] at cf18_0 cf18_1 cf18_2 cf18_3 cf18_4
    have cf19_0 := RM_f15.out.cell 0
    simp only [List.getElem?_cons_zero] at cf19_0
    have cf20_0 := RY_f15.out.cell 0
    have cf20_1 := RY_f15.out.cell 1
    have cf20_2 := RY_f15.out.cell 2
    have cf20_3 := RY_f15.out.cell 3
    simp only [List.getElem?_cons_zero, List.getElem?_cons_succ] at cf20_0 cf20_1 cf20_2 cf20_3
    go_wp2
    go_ret
    exact ⟨by rw [HE.out]; rfl, B_f15.out⟩
end Go.Proofs.Ytbmfijcckdkmdaa.Ky
