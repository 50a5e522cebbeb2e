/-
  Heap: tuples: which may be, their bytes.
-/
import Derived.Test.YtnojkoefdigcnaaKy14
import Derived.Test.YtnojkoefdigcnaaOct6
import Derived.Test.YtnojkoefdigcnaaRecW
import Derived.LoopTactic
import Derived.Deep.RegionHeld
import Derived.Deep.Cut
import Derived.WalkLawsBesides
namespace Go.Proofs.Ytnojkoefdigcnaa.Hp
set_option maxRecDepth 100000
open Go.RowKit Go.Proofs.Ytnojkoefdigcnaa.Wd Go.Proofs.Ytnojkoefdigcnaa.Wi Go.Proofs.Ytnojkoefdigcnaa.Ky Go.Proofs.Ytnojkoefdigcnaa.Oct Go.Proofs.Ytnojkoefdigcnaa.Rec Go.Proofs.Ytnojkoefdigcnaa.Lift

/-- a tuple as a value -/
abbrev TV (r a b : Nat) (x0 x1 y0 y1 v : Int) : Value := .agg #[.int .u32 r, .int .u64 a, .int .u64 b, .int .i64 x0, .int .i64 x1, .int .i64 y0, .int .i64 y1, .int .i64 v]
/-- may it be? -/
def okT (r a b : Nat) (x0 x1 y0 y1 : Int) : Bool := decide (1 ≤ r) && (decide (1 ≤ a) && (decide (a ≤ 4294967295) && (decide (b ≤ 4294967295) && boxB x0 x1 y0 y1)))
theorem okT_iff (r a b : Nat) (x0 x1 y0 y1 : Int) : okT r a b x0 x1 y0 y1 = true ↔ 1 ≤ r ∧ 1 ≤ a ∧ a ≤ 4294967295 ∧ b ≤ 4294967295 ∧ x0 ≤ x1 ∧ y0 ≤ y1 := by
  simp [okT, boxB]

set_option maxHeartbeats 4000000 in
theorem Check_any (r a b : Nat) (x0 x1 y0 y1 v : Int) (w : World) : Calls Try.prog 10 #[TV r a b x0 x1 y0 y1 v] w fun e w' => e = .returned (.int .i64 (if okT r a b x0 x1 y0 y1 then 0 else 200)) ∧ Below w.heap.size w w' := by
  by_cases h1 : (r : Int) = 0
  · rw [show okT r a b x0 x1 y0 y1 = false from by simp [okT] <;> omega]
    go_enter Try.func10, Try.ntmps10
    go_wp2
    go_ret
    exact ⟨rfl, (Below.refl _ _).alloc (Nat.le_refl _) _⟩
  by_cases h2 : (a : Int) = 0
  · rw [show okT r a b x0 x1 y0 y1 = false from by simp [okT] <;> omega]
    go_enter Try.func10, Try.ntmps10
    go_wp2
    go_ret
    exact ⟨rfl, (Below.refl _ _).alloc (Nat.le_refl _) _⟩
  by_cases h3 : 4294967295 < (a : Int)
  · rw [show okT r a b x0 x1 y0 y1 = false from by simp [okT] <;> omega]
    go_enter Try.func10, Try.ntmps10
    go_wp2
    go_ret
    exact ⟨rfl, (Below.refl _ _).alloc (Nat.le_refl _) _⟩
  by_cases h4 : 4294967295 < (b : Int)
  · rw [show okT r a b x0 x1 y0 y1 = false from by simp [okT] <;> omega]
    go_enter Try.func10, Try.ntmps10
    go_wp2
    go_ret
    exact ⟨rfl, (Below.refl _ _).alloc (Nat.le_refl _) _⟩
  have g1 : 1 ≤ (r : Int) := by omega
  have g2 : 1 ≤ (a : Int) := by omega
  have g3 : (a : Int) ≤ 4294967295 := by omega
  have g4 : (b : Int) ≤ 4294967295 := by omega
  have HE : okT r a b x0 x1 y0 y1 = boxB x0 x1 y0 y1 := by
    unfold okT
    rw [decide_eq_true (by omega : 1 ≤ r), decide_eq_true (by omega : 1 ≤ a), decide_eq_true (by omega : a ≤ 4294967295), decide_eq_true (by omega : b ≤ 4294967295)]
    simp
  rw [HE]
  clear HE
  have HB := Lib.hid (Check_box x0 x1 y0 y1)
  rcases hb : boxB x0 x1 y0 y1 with _ | _
  · rw [hb] at HB
    clear hb
    go_enter Try.func10, Try.ntmps10
    go_upto_region 1 with fail
    have RT_f1 := Lib.hid (row_last w (w.heap.size) 30 [.int .u32 r, .int .u64 a, .int .u64 b, .int .i64 x0, .int .i64 x1, .int .i64 y0, .int .i64 y1, .int .i64 v] (by simp))
    have B_f1 := Lib.hid ((Below.refl w.heap.size w).alloc (Nat.le_refl _) (.cells #[.int .u32 r, .int .u64 a, .int .u64 b, .int .i64 x0, .int .i64 x1, .int .i64 y0, .int .i64 y1, .int .i64 v] 30))
    generalize (w.alloc (.cells #[.int .u32 r, .int .u64 a, .int .u64 b, .int .i64 x0, .int .i64 x1, .int .i64 y0, .int .i64 y1, .int .i64 v] 30)) = Vf1 at RT_f1 B_f1 ⊢
    have cf2_0 := RT_f1.out.cell 0
    have cf2_1 := RT_f1.out.cell 1
    have cf2_2 := RT_f1.out.cell 2
    have cf2_3 := RT_f1.out.cell 3
    have cf2_4 := RT_f1.out.cell 4
    have cf2_5 := RT_f1.out.cell 5
    have cf2_6 := RT_f1.out.cell 6
    have cf2_7 := RT_f1.out.cell 7
    simp only [List.getElem?_cons_zero, List.getElem?_cons_succ] at cf2_0 cf2_1 cf2_2 cf2_3 cf2_4 cf2_5 cf2_6 cf2_7
    go_wp2_with fail
    refine (HB.out _).mono ?_
    rintro e Wf3 ⟨rfl, hb⟩
    clear cf2_0 cf2_1 cf2_2 cf2_3 cf2_4 cf2_5 cf2_6 cf2_7
    have RT_f4 := Lib.hid (RT_f1.out.below hb RT_f1.out.lt)
    have B_f4 := Lib.hid (B_f1.out.trans (hb.mono B_f1.out.size))
    clear hb RT_f1 B_f1
    go_wp2
    go_ret
    exact ⟨rfl, B_f4.out⟩
  · rw [hb] at HB
    clear hb
    go_enter Try.func10, Try.ntmps10
    go_upto_region 1 with fail
    have RT_t1 := Lib.hid (row_last w (w.heap.size) 30 [.int .u32 r, .int .u64 a, .int .u64 b, .int .i64 x0, .int .i64 x1, .int .i64 y0, .int .i64 y1, .int .i64 v] (by simp))
    have B_t1 := Lib.hid ((Below.refl w.heap.size w).alloc (Nat.le_refl _) (.cells #[.int .u32 r, .int .u64 a, .int .u64 b, .int .i64 x0, .int .i64 x1, .int .i64 y0, .int .i64 y1, .int .i64 v] 30))
    generalize (w.alloc (.cells #[.int .u32 r, .int .u64 a, .int .u64 b, .int .i64 x0, .int .i64 x1, .int .i64 y0, .int .i64 y1, .int .i64 v] 30)) = Vt1 at RT_t1 B_t1 ⊢
    have ct2_0 := RT_t1.out.cell 0
    have ct2_1 := RT_t1.out.cell 1
    have ct2_2 := RT_t1.out.cell 2
    have ct2_3 := RT_t1.out.cell 3
    have ct2_4 := RT_t1.out.cell 4
    have ct2_5 := RT_t1.out.cell 5
    have ct2_6 := RT_t1.out.cell 6
    have ct2_7 := RT_t1.out.cell 7
    simp only [List.getElem?_cons_zero, List.getElem?_cons_succ] at ct2_0 ct2_1 ct2_2 ct2_3 ct2_4 ct2_5 ct2_6 ct2_7
    go_wp2_with fail
    refine (HB.out _).mono ?_
    rintro e Wt3 ⟨rfl, hb⟩
    clear ct2_0 ct2_1 ct2_2 ct2_3 ct2_4 ct2_5 ct2_6 ct2_7
    have RT_t4 := Lib.hid (RT_t1.out.below hb RT_t1.out.lt)
    have B_t4 := Lib.hid (B_t1.out.trans (hb.mono B_t1.out.size))
    clear hb RT_t1 B_t1
    go_wp2
    go_ret
    exact ⟨rfl, B_t4.out⟩

set_option maxHeartbeats 4000000 in
theorem Right_ref (r a b : Nat) (x0 x1 y0 y1 v : Int) (w : World) : Calls Try.prog 11 #[TV r a b x0 x1 y0 y1 v] w fun e w' => e = .returned (.bool (okT r a b x0 x1 y0 y1)) ∧ Below w.heap.size w w' := by
  by_cases h1 : (r : Int) = 0
  · rw [show okT r a b x0 x1 y0 y1 = false from by simp [okT] <;> omega]
    go_enter Try.func11, Try.ntmps11
    go_wp2
    go_ret
    exact ⟨rfl, (Below.refl _ _).alloc (Nat.le_refl _) _⟩
  by_cases h2 : (a : Int) = 0
  · rw [show okT r a b x0 x1 y0 y1 = false from by simp [okT] <;> omega]
    go_enter Try.func11, Try.ntmps11
    go_wp2
    go_ret
    exact ⟨rfl, (Below.refl _ _).alloc (Nat.le_refl _) _⟩
  by_cases h3 : 4294967295 < (a : Int)
  · rw [show okT r a b x0 x1 y0 y1 = false from by simp [okT] <;> omega]
    go_enter Try.func11, Try.ntmps11
    go_wp2
    go_ret
    exact ⟨rfl, (Below.refl _ _).alloc (Nat.le_refl _) _⟩
  by_cases h4 : 4294967295 < (b : Int)
  · rw [show okT r a b x0 x1 y0 y1 = false from by simp [okT] <;> omega]
    go_enter Try.func11, Try.ntmps11
    go_wp2
    go_ret
    exact ⟨rfl, (Below.refl _ _).alloc (Nat.le_refl _) _⟩
  have g1 : 1 ≤ (r : Int) := by omega
  have g2 : 1 ≤ (a : Int) := by omega
  have g3 : (a : Int) ≤ 4294967295 := by omega
  have g4 : (b : Int) ≤ 4294967295 := by omega
  have HE : okT r a b x0 x1 y0 y1 = boxB x0 x1 y0 y1 := by
    unfold okT
    rw [decide_eq_true (by omega : 1 ≤ r), decide_eq_true (by omega : 1 ≤ a), decide_eq_true (by omega : a ≤ 4294967295), decide_eq_true (by omega : b ≤ 4294967295)]
    simp
  rw [HE]
  clear HE
  have HB := Lib.hid (Box_ref x0 x1 y0 y1)
  rcases hb : boxB x0 x1 y0 y1 with _ | _
  · rw [hb] at HB
    clear hb
    go_enter Try.func11, Try.ntmps11
    go_upto_region 1 with fail
    have RT_f1 := Lib.hid (row_last w (w.heap.size) 30 [.int .u32 r, .int .u64 a, .int .u64 b, .int .i64 x0, .int .i64 x1, .int .i64 y0, .int .i64 y1, .int .i64 v] (by simp))
    have B_f1 := Lib.hid ((Below.refl w.heap.size w).alloc (Nat.le_refl _) (.cells #[.int .u32 r, .int .u64 a, .int .u64 b, .int .i64 x0, .int .i64 x1, .int .i64 y0, .int .i64 y1, .int .i64 v] 30))
    generalize (w.alloc (.cells #[.int .u32 r, .int .u64 a, .int .u64 b, .int .i64 x0, .int .i64 x1, .int .i64 y0, .int .i64 y1, .int .i64 v] 30)) = Vf1 at RT_f1 B_f1 ⊢
    have cf2_0 := RT_f1.out.cell 0
    have cf2_1 := RT_f1.out.cell 1
    have cf2_2 := RT_f1.out.cell 2
    have cf2_3 := RT_f1.out.cell 3
    have cf2_4 := RT_f1.out.cell 4
    have cf2_5 := RT_f1.out.cell 5
    have cf2_6 := RT_f1.out.cell 6
    have cf2_7 := RT_f1.out.cell 7
    simp only [List.getElem?_cons_zero, List.getElem?_cons_succ] at cf2_0 cf2_1 cf2_2 cf2_3 cf2_4 cf2_5 cf2_6 cf2_7
    go_wp2_with fail
    refine (HB.out _).mono ?_
    rintro e Wf3 ⟨rfl, hb⟩
    clear cf2_0 cf2_1 cf2_2 cf2_3 cf2_4 cf2_5 cf2_6 cf2_7
    have RT_f4 := Lib.hid (RT_f1.out.below hb RT_f1.out.lt)
    have B_f4 := Lib.hid (B_f1.out.trans (hb.mono B_f1.out.size))
    clear hb RT_f1 B_f1
    go_wp2
    go_ret
    exact ⟨rfl, B_f4.out⟩
  · rw [hb] at HB
    clear hb
    go_enter Try.func11, Try.ntmps11
    go_upto_region 1 with fail
    have RT_t1 := Lib.hid (row_last w (w.heap.size) 30 [.int .u32 r, .int .u64 a, .int .u64 b, .int .i64 x0, .int .i64 x1, .int .i64 y0, .int .i64 y1, .int .i64 v] (by simp))
    have B_t1 := Lib.hid ((Below.refl w.heap.size w).alloc (Nat.le_refl _) (.cells #[.int .u32 r, .int .u64 a, .int .u64 b, .int .i64 x0, .int .i64 x1, .int .i64 y0, .int .i64 y1, .int .i64 v] 30))
    generalize (w.alloc (.cells #[.int .u32 r, .int .u64 a, .int .u64 b, .int .i64 x0, .int .i64 x1, .int .i64 y0, .int .i64 y1, .int .i64 v] 30)) = Vt1 at RT_t1 B_t1 ⊢
    have ct2_0 := RT_t1.out.cell 0
    have ct2_1 := RT_t1.out.cell 1
    have ct2_2 := RT_t1.out.cell 2
    have ct2_3 := RT_t1.out.cell 3
    have ct2_4 := RT_t1.out.cell 4
    have ct2_5 := RT_t1.out.cell 5
    have ct2_6 := RT_t1.out.cell 6
    have ct2_7 := RT_t1.out.cell 7
    simp only [List.getElem?_cons_zero, List.getElem?_cons_succ] at ct2_0 ct2_1 ct2_2 ct2_3 ct2_4 ct2_5 ct2_6 ct2_7
    go_wp2_with fail
    refine (HB.out _).mono ?_
    rintro e Wt3 ⟨rfl, hb⟩
    clear ct2_0 ct2_1 ct2_2 ct2_3 ct2_4 ct2_5 ct2_6 ct2_7
    have RT_t4 := Lib.hid (RT_t1.out.below hb RT_t1.out.lt)
    have B_t4 := Lib.hid (B_t1.out.trans (hb.mono B_t1.out.size))
    clear hb RT_t1 B_t1
    go_wp2
    go_ret
    exact ⟨rfl, B_t4.out⟩

/-- numbers of one kind in a row -/
def Ns (w : World) (g : Nat) (k : IntKind) (L : List Nat) : Prop := ∀ (i x : Nat), L[i]? = some x → w.cell? ⟨g, i, none⟩ = some (.int k (x : Int))
theorem Ns.below {w w' : World} {g B : Nat} {k : IntKind} {L : List Nat} (h : Ns w g k L) (hb : Below B w w') (hg : g < B) : Ns w' g k L := fun i x hx => (hb.cell (p := ⟨g, i, none⟩) hg).trans (h i x hx)
theorem flat_len (k : Nat) (L : List Nat) : (L.flatMap (hi k)).length = k * L.length := by
  induction L with
  | nil => rfl
  | cons x L ih => rw [List.flatMap_cons, List.length_append, hi_length, ih, List.length_cons, Nat.mul_add]; omega
/-- bytes as what a function answers -/
def Bytes_ (w : World) (l : List UInt8) (n : Nat) (e : Ending) (w' : World) : Prop := ∃ A c, e = .returned (.slice A n c) ∧ Sl w' w'.heap.size A n c l ∧ Below w.heap.size w w'

set_option maxHeartbeats 4000000 in
theorem put_uint32 (A : Option Addr) (l : List UInt8) (L : List Nat) (n c g m : Nat) (w : World) (hL : L.length = m) (hm : n + 4 * m ≤ 100000) (hS : Sl w w.heap.size A n c l) (hg : g < w.heap.size) (hN : Ns w g .u32 L) (HX : Hid (∀ x ∈ L, (x : Int) < 4294967296)) :
    Calls Try.prog 30 #[.slice A n c, .func (.func 31) #[] #[], .slice (some ⟨g, 0, none⟩) m m] w (Bytes_ w (l ++ L.flatMap (hi 4)) (n + 4 * m)) := by
  have HL := Lib.hid hL
  have HN := Lib.hid hN
  have HG := Lib.hid hg
  have HI0 : Hid (Sl w w.heap.size A n c (l ++ (L.take 0).flatMap (hi 4))) := Lib.hid (by simpa using hS)
  have HB0 : Hid (Below w.heap.size w w) := Lib.hid (Below.refl _ _)
  have HM0 : Hid (l.length = n) := Lib.hid hS.len
  clear hL hN hg hS
  go_enter Try.func30, Try.ntmps30
  go_wp2
  go_loopw [0, 11] (fun t0 i wr => ∃ (j : Nat) (A' : Option Addr) (q c' : Nat), j ≤ m ∧ i = .int .i64 (j : Int) ∧ t0 = .slice A' q c' ∧ Hid (q = n + 4 * j) ∧ Hid (Sl wr wr.heap.size A' q c' (l ++ (L.take j).flatMap (hi 4))) ∧ Hid (Below w.heap.size w wr)) (fun _ i _ => m - (intOf i).toNat)
  case atStart => exact ⟨0, A, n, c, by omega, rfl, rfl, Lib.hid (by omega), HI0, HB0⟩
  case round =>
    obtain ⟨j, A', q, c', hj, rfl, rfl, HQ, HI, HB⟩ := hrel
    clear HI0 HB0
    by_cases hlt : j < m
    case neg =>
      have h1 : ¬ (j : Int) < (m : Int) := by omega
      obtain rfl : j = m := by omega
      go_wp2
      go_ret
      have := HQ.out
      subst this
      refine ⟨A', c', rfl, ?_, HB.out⟩
      have h := HI.out
      rwa [List.take_of_length_le (by rw [HL.out]; exact Nat.le_refl _)] at h
    have h1 : (j : Int) < (m : Int) := by omega
    obtain ⟨x, hx⟩ : ∃ x, L[j]? = some x := ⟨_, List.getElem?_eq_getElem (by rw [HL.out]; exact hlt)⟩
    have c0 : wr.cell? ⟨g, j, none⟩ = some (.int .u32 (x : Int)) := HN.out.below HB.out HG.out j x hx
    have HP := Lib.hid (fun (W : World) (hb : Bs W W.heap.size A' (l ++ (L.take j).flatMap (hi 4))) => put32_any A' _ c' q x W (by rw [HQ.out, List.length_append, HM0.out, flat_len, List.length_take, HL.out, Nat.min_eq_left hj]) (by have := HQ.out; have : 4 * j ≤ 4 * m := Nat.mul_le_mul_left _ hj; omega) (HX.out x (List.mem_of_getElem? hx)) hb)
    have HE : Hid ((l ++ (L.take j).flatMap (hi 4)) ++ hi 4 x = l ++ (L.take (j + 1)).flatMap (hi 4)) := Lib.hid (by
      rw [List.take_succ_eq_append_getElem (by rw [HL.out]; exact hlt), (List.getElem?_eq_some_iff.1 hx).2]
      simp [List.append_assoc])
    clear hx
    go_wp2_with fail
    refine (HP.out _ HI.out.bs).mono ?_
    rintro e w1 ⟨g', n', rfl, HL', hg', hr', hb⟩
    rw [HE.out] at HL' hr'
    have HB1 := Lib.hid (HB.out.trans (hb.mono HB.out.size))
    have HI1 : Hid (Sl w1 w1.heap.size (some ⟨g', 0, none⟩) n' n' (l ++ (L.take (j + 1)).flatMap (hi 4))) := Lib.hid ⟨HL'.out, Nat.le_refl _, by have := HL'.out; rw [List.length_append, HM0.out, flat_len, List.length_take, HL.out, Nat.min_eq_left hlt] at this; have : 4 * (j + 1) ≤ 4 * m := Nat.mul_le_mul_left _ hlt; unfold maxLen; omega, (fun h => by cases h), hr'.bs hr'.lt⟩
    have HQ1 : Hid (n' = n + 4 * (j + 1)) := Lib.hid (by
      have := HL'.out
      rw [List.length_append, HM0.out, flat_len, List.length_take, HL.out, Nat.min_eq_left hlt] at this
      exact this.symm)
    clear hb hr' HP HE HL' HQ HI HB
    go_wp2_with fail
    go_roundw
    case rel => exact ⟨j + 1, some ⟨g', 0, none⟩, n', n', by omega, by go_num, rfl, HQ1, HI1, HB1⟩
    case measure => simp [intOf]; omega

set_option maxHeartbeats 4000000 in
theorem put_uint64 (A : Option Addr) (l : List UInt8) (L : List Nat) (n c g m : Nat) (w : World) (hL : L.length = m) (hm : n + 8 * m ≤ 100000) (hS : Sl w w.heap.size A n c l) (hg : g < w.heap.size) (hN : Ns w g .u64 L) :
    Calls Try.prog 32 #[.slice A n c, .func (.func 33) #[] #[], .slice (some ⟨g, 0, none⟩) m m] w (Bytes_ w (l ++ L.flatMap (hi 8)) (n + 8 * m)) := by
  have HL := Lib.hid hL
  have HN := Lib.hid hN
  have HG := Lib.hid hg
  have HI0 : Hid (Sl w w.heap.size A n c (l ++ (L.take 0).flatMap (hi 8))) := Lib.hid (by simpa using hS)
  have HB0 : Hid (Below w.heap.size w w) := Lib.hid (Below.refl _ _)
  have HM0 : Hid (l.length = n) := Lib.hid hS.len
  clear hL hN hg hS
  go_enter Try.func32, Try.ntmps32
  go_wp2
  go_loopw [0, 11] (fun t0 i wr => ∃ (j : Nat) (A' : Option Addr) (q c' : Nat), j ≤ m ∧ i = .int .i64 (j : Int) ∧ t0 = .slice A' q c' ∧ Hid (q = n + 8 * j) ∧ Hid (Sl wr wr.heap.size A' q c' (l ++ (L.take j).flatMap (hi 8))) ∧ Hid (Below w.heap.size w wr)) (fun _ i _ => m - (intOf i).toNat)
  case atStart => exact ⟨0, A, n, c, by omega, rfl, rfl, Lib.hid (by omega), HI0, HB0⟩
  case round =>
    obtain ⟨j, A', q, c', hj, rfl, rfl, HQ, HI, HB⟩ := hrel
    clear HI0 HB0
    by_cases hlt : j < m
    case neg =>
      have h1 : ¬ (j : Int) < (m : Int) := by omega
      obtain rfl : j = m := by omega
      go_wp2
      go_ret
      have := HQ.out
      subst this
      refine ⟨A', c', rfl, ?_, HB.out⟩
      have h := HI.out
      rwa [List.take_of_length_le (by rw [HL.out]; exact Nat.le_refl _)] at h
    have h1 : (j : Int) < (m : Int) := by omega
    obtain ⟨x, hx⟩ : ∃ x, L[j]? = some x := ⟨_, List.getElem?_eq_getElem (by rw [HL.out]; exact hlt)⟩
    have c0 : wr.cell? ⟨g, j, none⟩ = some (.int .u64 (x : Int)) := HN.out.below HB.out HG.out j x hx
    have HP := Lib.hid (fun (W : World) (hb : Bs W W.heap.size A' (l ++ (L.take j).flatMap (hi 8))) => put64_any A' _ c' q x W (by rw [HQ.out, List.length_append, HM0.out, flat_len, List.length_take, HL.out, Nat.min_eq_left hj]) (by have := HQ.out; have : 8 * j ≤ 8 * m := Nat.mul_le_mul_left _ hj; omega) hb)
    have HE : Hid ((l ++ (L.take j).flatMap (hi 8)) ++ hi 8 x = l ++ (L.take (j + 1)).flatMap (hi 8)) := Lib.hid (by
      rw [List.take_succ_eq_append_getElem (by rw [HL.out]; exact hlt), (List.getElem?_eq_some_iff.1 hx).2]
      simp [List.append_assoc])
    clear hx
    go_wp2_with fail
    refine (HP.out _ HI.out.bs).mono ?_
    rintro e w1 ⟨g', n', rfl, HL', hg', hr', hb⟩
    rw [HE.out] at HL' hr'
    have HB1 := Lib.hid (HB.out.trans (hb.mono HB.out.size))
    have HI1 : Hid (Sl w1 w1.heap.size (some ⟨g', 0, none⟩) n' n' (l ++ (L.take (j + 1)).flatMap (hi 8))) := Lib.hid ⟨HL'.out, Nat.le_refl _, by have := HL'.out; rw [List.length_append, HM0.out, flat_len, List.length_take, HL.out, Nat.min_eq_left hlt] at this; have : 8 * (j + 1) ≤ 8 * m := Nat.mul_le_mul_left _ hlt; unfold maxLen; omega, (fun h => by cases h), hr'.bs hr'.lt⟩
    have HQ1 : Hid (n' = n + 8 * (j + 1)) := Lib.hid (by
      have := HL'.out
      rw [List.length_append, HM0.out, flat_len, List.length_take, HL.out, Nat.min_eq_left hlt] at this
      exact this.symm)
    clear hb hr' HP HE HL' HQ HI HB
    go_wp2_with fail
    go_roundw
    case rel => exact ⟨j + 1, some ⟨g', 0, none⟩, n', n', by omega, by go_num, rfl, HQ1, HI1, HB1⟩
    case measure => simp [intOf]; omega

theorem put_uint32_is (A : Option Addr) (l : List UInt8) (L : List Nat) (n c g m N : Nat) (w : World) (hL : L.length = m) (hm : n + 4 * m = N) (hm2 : N ≤ 100000) (hS : Sl w w.heap.size A n c l) (hg : g < w.heap.size) (hN : Ns w g .u32 L) (HX : Hid (∀ x ∈ L, (x : Int) < 4294967296)) :
    Calls Try.prog 30 #[.slice A n c, .func (.func 31) #[] #[], .slice (some ⟨g, 0, none⟩) m m] w (Bytes_ w (l ++ L.flatMap (hi 4)) N) := by
  subst hm
  exact put_uint32 A l L n c g m w hL hm2 hS hg hN HX

theorem put_uint64_is (A : Option Addr) (l : List UInt8) (L : List Nat) (n c g m N : Nat) (w : World) (hL : L.length = m) (hm : n + 8 * m = N) (hm2 : N ≤ 100000) (hS : Sl w w.heap.size A n c l) (hg : g < w.heap.size) (hN : Ns w g .u64 L) :
    Calls Try.prog 32 #[.slice A n c, .func (.func 33) #[] #[], .slice (some ⟨g, 0, none⟩) m m] w (Bytes_ w (l ++ L.flatMap (hi 8)) N) := by
  subst hm
  exact put_uint64 A l L n c g m w hL hm2 hS hg hN

theorem Row.ns {w : World} {g : Nat} {T : TypeId} {k : IntKind} {L : List Nat} (h : Row w g T (L.map fun (x : Nat) => .int k (x : Int))) : Ns w g k L := fun i x hx => by
  rw [h.cell, List.getElem?_map, hx]; rfl
/-- a number of 64 bits without its sign -/
def uw (x : Int) : Nat := (x % 18446744073709551616).toNat
theorem uw_wrap (x : Int) : IntKind.u64.wrap x = ((uw x : Nat) : Int) := by
  unfold uw
  rw [Int.toNat_of_nonneg (Int.emod_nonneg _ (by decide))]
  simp [IntKind.wrap, IntKind.signed, IntKind.bits]
/-- a tuple's bytes -/
def tb (r a b : Nat) (x0 x1 y0 y1 v : Int) : List UInt8 := [r, a, b].flatMap (hi 4) ++ [uw x0, uw x1, uw y0, uw y1, uw v].flatMap (hi 8)
theorem tb_len (r a b : Nat) (x0 x1 y0 y1 v : Int) : (tb r a b x0 x1 y0 y1 v).length = 52 := by simp [tb, hi_length]

/-- what Encode answers of a tuple that may be -/
def EncR (w : World) (l : List UInt8) (e : Ending) (w' : World) : Prop := ∃ A c, e = .returned (.tuple #[.slice A 52 c, .int .i64 0]) ∧ Sl w' w'.heap.size A 52 c l ∧ Below w.heap.size w w'
set_option maxHeartbeats 4000000 in
theorem Encode_ok (r a b : Nat) (x0 x1 y0 y1 v : Int) (w : World) (h : okT r a b x0 x1 y0 y1 = true) (hr : r ≤ 4294967295) : Calls Try.prog 9 #[TV r a b x0 x1 y0 y1 v] w (EncR w (tb r a b x0 x1 y0 y1 v)) := by
  have HC := Lib.hid (Check_any r a b x0 x1 y0 y1 v)
  rw [h, if_pos rfl] at HC
  have h2 := (okT_iff _ _ _ _ _ _ _).1 h
  have HX : Hid (∀ x ∈ [r, a, b], (x : Int) < 4294967296) := Lib.hid (fun x hx => by
    simp only [List.mem_cons, List.not_mem_nil, or_false] at hx
    rcases hx with rfl | rfl | rfl <;> omega)
  have ha : IntKind.u32.wrap (a : Int) = a := by simp [IntKind.wrap, IntKind.signed, IntKind.bits]; omega
  have hb : IntKind.u32.wrap (b : Int) = b := by simp [IntKind.wrap, IntKind.signed, IntKind.bits]; omega
  have ha2 : (a : Int) % 4294967296 = a := by omega
  have hb2 : (b : Int) % 4294967296 = b := by omega
  have ux0 := uw_wrap x0
  have ux1 := uw_wrap x1
  have uy0 := uw_wrap y0
  have uy1 := uw_wrap y1
  have uv := uw_wrap v
  clear h h2 hr
  unfold tb
  go_enter Try.func9, Try.ntmps9
  go_upto_region 1 with fail
  have RT_e1 := Lib.hid (row_last w (w.heap.size) 30 [.int .u32 r, .int .u64 a, .int .u64 b, .int .i64 x0, .int .i64 x1, .int .i64 y0, .int .i64 y1, .int .i64 v] (by simp))
  have B_e1 := Lib.hid ((Below.refl w.heap.size w).alloc (Nat.le_refl _) (.cells #[.int .u32 r, .int .u64 a, .int .u64 b, .int .i64 x0, .int .i64 x1, .int .i64 y0, .int .i64 y1, .int .i64 v] 30))
  generalize (w.alloc (.cells #[.int .u32 r, .int .u64 a, .int .u64 b, .int .i64 x0, .int .i64 x1, .int .i64 y0, .int .i64 y1, .int .i64 v] 30)) = Ve1 at RT_e1 B_e1 ⊢
  have ce3_0 := RT_e1.out.cell 0
  have ce3_1 := RT_e1.out.cell 1
  have ce3_2 := RT_e1.out.cell 2
  have ce3_3 := RT_e1.out.cell 3
  have ce3_4 := RT_e1.out.cell 4
  have ce3_5 := RT_e1.out.cell 5
  have ce3_6 := RT_e1.out.cell 6
  have ce3_7 := RT_e1.out.cell 7
  simp only [List.getElem?_cons_zero, List.getElem?_cons_succ] at ce3_0 ce3_1 ce3_2 ce3_3 ce3_4 ce3_5 ce3_6 ce3_7
  go_wp2_with fail
  refine (HC.out _).mono ?_
  rintro e We2 ⟨rfl, hb⟩
  clear ce3_0 ce3_1 ce3_2 ce3_3 ce3_4 ce3_5 ce3_6 ce3_7
  have RT_e4 := Lib.hid (RT_e1.out.below hb RT_e1.out.lt)
  have B_e4 := Lib.hid (B_e1.out.trans (hb.mono B_e1.out.size))
  clear hb RT_e1 B_e1
  have ce5_0 := RT_e4.out.cell 0
  have ce5_1 := RT_e4.out.cell 1
  have ce5_2 := RT_e4.out.cell 2
  have ce5_3 := RT_e4.out.cell 3
  have ce5_4 := RT_e4.out.cell 4
  have ce5_5 := RT_e4.out.cell 5
  have ce5_6 := RT_e4.out.cell 6
  have ce5_7 := RT_e4.out.cell 7
  simp only [List.getElem?_cons_zero, List.getElem?_cons_succ] at ce5_0 ce5_1 ce5_2 ce5_3 ce5_4 ce5_5 ce5_6 ce5_7
  go_upto_region 5 with fail
  clear ce5_0 ce5_1 ce5_2 ce5_3 ce5_4 ce5_5 ce5_6 ce5_7
  have hlte6_0 : w.heap.size < We2.heap.size := RT_e4.out.lt
  have RT_e6 := Lib.hid (RT_e4.out.alloc (.cells #[.int .i64 x0, .int .i64 x1, .int .i64 y0, .int .i64 y1] 28))
  have RK_e6 := Lib.hid (row_last We2 (We2.heap.size) 28 [.int .i64 x0, .int .i64 x1, .int .i64 y0, .int .i64 y1] (by simp))
  have B_e6 := Lib.hid (B_e4.out.alloc B_e4.out.size (.cells #[.int .i64 x0, .int .i64 x1, .int .i64 y0, .int .i64 y1] 28))
  clear RT_e4 B_e4
  generalize (We2.alloc (.cells #[.int .i64 x0, .int .i64 x1, .int .i64 y0, .int .i64 y1] 28)) = Ve6 at RT_e6 RK_e6 B_e6 ⊢
  have ce7_0 := RT_e6.out.cell 0
  have ce7_1 := RT_e6.out.cell 1
  have ce7_2 := RT_e6.out.cell 2
  have ce7_3 := RT_e6.out.cell 3
  have ce7_4 := RT_e6.out.cell 4
  have ce7_5 := RT_e6.out.cell 5
  have ce7_6 := RT_e6.out.cell 6
  have ce7_7 := RT_e6.out.cell 7
  simp only [List.getElem?_cons_zero, List.getElem?_cons_succ] at ce7_0 ce7_1 ce7_2 ce7_3 ce7_4 ce7_5 ce7_6 ce7_7
  go_wp2_with fail
  clear ce7_0 ce7_1 ce7_2 ce7_3 ce7_4 ce7_5 ce7_6 ce7_7
  have hlte8_0 : w.heap.size < Ve6.heap.size := RT_e6.out.lt
  have hlte8_1 : We2.heap.size < Ve6.heap.size := RK_e6.out.lt
  have RT_e8 := Lib.hid (RT_e6.out.alloc (.cells #[.int .u32 (r : Int), .int .u32 (a : Int), .int .u32 (b : Int)] 25))
  have RK_e8 := Lib.hid (RK_e6.out.alloc (.cells #[.int .u32 (r : Int), .int .u32 (a : Int), .int .u32 (b : Int)] 25))
  have RN_e8 := Lib.hid (row_last Ve6 (Ve6.heap.size) 25 [.int .u32 (r : Int), .int .u32 (a : Int), .int .u32 (b : Int)] (by simp))
  have B_e8 := Lib.hid (B_e6.out.alloc B_e6.out.size (.cells #[.int .u32 (r : Int), .int .u32 (a : Int), .int .u32 (b : Int)] 25))
  clear RT_e6 RK_e6 B_e6
  generalize (Ve6.alloc (.cells #[.int .u32 (r : Int), .int .u32 (a : Int), .int .u32 (b : Int)] 25)) = Ve8 at RT_e8 RK_e8 RN_e8 B_e8 ⊢
  refine (put_uint32_is none [] [r, a, b] 0 0 _ 3 12 _ rfl rfl (by omega) (Sl.nil_ _ _) RN_e8.out.lt (Row.ns RN_e8.out) HX).mono ?_
  rintro e W1 ⟨A1, c1, rfl, hS1, hb⟩
  rw [List.nil_append] at hS1
  have RT_e9 := Lib.hid (RT_e8.out.below hb RT_e8.out.lt)
  have RK_e9 := Lib.hid (RK_e8.out.below hb RK_e8.out.lt)
  have RN_e9 := Lib.hid (RN_e8.out.below hb RN_e8.out.lt)
  have B_e9 := Lib.hid (B_e8.out.trans (hb.mono B_e8.out.size))
  clear hb RT_e8 RK_e8 RN_e8 B_e8
  have P1_0 := Lib.hid hS1
  clear hS1
  have ce10_0 := RT_e9.out.cell 0
  have ce10_1 := RT_e9.out.cell 1
  have ce10_2 := RT_e9.out.cell 2
  have ce10_3 := RT_e9.out.cell 3
  have ce10_4 := RT_e9.out.cell 4
  have ce10_5 := RT_e9.out.cell 5
  have ce10_6 := RT_e9.out.cell 6
  have ce10_7 := RT_e9.out.cell 7
  simp only [List.getElem?_cons_zero, List.getElem?_cons_succ] at ce10_0 ce10_1 ce10_2 ce10_3 ce10_4 ce10_5 ce10_6 ce10_7
  have ce11_0 := RK_e9.out.cell 0
  have ce11_1 := RK_e9.out.cell 1
  have ce11_2 := RK_e9.out.cell 2
  have ce11_3 := RK_e9.out.cell 3
  simp only [List.getElem?_cons_zero, List.getElem?_cons_succ] at ce11_0 ce11_1 ce11_2 ce11_3
  go_wp2_with fail
  clear ce10_0 ce10_1 ce10_2 ce10_3 ce10_4 ce10_5 ce10_6 ce10_7 ce11_0 ce11_1 ce11_2 ce11_3
  have hlte12_0 : w.heap.size < W1.heap.size := RT_e9.out.lt
  have hlte12_1 : We2.heap.size < W1.heap.size := RK_e9.out.lt
  have hlte12_2 : Ve6.heap.size < W1.heap.size := RN_e9.out.lt
  have RT_e12 := Lib.hid (RT_e9.out.alloc (.cells #[.int .u64 ((uw x0 : Nat) : Int), .int .u64 ((uw x1 : Nat) : Int), .int .u64 ((uw y0 : Nat) : Int), .int .u64 ((uw y1 : Nat) : Int), .int .u64 ((uw v : Nat) : Int)] 26))
  have RK_e12 := Lib.hid (RK_e9.out.alloc (.cells #[.int .u64 ((uw x0 : Nat) : Int), .int .u64 ((uw x1 : Nat) : Int), .int .u64 ((uw y0 : Nat) : Int), .int .u64 ((uw y1 : Nat) : Int), .int .u64 ((uw v : Nat) : Int)] 26))
  have RN_e12 := Lib.hid (RN_e9.out.alloc (.cells #[.int .u64 ((uw x0 : Nat) : Int), .int .u64 ((uw x1 : Nat) : Int), .int .u64 ((uw y0 : Nat) : Int), .int .u64 ((uw y1 : Nat) : Int), .int .u64 ((uw v : Nat) : Int)] 26))
  have P1_e12 := Lib.hid (P1_0.out.below ((Below.refl W1.heap.size W1).alloc (Nat.le_refl _) (.cells #[.int .u64 ((uw x0 : Nat) : Int), .int .u64 ((uw x1 : Nat) : Int), .int .u64 ((uw y0 : Nat) : Int), .int .u64 ((uw y1 : Nat) : Int), .int .u64 ((uw v : Nat) : Int)] 26)) |>.more ((Below.refl W1.heap.size W1).alloc (Nat.le_refl _) (.cells #[.int .u64 ((uw x0 : Nat) : Int), .int .u64 ((uw x1 : Nat) : Int), .int .u64 ((uw y0 : Nat) : Int), .int .u64 ((uw y1 : Nat) : Int), .int .u64 ((uw v : Nat) : Int)] 26)).size)
  have RM_e12 := Lib.hid (row_last W1 (W1.heap.size) 26 [.int .u64 ((uw x0 : Nat) : Int), .int .u64 ((uw x1 : Nat) : Int), .int .u64 ((uw y0 : Nat) : Int), .int .u64 ((uw y1 : Nat) : Int), .int .u64 ((uw v : Nat) : Int)] (by simp))
  have B_e12 := Lib.hid (B_e9.out.alloc B_e9.out.size (.cells #[.int .u64 ((uw x0 : Nat) : Int), .int .u64 ((uw x1 : Nat) : Int), .int .u64 ((uw y0 : Nat) : Int), .int .u64 ((uw y1 : Nat) : Int), .int .u64 ((uw v : Nat) : Int)] 26))
  clear RT_e9 RK_e9 RN_e9 P1_0 B_e9
  generalize (W1.alloc (.cells #[.int .u64 ((uw x0 : Nat) : Int), .int .u64 ((uw x1 : Nat) : Int), .int .u64 ((uw y0 : Nat) : Int), .int .u64 ((uw y1 : Nat) : Int), .int .u64 ((uw v : Nat) : Int)] 26)) = Ve12 at RT_e12 RK_e12 RN_e12 RM_e12 P1_e12 B_e12 ⊢
  refine (put_uint64_is A1 _ [uw x0, uw x1, uw y0, uw y1, uw v] 12 c1 _ 5 52 _ rfl rfl (by omega) P1_e12.out RM_e12.out.lt (Row.ns RM_e12.out)).mono ?_
  rintro e W2 ⟨A2, c2, rfl, hS2, hb⟩
  have HF := Lib.hid (B_e12.out.trans (hb.mono B_e12.out.size))
  clear hb
  go_wp2
  exact bodyPost_ret (v := .tuple #[.slice A2 52 c2, .int .i64 0]) (by simp [results, Try.results9, go_sem]) rfl ⟨A2, c2, rfl, hS2, HF.out⟩

set_option maxHeartbeats 4000000 in
theorem Encode_no (r a b : Nat) (x0 x1 y0 y1 v : Int) (w : World) (h : okT r a b x0 x1 y0 y1 = false) : Calls Try.prog 9 #[TV r a b x0 x1 y0 y1 v] w fun e w' => e = .returned (.tuple #[.slice none 0 0, .int .i64 200]) ∧ Below w.heap.size w w' := by
  have HC := Lib.hid (Check_any r a b x0 x1 y0 y1 v)
  rw [h, if_neg (by decide)] at HC
  go_enter Try.func9, Try.ntmps9
  go_upto_region 1 with fail
  have RT_n1 := Lib.hid (row_last w (w.heap.size) 30 [.int .u32 r, .int .u64 a, .int .u64 b, .int .i64 x0, .int .i64 x1, .int .i64 y0, .int .i64 y1, .int .i64 v] (by simp))
  have B_n1 := Lib.hid ((Below.refl w.heap.size w).alloc (Nat.le_refl _) (.cells #[.int .u32 r, .int .u64 a, .int .u64 b, .int .i64 x0, .int .i64 x1, .int .i64 y0, .int .i64 y1, .int .i64 v] 30))
  generalize (w.alloc (.cells #[.int .u32 r, .int .u64 a, .int .u64 b, .int .i64 x0, .int .i64 x1, .int .i64 y0, .int .i64 y1, .int .i64 v] 30)) = Vn1 at RT_n1 B_n1 ⊢
  have cn3_0 := RT_n1.out.cell 0
  have cn3_1 := RT_n1.out.cell 1
  have cn3_2 := RT_n1.out.cell 2
  have cn3_3 := RT_n1.out.cell 3
  have cn3_4 := RT_n1.out.cell 4
  have cn3_5 := RT_n1.out.cell 5
  have cn3_6 := RT_n1.out.cell 6
  have cn3_7 := RT_n1.out.cell 7
  simp only [List.getElem?_cons_zero, List.getElem?_cons_succ] at cn3_0 cn3_1 cn3_2 cn3_3 cn3_4 cn3_5 cn3_6 cn3_7
  go_wp2_with fail
  refine (HC.out _).mono ?_
  rintro e Wn2 ⟨rfl, hb⟩
  clear cn3_0 cn3_1 cn3_2 cn3_3 cn3_4 cn3_5 cn3_6 cn3_7
  have RT_n4 := Lib.hid (RT_n1.out.below hb RT_n1.out.lt)
  have B_n4 := Lib.hid (B_n1.out.trans (hb.mono B_n1.out.size))
  clear hb RT_n1 B_n1
  go_wp2
  exact bodyPost_ret (v := .tuple #[.slice none 0 0, .int .i64 200]) (by simp [results, Try.results9, go_sem]) rfl ⟨rfl, B_n4.out⟩
end Go.Proofs.Ytnojkoefdigcnaa.Hp
