/-
  Keys: Check at the class of boxes, boxes of a list, Union.
-/
import Derived.Test.YtbmfijcckdkmdaaRows
import Derived.Test.YtbmfijcckdkmdaaWords
import Derived.Test.YtbmfijcckdkmdaaWi1
import Derived.Test.YtbmfijcckdkmdaaOpenL
import Derived.Outline
import Derived.LoopTactic
import Derived.Deep.RegionHeld
import Derived.Deep.Cut
import Derived.WalkLawsBesides
namespace Go.Proofs.Ytbmfijcckdkmdaa.Ky
set_option maxRecDepth 100000
open Go.RowKit Go.Proofs.Ytbmfijcckdkmdaa.Wd Go.Proofs.Ytbmfijcckdkmdaa.Wi Go.Proofs.Ytbmfijcckdkmdaa.Lift

abbrev KV (x0 x1 y0 y1 : Int) : Value := .agg #[.int .i64 x0, .int .i64 x1, .int .i64 y0, .int .i64 y1]
/-- is it a box? -/
def boxB (x0 x1 y0 y1 : Int) : Bool := decide (x0 ≤ x1) && decide (y0 ≤ y1)
structure Kb where
  x0 : Int
  x1 : Int
  y0 : Int
  y1 : Int
def Kb.cells (k : Kb) : List Value := [.int .i64 k.x0, .int .i64 k.x1, .int .i64 k.y0, .int .i64 k.y1]
def Kb.ok (k : Kb) : Bool := boxB k.x0 k.x1 k.y0 k.y1

theorem Check_box (x0 x1 y0 y1 : Int) (w : World) :
    Calls Try.prog 9 #[.int .i64 1, KV x0 x1 y0 y1] w fun e w' => e = .returned (.int .i64 (if boxB x0 x1 y0 y1 then 0 else 2)) ∧ Below w.heap.size w w' := by
  by_cases h1 : x1 < x0
  · rw [show boxB x0 x1 y0 y1 = false from by simp [boxB]; omega]
    go_enter Try.func9, Try.ntmps9
    go_wp2
    go_ret
    exact ⟨rfl, (Below.refl _ _).alloc (Nat.le_refl _) _⟩
  by_cases h2 : y1 < y0
  · rw [show boxB x0 x1 y0 y1 = false from by simp [boxB]; omega]
    go_enter Try.func9, Try.ntmps9
    go_wp2
    go_ret
    exact ⟨rfl, (Below.refl _ _).alloc (Nat.le_refl _) _⟩
  · rw [show boxB x0 x1 y0 y1 = true from by simp [boxB]; omega]
    go_enter Try.func9, Try.ntmps9
    go_wp2
    go_ret
    exact ⟨rfl, (Below.refl _ _).alloc (Nat.le_refl _) _⟩

set_option maxHeartbeats 1000000 in
theorem boxes_any (ks : List Kb) (A : Option Addr) (n c : Nat) (w : World) (hn : ks.length = n) (hm : n ≤ 140737488351232) (hM : Many Kb.cells 4 w w.heap.size A ks) :
    Calls Try.prog 24 #[.slice A n c] w fun e w' => e = .returned (.bool (ks.all Kb.ok)) ∧ Below w.heap.size w w' := by
  have HN := Lib.hid hn
  have HM := Lib.hid hM
  clear hn hM
  go_enter Try.func24, Try.ntmps24
  go_wp2
  have HI0 : Hid (Below w.heap.size w w) := Lib.hid (Below.refl _ _)
  have HT0 : Hid ((ks.take 0).all Kb.ok = true) := Lib.hid (by simp)
  go_loopw [7] (fun i wr => ∃ k : Nat, k ≤ n ∧ i = .int .i64 (k : Int) ∧ Hid (Below w.heap.size w wr) ∧ Hid ((ks.take k).all Kb.ok = true)) (fun i _ => n - (intOf i).toNat)
  case atStart => exact ⟨0, by omega, rfl, HI0, HT0⟩
  case round =>
    obtain ⟨k, hk, rfl, HI, HT⟩ := hrel
    clear HI0 HT0
    by_cases hlt : k < n
    case neg =>
      have h1 : ¬ (k : Int) < (n : Int) := by omega
      obtain rfl : k = n := by omega
      have HE : Hid (ks.all Kb.ok = true) := Lib.hid (by have := HT.out; rwa [List.take_of_length_le (by rw [HN.out]; exact Nat.le_refl _)] at this)
      go_wp2
      go_ret
      exact ⟨by rw [HE.out]; rfl, HI.out⟩
    have h1 : (k : Int) < (n : Int) := by omega
    obtain ⟨x, hx⟩ : ∃ x, ks[k]? = some x := ⟨_, List.getElem?_eq_getElem (by rw [HN.out]; exact hlt)⟩
    obtain ⟨b, o, rfl, hblt, hc⟩ := HM.out (by rw [HN.out]; omega)
    obtain ⟨x0, x1, y0, y1⟩ := x
    have hc := fun j v hj => (HI.out.cell (p := ⟨b, o + k * 4 + j, none⟩) hblt).trans (hc k _ hx j v hj)
    have c0 : wr.cell? ⟨b, o + k * 4, none⟩ = some (.int .i64 x0) := hc 0 _ rfl
    have c1 : wr.cell? ⟨b, o + k * 4 + 1, none⟩ = some (.int .i64 x1) := hc 1 _ rfl
    have c2 : wr.cell? ⟨b, o + k * 4 + 2, none⟩ = some (.int .i64 y0) := hc 2 _ rfl
    have c3 : wr.cell? ⟨b, o + k * 4 + 3, none⟩ = some (.int .i64 y1) := hc 3 _ rfl
    have HTS : Hid (∀ r, Kb.ok ⟨x0, x1, y0, y1⟩ = r → (ks.take (k + 1)).all Kb.ok = r) := Lib.hid (fun r hr => by
      rw [List.take_succ_eq_append_getElem (by rw [HN.out]; exact hlt), List.all_append, HT.out, (List.getElem?_eq_some_iff.1 hx).2]
      simp [hr])
    have HF : Hid (Kb.ok ⟨x0, x1, y0, y1⟩ = false → ks.all Kb.ok = false) := Lib.hid (fun h => by
      rw [List.all_eq_false]
      exact ⟨_, List.mem_of_getElem? hx, by simp [h]⟩)
    clear hx hc
    have HB : Hid (Below w.heap.size w (wr.alloc (.cells #[.int .i64 x0, .int .i64 x1, .int .i64 y0, .int .i64 y1] 23))) := Lib.hid (HI.out.alloc HI.out.size _)
    have hcx : Kb.ok ⟨x0, x1, y0, y1⟩ = boxB x0 x1 y0 y1 := rfl
    rw [hcx] at HTS HF
    clear hcx
    go_wp2_with fail
    refine (Check_box x0 x1 y0 y1 _).mono ?_
    rintro e w1 ⟨rfl, hb⟩
    have HB1 := Lib.hid (HB.out.trans (hb.mono HB.out.size))
    clear hb HB HI
    by_cases hok : boxB x0 x1 y0 y1 = true
    · rw [hok, if_pos rfl]
      have HT1 := Lib.hid (HTS.out _ hok)
      clear HTS HF hok HT
      go_wp2_with fail
      go_roundw
      case rel => exact ⟨k + 1, by omega, by go_num, HB1, HT1⟩
      case measure => simp [intOf]; omega
    · have hok' : boxB x0 x1 y0 y1 = false := by simpa using hok
      rw [hok', if_neg (by simp)]
      have HT1 := Lib.hid (HF.out hok')
      clear HTS HF hok hok' HT
      go_wp2_with fail
      go_ret
      exact ⟨by rw [HT1.out]; rfl, HB1.out⟩

def minI (a b : Int) : Int := if b < a then b else a
def maxI (a b : Int) : Int := if a < b then b else a
/-- boxes as a row of cells -/
theorem many_row {w : World} {g : Nat} {T : TypeId} (ks : List Kb) (hr : Row w g T (ks.flatMap Kb.cells)) (hg : 0 < ks.length → g < w.heap.size) : Many Kb.cells 4 w w.heap.size (some ⟨g, 0, none⟩) ks := fun hp => by
  refine ⟨_, 0, rfl, hg hp, fun i x hx j v hj => ?_⟩
  have hj4 : j < 4 := by have := (List.getElem?_eq_some_iff.1 hj).1; simpa [Kb.cells] using this
  have key : ∀ (l : List Kb) (i : Nat), l[i]? = some x → (l.flatMap Kb.cells)[i * 4 + j]? = some v := by
    intro l
    induction l with
    | nil => intro i h; simp at h
    | cons y l ih =>
      intro i h
      rw [List.flatMap_cons]
      cases i with
      | zero =>
        have : y = x := by simpa using h
        subst this
        rw [List.getElem?_append_left (by simp [Kb.cells]; omega)]
        simpa using hj
      | succ i =>
        rw [List.getElem?_append_right (by simp [Kb.cells]; omega)]
        rw [show (i + 1) * 4 + j - y.cells.length = i * 4 + j from by simp [Kb.cells]; omega]
        exact ih i (by simpa using h)
  have h := hr.cell (0 + i * 4 + j)
  rw [Nat.zero_add, key ks i hx] at h
  rw [Nat.zero_add]
  exact h
theorem boxes_of (ks : List Kb) (n : Nat) (hn : ks.length = n) (hn2 : n ≤ 1000) (V : World) :
    Calls Try.prog 24 #[.slice (some ⟨V.heap.size, 0, none⟩) n n] (V.alloc (.cells (ks.flatMap Kb.cells).toArray 23)) fun e w' => e = .returned (.bool (ks.all Kb.ok)) ∧ Below V.heap.size V w' :=
  (boxes_any ks _ n n _ hn (by omega) (many_row ks (Row.new V _ _) (fun _ => by simp))).mono fun _ _ h => ⟨h.1, ((Below.refl _ _).alloc (Nat.le_refl _) _).trans (h.2.mono (by simp))⟩
theorem boxes1 (x0 x1 y0 y1 : Int) (V : World) :
    Calls Try.prog 24 #[.slice (some ⟨V.heap.size, 0, none⟩) 1 1] (V.alloc (.cells #[.int .i64 x0, .int .i64 x1, .int .i64 y0, .int .i64 y1] 23)) fun e w' => e = .returned (.bool (boxB x0 x1 y0 y1)) ∧ Below V.heap.size V w' :=
  (boxes_of [⟨x0, x1, y0, y1⟩] 1 rfl (by omega) V).mono fun _ _ h => ⟨by rw [h.1]; simp [Kb.ok], h.2⟩
theorem boxes2 (x0 x1 y0 y1 u0 u1 v0 v1 : Int) (V : World) :
    Calls Try.prog 24 #[.slice (some ⟨V.heap.size, 0, none⟩) 2 2] (V.alloc (.cells #[.int .i64 x0, .int .i64 x1, .int .i64 y0, .int .i64 y1, .int .i64 u0, .int .i64 u1, .int .i64 v0, .int .i64 v1] 23)) fun e w' => e = .returned (.bool (boxB x0 x1 y0 y1 && boxB u0 u1 v0 v1)) ∧ Below V.heap.size V w' :=
  (boxes_of [⟨x0, x1, y0, y1⟩, ⟨u0, u1, v0, v1⟩] 2 rfl (by omega) V).mono fun _ _ h => ⟨by rw [h.1]; simp [Kb.ok], h.2⟩
theorem boxes3 (x0 x1 y0 y1 u0 u1 v0 v1 z0 z1 t0 t1 : Int) (V : World) :
    Calls Try.prog 24 #[.slice (some ⟨V.heap.size, 0, none⟩) 3 3] (V.alloc (.cells #[.int .i64 x0, .int .i64 x1, .int .i64 y0, .int .i64 y1, .int .i64 u0, .int .i64 u1, .int .i64 v0, .int .i64 v1, .int .i64 z0, .int .i64 z1, .int .i64 t0, .int .i64 t1] 23)) fun e w' => e = .returned (.bool (boxB x0 x1 y0 y1 && (boxB u0 u1 v0 v1 && boxB z0 z1 t0 t1))) ∧ Below V.heap.size V w' :=
  (boxes_of [⟨x0, x1, y0, y1⟩, ⟨u0, u1, v0, v1⟩, ⟨z0, z1, t0, t1⟩] 3 rfl (by omega) V).mono fun _ _ h => ⟨by rw [h.1]; simp [Kb.ok], h.2⟩

/-- the union -/
def unionV (x0 x1 y0 y1 u0 u1 v0 v1 : Int) : Value := if boxB x0 x1 y0 y1 && boxB u0 u1 v0 v1 then KV (minI x0 u0) (maxI x1 u1) (minI y0 v0) (maxI y1 v1) else KV 0 0 0 0
set_option maxHeartbeats 1000000 in
theorem Union_any (x0 x1 y0 y1 u0 u1 v0 v1 : Int) (w : World) :
    Calls Try.prog 15 #[KV x0 x1 y0 y1, KV u0 u1 v0 v1] w fun e w' => e = .returned (unionV x0 x1 y0 y1 u0 u1 v0 v1) ∧ Below w.heap.size w w' := by
  have HX := Lib.hid (boxes2 x0 x1 y0 y1 u0 u1 v0 v1)
  obtain ⟨r, hr⟩ : ∃ r, (boxB x0 x1 y0 y1 && boxB u0 u1 v0 v1) = r := ⟨_, rfl⟩
  unfold unionV
  rw [hr] at HX ⊢
  clear hr
  obtain ⟨m0, h0⟩ : ∃ m, minI x0 u0 = m := ⟨_, rfl⟩
  obtain ⟨m1, h1⟩ : ∃ m, maxI x1 u1 = m := ⟨_, rfl⟩
  obtain ⟨m2, h2⟩ : ∃ m, minI y0 v0 = m := ⟨_, rfl⟩
  obtain ⟨m3, h3⟩ : ∃ m, maxI y1 v1 = m := ⟨_, rfl⟩
  rw [h0, h1, h2, h3]
  unfold minI at h0 h2
  unfold maxI at h1 h3
  go_enter Try.func15, Try.ntmps15
  go_upto_region 1 with fail
  have RA_1 := Lib.hid (((row_last w (w.heap.size) 23 [.int .i64 x0, .int .i64 x1, .int .i64 y0, .int .i64 y1] (by simp)).alloc (.cells #[.int .i64 u0, .int .i64 u1, .int .i64 v0, .int .i64 v1] 23)).alloc (.cells #[.int .i64 0, .int .i64 0, .int .i64 0, .int .i64 0] 23))
  have RB_1 := Lib.hid ((row_last (w.alloc (.cells #[.int .i64 x0, .int .i64 x1, .int .i64 y0, .int .i64 y1] 23)) (w.heap.size + 1) 23 [.int .i64 u0, .int .i64 u1, .int .i64 v0, .int .i64 v1] (by simp)).alloc (.cells #[.int .i64 0, .int .i64 0, .int .i64 0, .int .i64 0] 23))
  have RC_1 := Lib.hid (row_last ((w.alloc (.cells #[.int .i64 x0, .int .i64 x1, .int .i64 y0, .int .i64 y1] 23)).alloc (.cells #[.int .i64 u0, .int .i64 u1, .int .i64 v0, .int .i64 v1] 23)) (w.heap.size + 1 + 1) 23 [.int .i64 0, .int .i64 0, .int .i64 0, .int .i64 0] (by simp))
  have B_1 := Lib.hid ((((Below.refl w.heap.size w).alloc (Nat.le_refl _) (.cells #[.int .i64 x0, .int .i64 x1, .int .i64 y0, .int .i64 y1] 23)).alloc (by have := Nat.le_refl w.heap.size; simp <;> omega) (.cells #[.int .i64 u0, .int .i64 u1, .int .i64 v0, .int .i64 v1] 23)).alloc (by have := Nat.le_refl w.heap.size; simp <;> omega) (.cells #[.int .i64 0, .int .i64 0, .int .i64 0, .int .i64 0] 23))
  generalize (((w.alloc (.cells #[.int .i64 x0, .int .i64 x1, .int .i64 y0, .int .i64 y1] 23)).alloc (.cells #[.int .i64 u0, .int .i64 u1, .int .i64 v0, .int .i64 v1] 23)).alloc (.cells #[.int .i64 0, .int .i64 0, .int .i64 0, .int .i64 0] 23)) = V1 at RA_1 RB_1 RC_1 B_1 ⊢
  have c3_0 := RA_1.out.cell 0
  have c3_1 := RA_1.out.cell 1
  have c3_2 := RA_1.out.cell 2
  have c3_3 := RA_1.out.cell 3
  simp only [List.getElem?_cons_zero, List.getElem?_cons_succ] at c3_0 c3_1 c3_2 c3_3
  have c4_0 := RB_1.out.cell 0
  have c4_1 := RB_1.out.cell 1
  have c4_2 := RB_1.out.cell 2
  have c4_3 := RB_1.out.cell 3
  simp only [List.getElem?_cons_zero, List.getElem?_cons_succ] at c4_0 c4_1 c4_2 c4_3
  go_wp2_with fail
  refine (HX.out _).mono ?_
  rintro e W2 ⟨rfl, hb⟩
  clear c3_0 c3_1 c3_2 c3_3 c4_0 c4_1 c4_2 c4_3
  have RA_5 := Lib.hid (RA_1.out.below hb RA_1.out.lt)
  have RB_5 := Lib.hid (RB_1.out.below hb RB_1.out.lt)
  have RC_5 := Lib.hid (RC_1.out.below hb RC_1.out.lt)
  have B_5 := Lib.hid (B_1.out.trans (hb.mono B_1.out.size))
  clear hb RA_1 RB_1 RC_1 B_1
  cases r
  · have c6_0 := RC_5.out.cell 0
    have c6_1 := RC_5.out.cell 1
    have c6_2 := RC_5.out.cell 2
    have c6_3 := RC_5.out.cell 3
    simp only [List.getElem?_cons_zero, List.getElem?_cons_succ] at c6_0 c6_1 c6_2 c6_3
    have f6_0 := RC_5.out.frozen 0
    have f6_1 := RC_5.out.frozen 1
    have f6_2 := RC_5.out.frozen 2
    have f6_3 := RC_5.out.frozen 3
    go_wp2
    exact bodyPost_ret (v := KV 0 0 0 0) (by simp [results, Try.results15, go_sem, *]) rfl ⟨rfl, by repeat (first | exact B_5.out | refine Below.setCell ?_ (by first | omega | (simp; done) | (simp; omega)) _ | refine Below.alloc ?_ (by have := B_5.out.size; first | omega | (simp; done) | (simp; omega)) _)⟩
  · have c6_0 := RA_5.out.cell 0
    have c6_1 := RA_5.out.cell 1
    have c6_2 := RA_5.out.cell 2
    have c6_3 := RA_5.out.cell 3
    simp only [List.getElem?_cons_zero, List.getElem?_cons_succ] at c6_0 c6_1 c6_2 c6_3
    have c7_0 := RB_5.out.cell 0
    have c7_1 := RB_5.out.cell 1
    have c7_2 := RB_5.out.cell 2
    have c7_3 := RB_5.out.cell 3
    simp only [List.getElem?_cons_zero, List.getElem?_cons_succ] at c7_0 c7_1 c7_2 c7_3
    have c8_0 := RC_5.out.cell 0
    have c8_1 := RC_5.out.cell 1
    have c8_2 := RC_5.out.cell 2
    have c8_3 := RC_5.out.cell 3
    simp only [List.getElem?_cons_zero, List.getElem?_cons_succ] at c8_0 c8_1 c8_2 c8_3
    have f8_0 := RC_5.out.frozen 0
    have f8_1 := RC_5.out.frozen 1
    have f8_2 := RC_5.out.frozen 2
    have f8_3 := RC_5.out.frozen 3
    go_wp2
    exact bodyPost_ret (v := KV m0 m1 m2 m3) (by simp [results, Try.results15, go_sem, *]) rfl ⟨rfl, by repeat (first | exact B_5.out | refine Below.setCell ?_ (by first | omega | (simp; done) | (simp; omega)) _ | refine Below.alloc ?_ (by have := B_5.out.size; first | omega | (simp; done) | (simp; omega)) _)⟩

end Go.Proofs.Ytbmfijcckdkmdaa.Ky
