/-
  Keys: Check at the class of boxes, boxes of a list, Union.
-/
import Derived.Test.YtnojkoefdigcnaaRows
import Derived.Test.YtnojkoefdigcnaaWords
import Derived.Test.YtnojkoefdigcnaaWi1
import Derived.Test.YtnojkoefdigcnaaOpenL
import Derived.Outline
import Derived.LoopTactic
import Derived.Deep.RegionHeld
import Derived.Deep.Cut
import Derived.WalkLawsBesides
namespace Go.Proofs.Ytnojkoefdigcnaa.Ky
set_option maxRecDepth 100000
open Go.RowKit Go.Proofs.Ytnojkoefdigcnaa.Wd Go.Proofs.Ytnojkoefdigcnaa.Wi Go.Proofs.Ytnojkoefdigcnaa.Lift

abbrev KV (x0 x1 y0 y1 : Int) : Value := .agg #[.int .i64 x0, .int .i64 x1, .int .i64 y0, .int .i64 y1]
/-- is it a box? -/
def boxB (x0 x1 y0 y1 : Int) : Bool := decide (x0 ≤ x1) && decide (y0 ≤ y1)
structure Kb where
  x0 : Int
  x1 : Int
  y0 : Int
  y1 : Int
def Kb.cells (k : Kb) : List Value := [.int .i64 k.x0, .int .i64 k.x1, .int .i64 k.y0, .int .i64 k.y1]
def Kb.ok (k : Kb) : Bool := boxB k.x0 k.x1 k.y0 k.y1

theorem Check_box (x0 x1 y0 y1 : Int) (w : World) :
    Calls Try.prog 34 #[.int .i64 1, KV x0 x1 y0 y1] w fun e w' => e = .returned (.int .i64 (if boxB x0 x1 y0 y1 then 0 else 2)) ∧ Below w.heap.size w w' := by
  by_cases h1 : x1 < x0
  · rw [show boxB x0 x1 y0 y1 = false from by simp [boxB]; omega]
    go_enter Try.func34, Try.ntmps34
    go_wp2
    go_ret
    exact ⟨rfl, (Below.refl _ _).alloc (Nat.le_refl _) _⟩
  by_cases h2 : y1 < y0
  · rw [show boxB x0 x1 y0 y1 = false from by simp [boxB]; omega]
    go_enter Try.func34, Try.ntmps34
    go_wp2
    go_ret
    exact ⟨rfl, (Below.refl _ _).alloc (Nat.le_refl _) _⟩
  · rw [show boxB x0 x1 y0 y1 = true from by simp [boxB]; omega]
    go_enter Try.func34, Try.ntmps34
    go_wp2
    go_ret
    exact ⟨rfl, (Below.refl _ _).alloc (Nat.le_refl _) _⟩

def minI (a b : Int) : Int := if b < a then b else a
def maxI (a b : Int) : Int := if a < b then b else a
/-- boxes as a row of cells -/
theorem many_row {w : World} {g : Nat} {T : TypeId} (ks : List Kb) (hr : Row w g T (ks.flatMap Kb.cells)) (hg : 0 < ks.length → g < w.heap.size) : Many Kb.cells 4 w w.heap.size (some ⟨g, 0, none⟩) ks := fun hp => by
  refine ⟨_, 0, rfl, hg hp, fun i x hx j v hj => ?_⟩
  have hj4 : j < 4 := by have := (List.getElem?_eq_some_iff.1 hj).1; simpa [Kb.cells] using this
  have key : ∀ (l : List Kb) (i : Nat), l[i]? = some x → (l.flatMap Kb.cells)[i * 4 + j]? = some v := by
    intro l
    induction l with
    | nil => intro i h; simp at h
    | cons y l ih =>
      intro i h
      rw [List.flatMap_cons]
      cases i with
      | zero =>
        have : y = x := by simpa using h
        subst this
        rw [List.getElem?_append_left (by simp [Kb.cells]; omega)]
        simpa using hj
      | succ i =>
        rw [List.getElem?_append_right (by simp [Kb.cells]; omega)]
        rw [show (i + 1) * 4 + j - y.cells.length = i * 4 + j from by simp [Kb.cells]; omega]
        exact ih i (by simpa using h)
  have h := hr.cell (0 + i * 4 + j)
  rw [Nat.zero_add, key ks i hx] at h
  rw [Nat.zero_add]
  exact h
/-- the union -/
def unionV (x0 x1 y0 y1 u0 u1 v0 v1 : Int) : Value := if boxB x0 x1 y0 y1 && boxB u0 u1 v0 v1 then KV (minI x0 u0) (maxI x1 u1) (minI y0 v0) (maxI y1 v1) else KV 0 0 0 0
end Go.Proofs.Ytnojkoefdigcnaa.Ky
