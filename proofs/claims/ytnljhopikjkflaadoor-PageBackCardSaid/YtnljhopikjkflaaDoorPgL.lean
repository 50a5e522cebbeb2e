/-
  asked, Get, Set.
-/
import Derived.Test.YtnljhopikjkflaaDoorPgI
namespace Go.Proofs.YtnljhopikjkflaaDoor.Pg
set_option maxRecDepth 100000
open Go.RowKit Go.Proofs.YtnljhopikjkflaaDoor.Wd Go.Proofs.YtnljhopikjkflaaDoor.Oct Go.Proofs.YtnljhopikjkflaaDoor.Dsk Go.Proofs.YtnljhopikjkflaaDoor.Rec Go.Proofs.YtnljhopikjkflaaDoor.Sum Go.Proofs.YtnljhopikjkflaaDoor.Sm

/-- what is wrong with a page, or with a slot that is asked for -/
def askE (K : Bool) (slot : Int) : Int := if K = true then (if 0 ≤ slot ∧ slot < 4 then 0 else 2) else 160
theorem ask_no (slot : Int) : askE false slot = 160 := rfl
theorem ask_in {slot : Int} (h : 0 ≤ slot ∧ slot < 4) : askE true slot = 0 := by unfold askE; rw [if_pos rfl, if_pos h]
theorem ask_out {slot : Int} (h : ¬ (0 ≤ slot ∧ slot < 4)) : askE true slot = 2 := by unfold askE; rw [if_pos rfl, if_neg h]

/-- what Get answers -/
def Gt (w : World) (E : Int) (l : List UInt8) (e : Ending) (w' : World) : Prop := ∃ v, e = .returned (.tuple #[v, .int .i64 E]) ∧ Own w' w.heap.size v l ∧ Below w.heap.size w w'
/-- what Set tells -/
def setE (K : Bool) (slot : Int) (n : Nat) : Int := if askE K slot = 0 then (if 52 < n then 3 else 0) else askE K slot
def setM (num : Int) (sl : Nat → List UInt8) (K : Bool) (slot : Int) (b : List UInt8) (lsn2 : Nat) : DP :=
  if setE K slot b.length = 0 then ⟨0, num, lsn2, upd sl slot.toNat b⟩ else badP (setE K slot b.length)
theorem Cp.setl {w W : World} {num : Int} {lsn : Nat} {k : Nat} {sl : Nat → List UInt8} {s : PS} (h : Cp w num lsn 0 sl s W) (lsn2 : Nat) : Cp w num lsn2 0 sl s (W.setCell ⟨w.heap.size, 1, none⟩ (.int .u64 (lsn2 : Int))) := by
  refine ⟨h.r1.store 1 (.int .u64 (lsn2 : Int)), h.r2.far (p := ⟨w.heap.size, 1, none⟩) (by show w.heap.size + 1 ≠ w.heap.size; omega) _, fun j hj => by omega, h.hb.setCell (p := ⟨w.heap.size, 1, none⟩) (Nat.le_refl _) _, by simpa [World.setCell] using h.sz⟩
theorem Cp.as {w W : World} {num : Int} {lsn : Nat} {sl sl' : Nat → List UInt8} {s : PS} (h : Cp w num lsn 0 sl s W) : Cp w num lsn 0 sl' s W := ⟨h.r1, h.r2, fun j hj => by omega, h.hb, h.sz⟩

end Go.Proofs.YtnljhopikjkflaaDoor.Pg
