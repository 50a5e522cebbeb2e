/-
  The contracts of the reference's disk: asked and done; of the statements' kind.
-/
import Derived.Test.YtnojkoefdigcnaaRows
import Derived.Test.YtnojkoefdigcnaaWords
namespace Go.Proofs.Ytnojkoefdigcnaa.Dsk
set_option maxRecDepth 100000
open Go.RowKit Go.Proofs.Ytnojkoefdigcnaa.Wd

/-- what asking of an operation comes to: behind how many operations one fails, and the error -/
def askedM (dead : Bool) (n : Nat) (fails i : Int) : Int × Int :=
  if dead = true then (fails, 9) else if i < 0 ∨ (n : Int) ≤ i then (fails, 2) else if fails = 0 then (-1, 8) else if 0 < fails then (fails - 1, 0) else (fails, 0)

/-- what a write or a sync comes to: whether the power is gone, how many are left, how many were done, whether this one is -/
def doneM (dead : Bool) (left ops : Int) : Bool × Int × Int × Bool :=
  if left = 0 then (true, left, ops, false) else if 0 < left then (dead, left - 1, ops + 1, true) else (dead, left, ops + 1, true)

end Go.Proofs.Ytnojkoefdigcnaa.Dsk
