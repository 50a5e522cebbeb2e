/-
  slices.Chunk over the bytes of a page, by its contract.
-/
import Derived.Test.YtnljhopikjkflaaPgL
import Derived.Test.YtnljhopikjkflaaInR
namespace Go.Proofs.Ytnljhopikjkflaa.Pg
set_option maxRecDepth 100000
open Go.RowKit Go.Proofs.Ytnljhopikjkflaa.Wd Go.Proofs.Ytnljhopikjkflaa.Oct Go.Proofs.Ytnljhopikjkflaa.Dsk Go.Proofs.Ytnljhopikjkflaa.Rec Go.Proofs.Ytnljhopikjkflaa.Sum Go.Proofs.Ytnljhopikjkflaa.Sm

attribute [local go_sem] Oper.semAt_some

/-- the number of a sector -/
abbrev Q4 := { q : Nat // q < 4 }
/-- what a round is given -/
def encC (g : Nat) (x : Q4) : Array Value := #[.slice (some ⟨g, 64 * x.1, none⟩) 64 64]
def sq4 (j : Nat) : Q4 := ⟨min j 3, by omega⟩
def upto4 (k : Nat) : List Q4 := (List.range k).map sq4
theorem upto4_succ (k : Nat) : upto4 (k + 1) = upto4 k ++ [sq4 k] := by simp [upto4, List.range_succ]
theorem upto4_len (k : Nat) : (upto4 k).length = k := by simp [upto4]
/-- blocks of K lie as they lay -/
def KeepB (K : Nat → Prop) (W W' : World) : Prop := ∀ k, K k → W'.heap[k]? = W.heap[k]?
theorem KeepB.trans {K : Nat → Prop} {A B C : World} (h : KeepB K A B) (k : KeepB K B C) : KeepB K A C := fun i hi => (k i hi).trans (h i hi)
theorem KeepB.cell {K : Nat → Prop} {W W' : World} {b o : Nat} {v : Value} (h : KeepB K W W') (hb : K b) (hc : W.cell? ⟨b, o, none⟩ = some v) : W'.cell? ⟨b, o, none⟩ = some v := (World.cell?_of_block (a := ⟨b, o, none⟩) (h b hb)).trans hc

end Go.Proofs.Ytnljhopikjkflaa.Pg
