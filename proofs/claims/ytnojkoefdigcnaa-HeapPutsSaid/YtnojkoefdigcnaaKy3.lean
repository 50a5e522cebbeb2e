/-
  Keys: Covers, Meets.
-/
import Derived.Test.YtnojkoefdigcnaaKy1
import Derived.LoopTactic
import Derived.Deep.RegionHeld
import Derived.Deep.Cut
import Derived.WalkLawsBesides
namespace Go.Proofs.Ytnojkoefdigcnaa.Ky
set_option maxRecDepth 100000
open Go.RowKit Go.Proofs.Ytnojkoefdigcnaa.Wd Go.Proofs.Ytnojkoefdigcnaa.Wi Go.Proofs.Ytnojkoefdigcnaa.Lift

/-- does a box cover another one? -/
def coverB (x0 x1 y0 y1 u0 u1 v0 v1 : Int) : Bool := boxB x0 x1 y0 y1 && boxB u0 u1 v0 v1 && decide (x0 ≤ u0 ∧ u1 ≤ x1 ∧ y0 ≤ v0 ∧ v1 ≤ y1)
theorem ite4 {α : Type} {a b c d : Prop} [Decidable a] [Decidable b] [Decidable c] [Decidable d] (f : Bool → α) {q : Bool} (h : decide (a ∧ b ∧ c ∧ d) = q) :
    (if a then if b then if c then if d then f true else f false else f false else f false else f false) = f q := by
  subst h
  by_cases ha : a <;> by_cases hb : b <;> by_cases hc : c <;> by_cases hd : d <;> simp [ha, hb, hc, hd]
theorem covers_key (x0 x1 y0 y1 u0 u1 v0 v1 : Int) : decide (minI x0 u0 = x0 ∧ maxI x1 u1 = x1 ∧ minI y0 v0 = y0 ∧ maxI y1 v1 = y1) = decide (x0 ≤ u0 ∧ u1 ≤ x1 ∧ y0 ≤ v0 ∧ v1 ≤ y1) := by
  rw [decide_eq_decide]
  unfold minI maxI
  constructor
  · rintro ⟨h1, h2, h3, h4⟩
    split at h1 <;> split at h2 <;> split at h3 <;> split at h4 <;> omega
  · rintro ⟨h1, h2, h3, h4⟩
    rw [if_neg (by omega), if_neg (by omega), if_neg (by omega), if_neg (by omega)]
    exact ⟨rfl, rfl, rfl, rfl⟩
/-- have two boxes a point in common? -/
def meetB (x0 x1 y0 y1 u0 u1 v0 v1 : Int) : Bool := boxB (maxI x0 u0) (minI x1 u1) (maxI y0 v0) (minI y1 v1)
end Go.Proofs.Ytnojkoefdigcnaa.Ky
