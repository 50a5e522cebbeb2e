/-
  The contract of the reference's holds.
-/
import Derived.Test.YtnojkoefdigcnaaDsk2
namespace Go.Proofs.Ytnojkoefdigcnaa.Dsk
set_option maxRecDepth 100000
open Go.RowKit Go.Proofs.Ytnojkoefdigcnaa.Wd

/-- the cells of a pending write -/
def wcs (p : Int × List UInt8) : List Value := .int .i64 p.1 :: bv p.2
/-- The address A, with as many sectors as ls has, reads ls; it lies below block B. -/
def Blks (w : World) (B : Nat) (A : Option Addr) (ls : List (List UInt8)) : Prop :=
  0 < ls.length → ∃ b o, A = some ⟨b, o, none⟩ ∧ b < B ∧ ∀ i, i < ls.length → (ls.getD i []).length = 64 ∧ w.rangeAt b (o + i * 64) (bv (ls.getD i []))
/-- The address A, with as many writes as ps has, reads ps; it lies below block B. -/
def Wrs (w : World) (B : Nat) (A : Option Addr) (ps : List (Int × List UInt8)) : Prop :=
  0 < ps.length → ∃ b o, A = some ⟨b, o, none⟩ ∧ b < B ∧ ∀ i, i < ps.length → (ps.getD i (0, [])).2.length = 64 ∧ w.rangeAt b (o + i * 65) (wcs (ps.getD i (0, [])))
theorem wcs_len (p : Int × List UInt8) (h : p.2.length = 64) : (wcs p).length = 65 := by simp [wcs, bv, h]
theorem wcs_one (p : Int × List UInt8) : ∀ v ∈ wcs p, v.oneCell' = true := by
  intro v hv
  rcases List.mem_cons.1 hv with rfl | hv
  · rfl
  · exact bv_one v hv
theorem splice_all {α : Type} (L cs : List α) (h : L.length = cs.length) : splice L 0 cs = cs := by simp [splice, ← h]
theorem range_below {w w' : World} {B b o : Nat} {cs : List Value} (h : w.rangeAt b o cs) (hb : Below B w w') (hlt : b < B) : w'.rangeAt b o cs := fun j v hj => (hb.cell (p := ⟨b, o + j, none⟩) hlt).trans (h j v hj)

/-- what a sector holds -/
def holdsM (safe : List (List UInt8)) (pend : List (Int × List UInt8)) (i : Nat) : List UInt8 :=
  pend.foldl (fun b p => if p.1 = (i : Int) then p.2 else b) (safe.getD i [])

end Go.Proofs.Ytnojkoefdigcnaa.Dsk
