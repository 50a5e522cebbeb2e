/-
  The statements' wakes.
-/
import Derived.Test.YtnojkoefdigcnaaPgI
import Derived.Great.BuildSlice
import Derived.Deep.SlicePairs
namespace Go.Proofs.Ytnojkoefdigcnaa.Pg
set_option maxRecDepth 100000
open Go.RowKit Go.Proofs.Ytnojkoefdigcnaa.Wd Go.Proofs.Ytnojkoefdigcnaa.Oct Go.Proofs.Ytnojkoefdigcnaa.Dsk Go.Proofs.Ytnojkoefdigcnaa.Rec Go.Proofs.Ytnojkoefdigcnaa.Sum Go.Proofs.Ytnojkoefdigcnaa.Sm

def slw : Nat → List UInt8 := fun k => if k = 0 then [7] else []
def sw (b : Nat) : PS := ⟨fun k => if k = 0 then some ⟨b, 0, none⟩ else none, fun k => if k = 0 then 1 else 0, fun k => if k = 0 then 1 else 0⟩
theorem first12 : (pageB 1 2 slw).take 12 = [0, 1, 0, 0, 0, 0, 0, 0, 0, 2, 1, 7] := by decide +kernel
theorem slw_at (w : World) : PgAt (w.alloc (.cells #[.int .u8 7] 5)) (w.heap.size + 1) slw (sw w.heap.size) := fun k hk => by
  match k, hk with
  | 0, _ => exact ⟨rfl, Nat.le_refl _, by show 1 ≤ maxLen; unfold maxLen; omega, (fun hh => by cases hh), lit_bs w [7] 5⟩
  | 1, _ => exact Sl.nil_ _ _
  | 2, _ => exact Sl.nil_ _ _
  | 3, _ => exact Sl.nil_ _ _
theorem slw_len : ∀ k, k < 4 → (slw k).length ≤ 52 := fun k hk => by
  unfold slw
  split <;> simp
theorem lit12 (w : World) : Bs (w.alloc (.cells #[.int .u8 0, .int .u8 1, .int .u8 0, .int .u8 0, .int .u8 0, .int .u8 0, .int .u8 0, .int .u8 0, .int .u8 0, .int .u8 2, .int .u8 1, .int .u8 7] 5)) (w.heap.size + 1) (some ⟨w.heap.size, 0, none⟩) [0, 1, 0, 0, 0, 0, 0, 0, 0, 2, 1, 7] := lit_bs w [0, 1, 0, 0, 0, 0, 0, 0, 0, 2, 1, 7] 5

end Go.Proofs.Ytnojkoefdigcnaa.Pg
