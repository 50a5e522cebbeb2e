/-
  A page's bytes: bytesOf, Encode.
-/
import Derived.Test.YtnojkoefdigcnaaPgB
namespace Go.Proofs.Ytnojkoefdigcnaa.Pg
set_option maxRecDepth 100000
open Go.RowKit Go.Proofs.Ytnojkoefdigcnaa.Wd Go.Proofs.Ytnojkoefdigcnaa.Oct Go.Proofs.Ytnojkoefdigcnaa.Dsk Go.Proofs.Ytnojkoefdigcnaa.Rec Go.Proofs.Ytnojkoefdigcnaa.Sum Go.Proofs.Ytnojkoefdigcnaa.Sm

/-- a page's bytes -/
def pageB (num : Int) (lsn : Nat) (sl : Nat → List UInt8) : List UInt8 := bodyB num lsn sl ++ hi 4 (sm 2197175160 4 (bodyB num lsn sl))
theorem pageB_len {num : Int} {lsn : Nat} {sl : Nat → List UInt8} (h : ∀ k, k < 4 → (sl k).length ≤ 52) : (pageB num lsn sl).length = 256 := by
  simp [pageB, bodyB_len h, hi_length]
theorem idx_any (s : PS) (k : Nat) (hk : k < 4) (u : World) : (Instr.index 71 (.agg (scs s).toArray) (.int .i64 (k : Int))).run Try.prog u = .ok (.slice (s.A k) (s.n k) (s.c k)) u := by
  match k, hk with
  | 0, _ => exact show (Instr.index 71 (.agg (scs s).toArray) (.int .i64 0)).run Try.prog u = .ok (.slice (s.A 0) (s.n 0) (s.c 0)) u by kernel_rfl
  | 1, _ => exact show (Instr.index 71 (.agg (scs s).toArray) (.int .i64 1)).run Try.prog u = .ok (.slice (s.A 1) (s.n 1) (s.c 1)) u by kernel_rfl
  | 2, _ => exact show (Instr.index 71 (.agg (scs s).toArray) (.int .i64 2)).run Try.prog u = .ok (.slice (s.A 2) (s.n 2) (s.c 2)) u by kernel_rfl
  | 3, _ => exact show (Instr.index 71 (.agg (scs s).toArray) (.int .i64 3)).run Try.prog u = .ok (.slice (s.A 3) (s.n 3) (s.c 3)) u by kernel_rfl
theorem ub_cell (n : Nat) (h : n ≤ 52) (w : World) : Bs (w.alloc (.cells #[.int .u8 (n : Int)] 5)) (w.heap.size + 1) (some ⟨w.heap.size, 0, none⟩) [ub n] := by
  have := lit_bs w [ub n] 5
  have e : ((ub n).toNat : Int) = (n : Int) := by simp [ub]; omega
  simpa [bv, e] using this
/-- what Encode answers -/
def Enc (w : World) (num : Int) (lsn : Nat) (sl : Nat → List UInt8) (ok : Bool) (e : Ending) (w' : World) : Prop := ∃ v, e = .returned (.tuple #[v, .int .i64 (errP ok)]) ∧ Own w' w.heap.size v (if ok = true then pageB num lsn sl else []) ∧ Below w.heap.size w w'
end Go.Proofs.Ytnojkoefdigcnaa.Pg
