/-
  Records: the words, and the calls that only look at one.
-/
import Derived.Test.YtnljhopikjkflaaOct6
import Derived.Deep.QuietTactic
import Derived.BigQuiet
namespace Go.Proofs.Ytnljhopikjkflaa.Rec
set_option maxRecDepth 100000
open Go.RowKit Go.Proofs.Ytnljhopikjkflaa.Wd Go.Proofs.Ytnljhopikjkflaa.Oct

/-- a record -/
structure RM where
  lsn : Nat
  kind : Int
  txn : Nat
  back : Nat
  page : Int
  slot : Int
  old : List UInt8
  new : List UInt8
  next : Nat
/-- the slices that it has in memory -/
structure RS where
  Ao : Option Addr
  no : Nat
  co : Nat
  An : Option Addr
  nn : Nat
  cn : Nat
/-- the fields that count -/
def countedM (k : Int) : Nat := if k = 1 then 15 else if k = 2 then 27 else if k = 3 ∨ k = 4 then 1 else 0
/-- the fields that are filled -/
def filledM (r : RM) : Nat := (if r.page ≠ 0 ∨ r.slot ≠ 0 then 2 else 0) + (if 0 < r.old.length then 4 else 0) + (if 0 < r.new.length then 8 else 0) + (if r.next ≠ 0 then 16 else 0)
/-- it may be -/
def okM (r : RM) : Bool :=
  decide (1 ≤ r.kind ∧ r.kind ≤ 4 ∧ r.lsn ≠ 0 ∧ r.txn ≠ 0 ∧ r.back < r.lsn ∧ r.next ≤ r.back) &&
  (decide (0 ≤ r.page ∧ r.page ≤ 31 ∧ 0 ≤ r.slot ∧ r.slot ≤ 3 ∧ r.old.length ≤ 52 ∧ r.new.length ≤ 52) &&
  (if r.kind = 1 then decide (r.next = 0) && !decide (r.old = r.new)
   else if r.kind = 2 then decide (r.old.length = 0)
   else decide (r.page = 0 ∧ r.slot = 0 ∧ r.old.length = 0 ∧ r.new.length = 0 ∧ r.next = 0)))

theorem ret_u8 {a b : Int} (h : a = b) : Ending.returned (.int .u8 a) = Ending.returned (.int .u8 b) := by rw [h]
theorem counted_any (k : Int) (w : World) : Calls Try.prog 57 #[.int .i64 k] w fun e w' => e = .returned (.int .u8 (countedM k : Int)) ∧ w = w' := by
  go_enter Try.func57, Try.ntmps57
  go_wp2
  all_goals (go_ret; refine ⟨?_, rfl⟩; first | (simp_all [countedM]; done) | (unfold countedM; repeat' split; all_goals first | rfl | omega))
/-- the fields g are all among f -/
def hasB (f g : Nat) : Bool := bits BinOp.and IntKind.u8 (f : Int) (g : Int) == (g : Int)
theorem has_any (f g : Nat) (w : World) : Calls Try.prog 59 #[.int .u8 (f : Int), .int .u8 (g : Int)] w fun e w' => e = .returned (.bool (hasB f g)) ∧ w = w' := by
  go_enter Try.func59, Try.ntmps59
  go_wp2
  go_ret
  exact ⟨rfl, rfl⟩
set_option maxHeartbeats 1000000 in
theorem filled_any (r : RM) (s : RS) (w : World) (h1 : r.old.length = s.no) (h2 : r.new.length = s.nn) : Calls Try.prog 73 #[.agg #[.int .u64 (r.lsn : Int), .int .i64 r.kind, .int .u64 (r.txn : Int), .int .u64 (r.back : Int), .int .i64 r.page, .int .i64 r.slot, .slice s.Ao s.no s.co, .slice s.An s.nn s.cn, .int .u64 (r.next : Int)]] w fun e w' => e = .returned (.int .u8 (filledM r : Int)) ∧ Below w.heap.size w w' := by
  obtain ⟨lsn, kind, txn, back, page, slot, old, new, next⟩ := r
  obtain ⟨Ao, no, co, An, nn, cn⟩ := s
  simp only at h1 h2
  have H1 := Lib.hid h1
  have H2 := Lib.hid h2
  clear h1 h2
  go_enter Try.func73, Try.ntmps73
  go_wp2
  all_goals (go_ret; have h1 := H1.out; have h2 := H2.out; clear H1 H2; try simp only [bne_iff_ne, bne_eq_false_iff_eq, ne_eq, Bool.not_eq_true] at *; refine ⟨ret_u8 ?_, (Below.refl _ _).alloc (Nat.le_refl _) _⟩; simp only [filledM]; simp (disch := omega) only [if_pos, if_neg, h1, h2, ne_eq]; rfl)
theorem ok_parts (r : RM) (h : okM r = true) : (1 ≤ r.kind ∧ r.kind ≤ 4 ∧ r.lsn ≠ 0 ∧ r.txn ≠ 0 ∧ r.back < r.lsn ∧ r.next ≤ r.back) ∧ (0 ≤ r.page ∧ r.page ≤ 31 ∧ 0 ≤ r.slot ∧ r.slot ≤ 3 ∧ r.old.length ≤ 52 ∧ r.new.length ≤ 52) ∧
    ((r.kind = 1 → r.next = 0 ∧ r.old ≠ r.new) ∧ (r.kind = 2 → r.old.length = 0) ∧ (2 < r.kind → r.page = 0 ∧ r.slot = 0 ∧ r.old.length = 0 ∧ r.new.length = 0 ∧ r.next = 0)) := by
  unfold okM at h
  simp only [Bool.and_eq_true, decide_eq_true_eq] at h
  obtain ⟨h1, h2, h3⟩ := h
  refine ⟨h1, h2, fun hk => ?_, fun hk => ?_, fun hk => ?_⟩
  · simpa [hk] using h3
  · simpa [hk] using h3
  · rw [if_neg (by omega), if_neg (by omega)] at h3
    simpa using h3
theorem ok_of (r : RM) (h1 : 1 ≤ r.kind ∧ r.kind ≤ 4 ∧ r.lsn ≠ 0 ∧ r.txn ≠ 0 ∧ r.back < r.lsn ∧ r.next ≤ r.back) (h2 : 0 ≤ r.page ∧ r.page ≤ 31 ∧ 0 ≤ r.slot ∧ r.slot ≤ 3 ∧ r.old.length ≤ 52 ∧ r.new.length ≤ 52)
    (h3 : (r.kind = 1 → r.next = 0 ∧ r.old ≠ r.new) ∧ (r.kind = 2 → r.old.length = 0) ∧ (2 < r.kind → r.page = 0 ∧ r.slot = 0 ∧ r.old.length = 0 ∧ r.new.length = 0 ∧ r.next = 0)) : okM r = true := by
  unfold okM
  simp only [Bool.and_eq_true, decide_eq_true_eq]
  refine ⟨h1, h2, ?_⟩
  by_cases k1 : r.kind = 1
  · rw [if_pos k1]; simpa using h3.1 k1
  rw [if_neg k1]
  by_cases k2 : r.kind = 2
  · rw [if_pos k2]; simpa using h3.2.1 k2
  rw [if_neg k2]; simpa using h3.2.2 (by omega)
theorem no_of (r : RM) (h : okM r = true → False) : okM r = false := by
  cases hh : okM r with
  | false => rfl
  | true => exact (h hh).elim
/-- the fields that are filled count -/
theorem has_filled (r : RM) : hasB (countedM r.kind) (filledM r) = true ↔
    ((r.kind = 1 ∧ r.next = 0) ∨ (r.kind = 2 ∧ r.old.length = 0) ∨ (r.page = 0 ∧ r.slot = 0 ∧ r.old.length = 0 ∧ r.new.length = 0 ∧ r.next = 0)) := by
  by_cases p : r.page ≠ 0 ∨ r.slot ≠ 0 <;> by_cases a : 0 < r.old.length <;> by_cases b : 0 < r.new.length <;> by_cases n : r.next ≠ 0 <;>
    by_cases k1 : r.kind = 1 <;> by_cases k2 : r.kind = 2 <;> by_cases k3 : r.kind = 3 ∨ r.kind = 4 <;>
    simp (disch := omega) only [filledM, countedM, if_pos, if_neg] <;>
    first
    | (rw [show (hasB _ _ = true) = True from eq_true (by decide)]; constructor <;> first | (intro _; omega) | (intro _; trivial))
    | (rw [show (hasB _ _ = true) = False from eq_false (by decide)]; constructor <;> first | (intro h; exact h.elim) | (intro _; omega))
theorem counted_nought (k : Int) : countedM k = 0 ↔ k < 1 ∨ 4 < k := by
  unfold countedM
  repeat' split
  all_goals (constructor <;> intro h <;> first | omega | (exfalso; omega))
theorem has_before (k : Int) : hasB (countedM k) 4 = decide (k = 1) := by
  unfold countedM
  repeat' split
  all_goals first | (rw [decide_eq_true (by omega)]; decide) | (rw [decide_eq_false (by omega)]; decide)
end Go.Proofs.Ytnljhopikjkflaa.Rec
