/-
  The contracts of the reference's disk: asked and done; of the statements' kind.
-/
import Derived.Test.YtbfpadilcfelbaaRows
import Derived.Test.YtbfpadilcfelbaaWords
namespace Go.Proofs.Ytbfpadilcfelbaa.Dsk
open Go.RowKit Go.Proofs.Ytbfpadilcfelbaa.Wd

/-- what asking of an operation comes to: behind how many operations one fails, and the error -/
def askedM (dead : Bool) (n : Nat) (fails i : Int) : Int × Int :=
  if dead = true then (fails, 9) else if i < 0 ∨ (n : Int) ≤ i then (fails, 2) else if fails = 0 then (-1, 8) else if 0 < fails then (fails - 1, 0) else (fails, 0)

set_option maxHeartbeats 1000000 in
theorem asked_any (A : Option Addr) (n c : Nat) (A2 : Option Addr) (m c2 : Nat) (dead : Bool) (left fails ops i : Int) (w : World) (hf : fails ≤ 9223372036854775807) :
    Calls Try.prog 38 #[.agg #[.slice A n c, .slice A2 m c2, .bool dead, .int .i64 left, .int .i64 fails, .int .i64 ops], .int .i64 i] w fun e w' =>
      e = .returned (.tuple #[.agg #[.slice A n c, .slice A2 m c2, .bool dead, .int .i64 left, .int .i64 (askedM dead n fails i).1, .int .i64 ops], .int .i64 (askedM dead n fails i).2]) ∧ Below w.heap.size w w' := by
  cases dead with
  | true =>
    rw [show askedM true n fails i = (fails, 9) from by simp [askedM]]
    go_enter Try.func38, Try.ntmps38
    go_wp2
    exact bodyPost_ret (v := .tuple #[.agg #[.slice A n c, .slice A2 m c2, .bool true, .int .i64 left, .int .i64 fails, .int .i64 ops], .int .i64 9]) (by simp [results, Try.results38, go_sem]) rfl ⟨rfl, ((Below.refl _ _).alloc (Nat.le_refl _) _).alloc (by simp) _⟩
  | false =>
    by_cases hi : i < 0
    · rw [show askedM false n fails i = (fails, 2) from by simp [askedM, hi]]
      go_enter Try.func38, Try.ntmps38
      go_wp2
      exact bodyPost_ret (v := .tuple #[.agg #[.slice A n c, .slice A2 m c2, .bool false, .int .i64 left, .int .i64 fails, .int .i64 ops], .int .i64 2]) (by simp [results, Try.results38, go_sem]) rfl ⟨rfl, ((Below.refl _ _).alloc (Nat.le_refl _) _).alloc (by simp) _⟩
    · by_cases hi2 : (n : Int) ≤ i
      · rw [show askedM false n fails i = (fails, 2) from by simp [askedM, hi2]]
        go_enter Try.func38, Try.ntmps38
        go_wp2
        exact bodyPost_ret (v := .tuple #[.agg #[.slice A n c, .slice A2 m c2, .bool false, .int .i64 left, .int .i64 fails, .int .i64 ops], .int .i64 2]) (by simp [results, Try.results38, go_sem]) rfl ⟨rfl, ((Below.refl _ _).alloc (Nat.le_refl _) _).alloc (by simp) _⟩
      · by_cases hf0 : fails = 0
        · subst hf0
          rw [show askedM false n 0 i = (-1, 8) from by simp [askedM, hi, hi2]]
          go_enter Try.func38, Try.ntmps38
          go_wp2
          exact bodyPost_ret (v := .tuple #[.agg #[.slice A n c, .slice A2 m c2, .bool false, .int .i64 left, .int .i64 (-1), .int .i64 ops], .int .i64 8]) (by simp [results, Try.results38, go_sem]) rfl ⟨rfl, ((Below.refl _ _).alloc (Nat.le_refl _) _).alloc (by simp) _⟩
        · have hb0 : (fails == 0) = false := by simpa using hf0
          by_cases hfp : 0 < fails
          · rw [show askedM false n fails i = (fails - 1, 0) from by simp [askedM, hi, hi2, hf0, hfp]]
            clear hf0
            go_enter Try.func38, Try.ntmps38
            go_wp2
            exact bodyPost_ret (v := .tuple #[.agg #[.slice A n c, .slice A2 m c2, .bool false, .int .i64 left, .int .i64 (fails - 1), .int .i64 ops], .int .i64 0]) (by simp [results, Try.results38, go_sem]) rfl ⟨rfl, ((Below.refl _ _).alloc (Nat.le_refl _) _).alloc (by simp) _⟩
          · rw [show askedM false n fails i = (fails, 0) from by simp [askedM, hi, hi2, hf0, hfp]]
            clear hf0
            go_enter Try.func38, Try.ntmps38
            go_wp2
            exact bodyPost_ret (v := .tuple #[.agg #[.slice A n c, .slice A2 m c2, .bool false, .int .i64 left, .int .i64 fails, .int .i64 ops], .int .i64 0]) (by simp [results, Try.results38, go_sem]) rfl ⟨rfl, ((Below.refl _ _).alloc (Nat.le_refl _) _).alloc (by simp) _⟩

/-- what a write or a sync comes to: whether the power is gone, how many are left, how many were done, whether this one is -/
def doneM (dead : Bool) (left ops : Int) : Bool × Int × Int × Bool :=
  if left = 0 then (true, left, ops, false) else if 0 < left then (dead, left - 1, ops + 1, true) else (dead, left, ops + 1, true)

set_option maxHeartbeats 1000000 in
theorem done_any (A : Option Addr) (n c : Nat) (A2 : Option Addr) (m c2 : Nat) (dead : Bool) (left fails ops : Int) (w : World) (hl : left ≤ 9223372036854775807) (hl0 : -9223372036854775808 ≤ left) (ho : 0 ≤ ops) (ho2 : ops ≤ 4611686018427387904) :
    Calls Try.prog 45 #[.agg #[.slice A n c, .slice A2 m c2, .bool dead, .int .i64 left, .int .i64 fails, .int .i64 ops]] w fun e w' =>
      e = .returned (.tuple #[.agg #[.slice A n c, .slice A2 m c2, .bool (doneM dead left ops).1, .int .i64 (doneM dead left ops).2.1, .int .i64 fails, .int .i64 (doneM dead left ops).2.2.1], .bool (doneM dead left ops).2.2.2]) ∧ Below w.heap.size w w' := by
  by_cases h0 : left = 0
  · subst h0
    rw [show doneM dead 0 ops = (true, 0, ops, false) from by simp [doneM]]
    go_enter Try.func45, Try.ntmps45
    go_wp2
    exact bodyPost_ret (v := .tuple #[.agg #[.slice A n c, .slice A2 m c2, .bool true, .int .i64 0, .int .i64 fails, .int .i64 ops], .bool false]) (by simp [results, Try.results45, go_sem]) rfl ⟨rfl, ((Below.refl _ _).alloc (Nat.le_refl _) _).alloc (by simp) _⟩
  · have hb0 : (left == 0) = false := by simpa using h0
    by_cases hp : 0 < left
    · rw [show doneM dead left ops = (dead, left - 1, ops + 1, true) from by simp [doneM, h0, hp]]
      clear h0
      go_enter Try.func45, Try.ntmps45
      go_wp2
      exact bodyPost_ret (v := .tuple #[.agg #[.slice A n c, .slice A2 m c2, .bool dead, .int .i64 (left - 1), .int .i64 fails, .int .i64 (ops + 1)], .bool true]) (by simp [results, Try.results45, go_sem]) rfl ⟨rfl, ((Below.refl _ _).alloc (Nat.le_refl _) _).alloc (by simp) _⟩
    · rw [show doneM dead left ops = (dead, left, ops + 1, true) from by simp [doneM, h0, hp]]
      clear h0
      go_enter Try.func45, Try.ntmps45
      go_wp2
      exact bodyPost_ret (v := .tuple #[.agg #[.slice A n c, .slice A2 m c2, .bool dead, .int .i64 left, .int .i64 fails, .int .i64 (ops + 1)], .bool true]) (by simp [results, Try.results45, go_sem]) rfl ⟨rfl, ((Below.refl _ _).alloc (Nat.le_refl _) _).alloc (by simp) _⟩
end Go.Proofs.Ytbfpadilcfelbaa.Dsk
