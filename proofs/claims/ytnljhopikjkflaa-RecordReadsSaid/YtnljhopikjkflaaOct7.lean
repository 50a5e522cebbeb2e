/-
  The contract of the reference's Number.
-/
import Derived.Test.YtnljhopikjkflaaOct6
namespace Go.Proofs.Ytnljhopikjkflaa.Oct
open Go.RowKit Go.Proofs.Ytnljhopikjkflaa.Wd

theorem num_any (A : Option Addr) (t : List UInt8) (m c B : Nat) (w : World) (ht : t.length = m) (hm8 : m ≤ 8) (hb : Bs w B A t) :
    Calls Try.prog 43 #[.slice A m c] w fun e w' => e = .returned (.int .u64 ((num t : Nat) : Int)) ∧ w = w' := by
  have hm := Lib.hid ht
  clear ht
  go_enter Try.func43, Try.ntmps43
  go_wp2
  go_loop [3, 4] (fun v i => ∃ k y : Nat, k ≤ m ∧ i = .int .i64 k ∧ v = .int .u64 (y : Int) ∧ Hid (y = num (t.take k))) (fun _ i => m - (intOf i).toNat)
  case atStart => exact ⟨0, 0, by omega, rfl, rfl, (show _ = _ by simp [num])⟩
  case round =>
    obtain ⟨k, y, hk, rfl, rfl, hy⟩ := hrel
    by_cases hlt : k < m
    · have hk' : k < t.length := by rw [hm.out]; exact hlt
      obtain ⟨b1, o1, rfl, hbb, hc1⟩ := hb (by omega)
      have hx1 := hc1 k hk'
      have HT : Hid (num (t.take (k + 1)) = y * 256 + (t.getD k 0).toNat) := (show _ = _ by
        rw [List.take_succ_eq_append_getElem hk', num_snoc, ← hy.out]; simp [hk'])
      have HL : Hid (y < 256 ^ k) := (show _ < _ by
        rw [hy.out]; have := num_lt (t.take k); rw [List.length_take, Nat.min_eq_left (by omega)] at this; exact this)
      clear hc1
      generalize t.getD k 0 = x at hx1 HT
      go_wp2
      go_round
      case rel =>
        refine ⟨k + 1, y * 256 + x.toNat, by omega, by go_num, ?_, HT.out.symm⟩
        rw [u64_mul_add y x k HL.out (by omega)]
      case measure => simp [intOf]; omega
    · obtain rfl : k = m := by omega
      have HQ : Hid (y = num t) := (show _ = _ by rw [hy.out, List.take_of_length_le (by rw [hm.out]; exact Nat.le_refl _)])
      clear hy
      go_wp2
      go_ret
      exact ⟨ret_int (by rw [HQ.out]), rfl⟩

/-- how many bytes an ask of kind k asks for -/
def sz (k : Nat) (N : Int) : Int := if k = 0 then 1 else if k = 1 then 2 else if k = 2 then 4 else if k = 3 then 8 else N
/-- what the reference's call leaves -/
def Did (w : World) (A : Option Addr) (n c : Nat) (k : Nat) (r : List UInt8 × Nat × Int) (e : Ending) (w' : World) : Prop :=
  ∃ A2 m2 c2, e = .returned (.tuple #[.agg #[.slice A n c, .int .i64 (r.2.1 : Int), .int .i64 r.2.2], .agg #[.int .u64 (if k < 4 then ((num r.1 : Nat) : Int) else 0), .slice A2 m2 c2]]) ∧
    Hid ((if k < 4 then [] else r.1).length = m2) ∧ Bs w' w'.heap.size A2 (if k < 4 then [] else r.1) ∧ (∀ a2, A2 = some a2 → ∃ a, A = some a ∧ a2.block = a.block) ∧ Below w.heap.size w w'

end Go.Proofs.Ytnljhopikjkflaa.Oct
