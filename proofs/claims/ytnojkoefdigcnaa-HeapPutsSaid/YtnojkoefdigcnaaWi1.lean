/-
  The contracts of wide's functions over numbers of two halves: plusHalf, plus, Add, Sub, Cmp, halves, Mul, Width, Area, Margin.
-/
import Derived.Test.YtnojkoefdigcnaaRows
import Derived.Test.YtnojkoefdigcnaaWords
import Derived.Outline
namespace Go.Proofs.Ytnojkoefdigcnaa.Wi
set_option maxRecDepth 100000
open Go.RowKit Go.Proofs.Ytnojkoefdigcnaa.Wd

theorem row_last (w : World) (g : Nat) (t : TypeId) (cs : List Value) (hg : g = w.heap.size) : Row (w.alloc (.cells cs.toArray t)) g t cs := hg ▸ Row.new w t cs
/-- a number's halves -/
theorem split_half (x : Nat) : ∃ q z : Nat, z < 18446744073709551616 ∧ x = q * 18446744073709551616 + z :=
  ⟨x / 18446744073709551616, x % 18446744073709551616, by omega, by omega⟩
theorem not_u64 (x : Nat) (hx : x < 18446744073709551616) : bits .xor .u64 IntKind.u64.max (x : Int) = ((18446744073709551615 - x : Nat) : Int) := by
  rw [show IntKind.u64.max = ((18446744073709551615 : Nat) : Int) from by decide, u64_xor_nat _ _ (by decide) hx]
  congr 1
  apply Nat.eq_of_testBit_eq
  intro i
  rw [Nat.testBit_xor, show (18446744073709551615 : Nat) = 2 ^ 64 - 1 from by decide, Nat.testBit_two_pow_sub_one, show 2 ^ 64 - 1 - x = 2 ^ 64 - (x + 1) from by omega, Nat.testBit_two_pow_sub_succ (by omega)]
  by_cases hi : i < 64
  · simp [hi]
  · have : x.testBit i = false := Nat.testBit_lt_two_pow (Nat.lt_of_lt_of_le hx (Nat.le_trans (show _ ≤ 2 ^ 64 from by decide) (Nat.pow_le_pow_right (by omega) (by omega))))
    simp [hi, this]

/-- the order of two numbers -/
def cmpM (a b : Nat) : Int := if a < b then -1 else if a = b then 0 else 1
theorem sub_parts (a b : Nat) (ha : a < 340282366920938463463374607431768211456) (hb : b < 340282366920938463463374607431768211456) : ∃ c h l : Nat, h < 18446744073709551616 ∧ l < 18446744073709551616 ∧ c ≤ 1 ∧ a + 340282366920938463463374607431768211456 = c * 340282366920938463463374607431768211456 + (h * 18446744073709551616 + l) + b ∧ (c = 1 ↔ b ≤ a) := by
  by_cases hab : b ≤ a
  · obtain ⟨h, l, hl, he⟩ := split_half (a - b)
    exact ⟨1, h, l, by omega, hl, by omega, by omega, by omega⟩
  · obtain ⟨h, l, hl, he⟩ := split_half (a + 340282366920938463463374607431768211456 - b)
    exact ⟨0, h, l, by omega, hl, by omega, by omega, by omega⟩
theorem two_lt {h l : Nat} (hh : h < 18446744073709551616) (hl : l < 18446744073709551616) : h * 18446744073709551616 + l < 340282366920938463463374607431768211456 := by omega

/-- how wide a row is -/
def widM (lo hi : Int) : Nat := if hi < lo then 0 else (hi - lo).toNat
theorem widM_lt {lo hi : Int} (h1 : -9223372036854775808 ≤ lo) (h2 : hi ≤ 9223372036854775807) : widM lo hi < 18446744073709551616 := by unfold widM; split <;> omega
theorem low_mul {a b : Nat} (ha : a < 4294967296) (hb : b < 4294967296) : a * b < 18446744073709551616 := by
  have := Nat.mul_lt_mul_of_lt_of_le ha (Nat.le_of_lt hb) (by omega)
  have := Nat.mul_le_mul (Nat.le_of_lt ha) (Nat.le_of_lt hb)
  omega
theorem mul_parts (ah al bh bl : Nat) : (ah * 4294967296 + al) * (bh * 4294967296 + bl) = ah * bh * 18446744073709551616 + al * bl + ah * bl * 4294967296 + al * bh * 4294967296 := by
  rw [Nat.add_mul, Nat.mul_add, Nat.mul_add]
  have e1 : ah * 4294967296 * (bh * 4294967296) = ah * bh * 18446744073709551616 := by
    rw [Nat.mul_mul_mul_comm]
  have e2 : ah * 4294967296 * bl = ah * bl * 4294967296 := by rw [Nat.mul_right_comm]
  have e3 : al * (bh * 4294967296) = al * bh * 4294967296 := by rw [Nat.mul_assoc]
  omega
theorem moved (m : Nat) (_hm : m < 18446744073709551616) : ∃ mh ml : Nat, ml < 18446744073709551616 ∧ IntKind.u64.wrap ((m : Int) * 4294967296) = (ml : Int) ∧ (m : Int) / 4294967296 = (mh : Int) ∧ m * 4294967296 = mh * 18446744073709551616 + ml := by
  refine ⟨m / 4294967296, m % 4294967296 * 4294967296, by omega, ?_, by omega, by omega⟩
  rw [IntKind.wrap_u64]; omega
theorem mul_lt {x y : Nat} (hx : x < 18446744073709551616) (hy : y < 18446744073709551616) : x * y < 340282366920938463463374607431768211456 := by
  have := Nat.mul_le_mul (show x ≤ 18446744073709551615 by omega) (show y ≤ 18446744073709551615 by omega)
  omega
/-- a number below 2^128 as its halves -/
theorem parts (n : Nat) (h : n < 340282366920938463463374607431768211456) : ∃ a b : Nat, a < 18446744073709551616 ∧ b < 18446744073709551616 ∧ n = a * 18446744073709551616 + b :=
  ⟨n / 18446744073709551616, n % 18446744073709551616, by omega, by omega, by omega⟩

end Go.Proofs.Ytnojkoefdigcnaa.Wi
