/-
  The contracts of the calls that seal and open.
-/
import Derived.Test.YtnljhopikjkflaaOct1
import Derived.Test.YtnljhopikjkflaaOct2
import Derived.Test.YtnljhopikjkflaaSum1
namespace Go.Proofs.Ytnljhopikjkflaa.Sum
open Go.RowKit Go.Proofs.Ytnljhopikjkflaa.Wd Go.Proofs.Ytnljhopikjkflaa.Oct Go.Proofs.Ytnljhopikjkflaa.Sm

theorem same_n (A1 A2 : Option Addr) (l1 l2 : List UInt8) (c1 c2 n1 n2 : Nat) (w : World) (h1 : l1.length = n1) (h2 : l2.length = n2) (hm : n1 ≤ 140737488355336) (B1 B2 : Nat) (r1 : Bs w B1 A1 l1) (r2 : Bs w B2 A2 l2) :
    Calls Try.prog 16 #[.slice A1 n1 c1, .slice A2 n2 c2] w fun e w' => e = .returned (.bool (decide (l1 = l2))) ∧ Still w w' := by
  subst h1
  subst h2
  exact same_any A1 A2 l1 l2 c1 c2 w (by unfold maxLen; omega) B1 B2 r1 r2
theorem equal_n (A1 A2 : Option Addr) (l1 l2 : List UInt8) (c1 c2 n1 n2 : Nat) (w : World) (h1 : l1.length = n1) (h2 : l2.length = n2) (hm : n1 ≤ 140737488355336) (B1 B2 : Nat) (r1 : Bs w B1 A1 l1) (r2 : Bs w B2 A2 l2) :
    Calls Try.prog 21 #[.slice A1 n1 c1, .slice A2 n2 c2] w fun e w' => e = .returned (.bool (decide (l1 = l2))) ∧ w = w' := by
  subst h1
  subst h2
  exact equal_any A1 A2 l1 l2 c1 c2 w (by unfold maxLen; omega) B1 B2 r1 r2
theorem below_still {B : Nat} {a w w' : World} (h : Below B a w) (hs : Still w w') : Below B a w' := by
  obtain ⟨n, rfl⟩ := hs
  exact ⟨h.os, h.tape, h.output, h.size, h.block⟩
theorem lit_bs (w : World) (l : List UInt8) (t : TypeId) : Bs (w.alloc (.cells (bv l).toArray t)) (w.heap.size + 1) (some ⟨w.heap.size, 0, none⟩) l :=
  (Row.new w t (bv l)).bs (by omega)

/-- a number's n bytes the other way round -/
def rev (n x : Nat) : Nat := num (lo n x)
theorem hi_num : ∀ l : List UInt8, hi l.length (num l) = l
  | [] => rfl
  | c :: l => by
    have h := num_lt l
    have hp : 0 < 256 ^ l.length := Nat.pow_pos (by omega)
    have e2 := hi_mod l.length l.length (c.toNat * 256 ^ l.length + num l) (Nat.le_refl _)
    rw [Nat.add_comm, Nat.add_mul_mod_self_right, Nat.mod_eq_of_lt h, hi_num l] at e2
    rw [List.length_cons, num_cons, hi, Nat.add_comm, ← e2, Nat.add_mul_div_right _ _ hp, Nat.div_eq_of_lt h, Nat.zero_add]
    simp
theorem hi_rev (n x : Nat) : hi n (rev n x) = lo n x := by
  have h := hi_num (lo n x)
  rwa [lo_length] at h
theorem rev_lt (n x : Nat) : rev n x < 256 ^ n := by
  have h := num_lt (lo n x)
  rwa [lo_length] at h
theorem rev2 (x : Nat) (hx : x < 65536) : rev 2 x = x % 256 * 256 + x / 256 := by
  simp [rev, lo, num]; omega
theorem rev4 (x : Nat) (hx : x < 4294967296) : rev 4 x = x % 256 * 16777216 + x / 256 % 256 * 65536 + x / 65536 % 256 * 256 + x / 16777216 := by
  simp only [rev, lo, num, List.foldl_cons, List.foldl_nil, UInt8.toNat_ofNat', Nat.div_div_eq_div_mul, Nat.reduceMul, Nat.reducePow]; omega
theorem and_split {i al bl : Nat} (ha : al < 2 ^ i) (hb : bl < 2 ^ i) (ah bh : Nat) : (2 ^ i * ah + al) &&& (2 ^ i * bh + bl) = 2 ^ i * (ah &&& bh) + (al &&& bl) := by
  apply Nat.eq_of_testBit_eq
  intro j
  rw [Nat.testBit_and, Nat.testBit_two_pow_mul_add _ ha, Nat.testBit_two_pow_mul_add _ hb, Nat.testBit_two_pow_mul_add _ (Nat.and_lt_two_pow _ hb)]
  split <;> simp
theorem or_split {i al bl : Nat} (ha : al < 2 ^ i) (hb : bl < 2 ^ i) (ah bh : Nat) : (2 ^ i * ah + al) ||| (2 ^ i * bh + bl) = 2 ^ i * (ah ||| bh) + (al ||| bl) := by
  apply Nat.eq_of_testBit_eq
  intro j
  rw [Nat.testBit_or, Nat.testBit_two_pow_mul_add _ ha, Nat.testBit_two_pow_mul_add _ hb, Nat.testBit_two_pow_mul_add _ (Nat.or_lt_two_pow ha hb)]
  split <;> simp
theorem and_low (x : Nat) : x &&& 255 = x % 256 := Nat.and_two_pow_sub_one_eq_mod x 8
theorem and_mask (m : Nat) : m &&& 16711935 = 65536 * (m / 65536 % 256) + m % 256 := by
  have h := and_split (i := 16) (al := m % 65536) (bl := 255) (Nat.mod_lt _ (by decide)) (by decide) (m / 65536) 255
  rw [and_low, and_low] at h
  have e1 : 2 ^ 16 * (m / 65536) + m % 65536 = m := by omega
  rw [e1] at h
  have e2 : m % 65536 % 256 = m % 256 := by omega
  rw [e2] at h
  exact h
theorem or_bytes {a b : Nat} (ha : a < 256) : a ||| 256 * b = 256 * b + a := by
  have := Nat.two_pow_add_eq_or_of_lt (i := 8) (b := a) (by simpa using ha) b
  rw [Nat.or_comm]
  exact this.symm
theorem or_bytes2 {b0 b1 b2 b3 : Nat} (h0 : b0 < 256) (h1 : b1 < 256) (h3 : b3 < 256) : (65536 * b3 + b1) ||| 256 * (65536 * b2 + b0) = 65536 * (256 * b2 + b3) + (256 * b0 + b1) := by
  have h := or_split (i := 16) (al := b1) (bl := 256 * b0) (by omega) (by omega) b3 (256 * b2)
  rw [or_bytes h1, or_bytes h3] at h
  have e : 256 * (65536 * b2 + b0) = 2 ^ 16 * (256 * b2) + 256 * b0 := by omega
  rw [e]
  exact h

/-- how opening goes: the error, and what goes out -/
def res (p n : Nat) (l : List UInt8) : Int × List UInt8 :=
  if l.length < n then (7, []) else if sealed p n (l.take (l.length - n)) = l then (0, l.take (l.length - n)) else (130, [])
/-- what an opening leaves -/
def Opn (w : World) (r : Int × List UInt8) (e : Ending) (w' : World) : Prop :=
  ∃ A m c l q, e = .returned (.tuple #[.slice A m c, .int .i64 q]) ∧ Hid (l.length = m) ∧ m ≤ c ∧ (A = none → c = 0) ∧ Bs w' w'.heap.size A l ∧ Below w.heap.size w w' ∧ Hid (r = (q, l))

end Go.Proofs.Ytnljhopikjkflaa.Sum
