/-
  The sum of 32 bits keeps the parity of bits: a page of which an odd number of bits is turned is none. No program here.
-/
import Derived.Test.YteoopijcclfdcaaSumM
namespace Go.Proofs.Yteoopijcclfdcaa.Par
set_option maxRecDepth 100000
open Go.Proofs.Yteoopijcclfdcaa.Wd Go.Proofs.Yteoopijcclfdcaa.Sm

def parF : Nat → Nat → Bool
  | 0, _ => false
  | f + 1, n => (n % 2 == 1) ^^ parF f (n / 2)
def par (n : Nat) : Bool := parF 64 n
theorem parF_xor (f : Nat) : ∀ a b, parF f (a ^^^ b) = (parF f a ^^ parF f b) := by
  induction f with
  | zero => intro a b; rfl
  | succ f ih =>
    intro a b
    have e : (a ^^^ b) / 2 = a / 2 ^^^ b / 2 := Nat.xor_div_two
    show (((a ^^^ b) % 2 == 1) ^^ parF f ((a ^^^ b) / 2)) = (((a % 2 == 1) ^^ parF f (a / 2)) ^^ ((b % 2 == 1) ^^ parF f (b / 2)))
    rw [e, ih, xor_mod2]
    generalize parF f (a / 2) = x
    generalize parF f (b / 2) = y
    have ha := Nat.mod_two_eq_zero_or_one a
    have hb := Nat.mod_two_eq_zero_or_one b
    rw [Nat.add_mod]
    rcases ha with ha | ha <;> rcases hb with hb | hb <;> rw [ha, hb] <;> cases x <;> cases y <;> rfl
theorem parF_zero (f : Nat) : parF f 0 = false := by
  induction f with
  | zero => rfl
  | succ f ih => show ((0 % 2 == 1) ^^ parF f (0 / 2)) = false; rw [Nat.zero_div, ih]; rfl
theorem parF_more (f : Nat) : ∀ n, n < 2 ^ f → parF (f + 1) n = parF f n := by
  induction f with
  | zero =>
    intro n hn
    obtain rfl : n = 0 := by simpa using hn
    rfl
  | succ f ih =>
    intro n hn
    have h := ih (n / 2) (by rw [Nat.pow_succ] at hn; omega)
    show ((n % 2 == 1) ^^ parF (f + 1) (n / 2)) = ((n % 2 == 1) ^^ parF f (n / 2))
    rw [h]
theorem parF_split (f : Nat) (x : Nat) : ∀ i b, b < 2 ^ i → parF (i + f) (2 ^ i * x + b) = (parF i b ^^ parF f x) := by
  intro i
  induction i with
  | zero =>
    intro b hb
    obtain rfl : b = 0 := by simpa using hb
    simp [parF]
  | succ i ih =>
    intro b hb
    have h2 : b / 2 < 2 ^ i := by rw [Nat.pow_succ] at hb; omega
    have e1 : (2 ^ (i + 1) * x + b) % 2 = b % 2 := by rw [Nat.pow_succ, Nat.mul_assoc, Nat.mul_comm, Nat.mul_assoc]; omega
    have e2 : (2 ^ (i + 1) * x + b) / 2 = 2 ^ i * x + b / 2 := by
      rw [Nat.pow_succ, Nat.mul_assoc, Nat.mul_left_comm]
      omega
    rw [show i + 1 + f = (i + f) + 1 from by omega]
    show (((2 ^ (i + 1) * x + b) % 2 == 1) ^^ parF (i + f) ((2 ^ (i + 1) * x + b) / 2)) = (((b % 2 == 1) ^^ parF i (b / 2)) ^^ parF f x)
    rw [e1, e2, ih _ h2, Bool.xor_assoc]
theorem par_le (f : Nat) : ∀ d n, n < 2 ^ f → parF (f + d) n = parF f n
  | 0, _, _ => rfl
  | d + 1, n, h => by
    rw [← Nat.add_assoc, parF_more (f + d) n (Nat.lt_of_lt_of_le h (Nat.pow_le_pow_right (by omega) (by omega))), par_le f d n h]
def P32 : Nat := 2197175160
theorem par_half (s : Nat) (hs : s < 2 ^ 32) : par (half P32 s) = par s := by
  have hd : s / 2 < 2 ^ 63 := by omega
  have e : par s = ((s % 2 == 1) ^^ par (s / 2)) := by
    show ((s % 2 == 1) ^^ parF 63 (s / 2)) = ((s % 2 == 1) ^^ parF (63 + 1) (s / 2))
    rw [parF_more 63 _ hd]
  rcases Nat.mod_two_eq_zero_or_one s with h | h
  · rw [half_even h, e, h]
    simp
  · rw [half_odd h, e, h]
    show parF 64 (s / 2 ^^^ P32) = _
    rw [parF_xor, show parF 64 P32 = true from by decide]
    show (par (s / 2) ^^ true) = (true ^^ par (s / 2))
    cases par (s / 2) <;> rfl
theorem par_halves (n : Nat) : ∀ s, s < 2 ^ 32 → par (halves P32 n s) = par s := by
  induction n with
  | zero => intro s _; rfl
  | succ n ih =>
    intro s hs
    have h1 : half P32 s < 2 ^ 32 := half_lt (by decide) hs
    have e : halves P32 (n + 1) s = halves P32 n (half P32 s) := rfl
    rw [e, ih _ h1, par_half s hs]
/-- the bit of place k in its byte -/
def mk (k : Nat) : UInt8 := UInt8.ofNat (128 / 2 ^ (k % 8))
theorem mk_par (k : Nat) : par (mk k).toNat = true := by
  have h : ∀ r, r < 8 → par (UInt8.ofNat (128 / 2 ^ r)).toNat = true := by decide
  exact h (k % 8) (Nat.mod_lt _ (by omega))
theorem byte_lt (b : UInt8) : b.toNat < 2 ^ 8 := b.toNat_lt
theorem par_byte (b : UInt8) (x : Nat) (hx : x < 2 ^ 24) : par (x * 256 + b.toNat) = (par b.toNat ^^ par x) := by
  have h := parF_split 56 x 8 b.toNat (byte_lt b)
  have h1 : par (x * 256 + b.toNat) = parF (8 + 56) (2 ^ 8 * x + b.toNat) := by
    rw [show x * 256 + b.toNat = 2 ^ 8 * x + b.toNat from by omega]
    rfl
  rw [h1, h]
  have h2 : parF 8 b.toNat = par b.toNat := (par_le 8 56 b.toNat (byte_lt b)).symm
  have h3 : parF 56 x = par x := (par_le 56 8 x (by omega)).symm
  rw [h2, h3]
theorem par_num (a b c d : UInt8) : par (num [a, b, c, d]) = (par a.toNat ^^ par b.toNat ^^ par c.toNat ^^ par d.toNat) := by
  have ha := byte_lt a
  have hb := byte_lt b
  have hc := byte_lt c
  have e : num [a, b, c, d] = ((a.toNat * 256 + b.toNat) * 256 + c.toNat) * 256 + d.toNat := by simp [num]
  rw [e, par_byte d _ (by omega), par_byte c _ (by omega), par_byte b _ (by omega)]
  cases par a.toNat <;> cases par b.toNat <;> cases par c.toNat <;> cases par d.toNat <;> rfl
theorem par_xor (a b : Nat) : par (a ^^^ b) = (par a ^^ par b) := parF_xor 64 a b
/-- the parity that a page's bytes have against their sum -/
def Ph (x : List UInt8) : Bool := par (sm P32 4 (x.take 252)) ^^ par (num (x.drop 252))
/-- bit k is turned -/
def fl (x : List UInt8) (k : Nat) : List UInt8 := x.set (k / 8) (x.getD (k / 8) 0 ^^^ mk k)
theorem fl_len (x : List UInt8) (k : Nat) : (fl x k).length = x.length := by simp [fl]
theorem four (l : List UInt8) (h : l.length = 4) : ∃ a b c d, l = [a, b, c, d] := by
  match l, h with
  | [a, b, c, d], _ => exact ⟨a, b, c, d, rfl⟩
theorem Ph_fl (x : List UInt8) (hx : x.length = 256) (k : Nat) (hk : k < 2048) : Ph (fl x k) = !Ph x := by
  have hi : k / 8 < 256 := by omega
  have hm := mk_par k
  unfold Ph fl
  generalize mk k = m at hm
  generalize k / 8 = i at hi
  by_cases h : i < 252
  · have e1 : (x.set i (x.getD i 0 ^^^ m)).take 252 = (x.take 252).set i ((x.take 252).getD i 0 ^^^ m) := by
      rw [List.take_set]
      congr 2
      simp [List.getD_eq_getElem?_getD, List.getElem?_take, h]
    have e2 : (x.set i (x.getD i 0 ^^^ m)).drop 252 = x.drop 252 := List.drop_set_of_lt h
    rw [e1, e2]
    have hl : i < (x.take 252).length := by rw [List.length_take, hx]; omega
    have e3 : sm P32 4 ((x.take 252).set i ((x.take 252).getD i 0 ^^^ m)) = sm P32 4 (x.take 252) ^^^ halves P32 (8 * ((x.take 252).length - i)) m.toNat := by
      unfold sm
      rw [tot_set P32 m (x.take 252) (ones 4) i hl, Nat.xor_assoc, Nat.xor_assoc, Nat.xor_comm (ones 4)]
    rw [e3, par_xor, par_halves _ _ (Nat.lt_of_lt_of_le (byte_lt m) (by decide)), hm]
    cases par (sm P32 4 (x.take 252)) <;> cases par (num (x.drop 252)) <;> rfl
  · have e1 : (x.set i (x.getD i 0 ^^^ m)).take 252 = x.take 252 := by
      rw [List.take_set]
      exact List.set_eq_of_length_le (by rw [List.length_take]; omega)
    obtain ⟨a, b, c, d, hd⟩ := four (x.drop 252) (by rw [List.length_drop, hx])
    have e0 : x.getD i 0 = (x.drop 252).getD (i - 252) 0 := by
      simp only [List.getD_eq_getElem?_getD, List.getElem?_drop]
      rw [show 252 + (i - 252) = i from by omega]
    have e2 : (x.set i (x.getD i 0 ^^^ m)).drop 252 = (x.drop 252).set (i - 252) ((x.drop 252).getD (i - 252) 0 ^^^ m) := by
      rw [List.drop_set, if_neg h, e0]
    rw [e1, e2, hd]
    have hj : i - 252 < 4 := by omega
    generalize i - 252 = j at hj
    have hx2 : ∀ u : UInt8, par (u ^^^ m).toNat = !par u.toNat := fun u => by
      rw [UInt8.toNat_xor, par_xor, hm]
      cases par u.toNat <;> rfl
    have hfin : ∀ s p q : Bool, (s ^^ !(p ^^ q)) = !(s ^^ (p ^^ q)) := by decide
    match j, hj with
    | 0, _ =>
      simp only [List.getD_cons_zero, List.set_cons_zero, par_num, hx2]
      cases par (sm P32 4 (x.take 252)) <;> cases par a.toNat <;> cases par b.toNat <;> cases par c.toNat <;> cases par d.toNat <;> rfl
    | 1, _ =>
      simp only [List.getD_cons_succ, List.getD_cons_zero, List.set_cons_succ, List.set_cons_zero, par_num, hx2]
      cases par (sm P32 4 (x.take 252)) <;> cases par a.toNat <;> cases par b.toNat <;> cases par c.toNat <;> cases par d.toNat <;> rfl
    | 2, _ =>
      simp only [List.getD_cons_succ, List.getD_cons_zero, List.set_cons_succ, List.set_cons_zero, par_num, hx2]
      cases par (sm P32 4 (x.take 252)) <;> cases par a.toNat <;> cases par b.toNat <;> cases par c.toNat <;> cases par d.toNat <;> rfl
    | 3, _ =>
      simp only [List.getD_cons_succ, List.getD_cons_zero, List.set_cons_succ, List.set_cons_zero, par_num, hx2]
      cases par (sm P32 4 (x.take 252)) <;> cases par a.toNat <;> cases par b.toNat <;> cases par c.toNat <;> cases par d.toNat <;> rfl
/-- bytes and their sum -/
theorem Ph_sum (l : List UInt8) (hl : l.length = 252) : Ph (l ++ hi 4 (sm P32 4 l)) = false := by
  unfold Ph
  rw [List.take_append_of_le_length (by omega), List.take_of_length_le (by omega), List.drop_append_of_le_length (by omega), List.drop_of_length_le (by omega), List.nil_append, num_hi]
  have h : sm P32 4 l < 256 ^ 4 := sm_lt poly32 l
  rw [Nat.mod_eq_of_lt h]
  simp
theorem Ph_zero (c0 : Nat) (h : sm P32 4 (List.replicate 252 0) = c0) (hp : par c0 = false) : Ph (List.replicate 256 0) = false := by
  unfold Ph
  rw [show (List.replicate 256 (0 : UInt8)).take 252 = List.replicate 252 0 from by rw [List.take_replicate]; rfl, h, hp]
  decide
end Go.Proofs.Yteoopijcclfdcaa.Par
