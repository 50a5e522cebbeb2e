/-
  Sums as numbers: no program in them.
-/
import Derived.Test.YtnojkoefdigcnaaWords
namespace Go.Proofs.Ytnojkoefdigcnaa.Sm
open Go.Proofs.Ytnojkoefdigcnaa.Wd

/-- half a sum, turned if it was odd -/
def half (p s : Nat) : Nat := if s % 2 = 1 then (s / 2) ^^^ p else s / 2
def halves (p : Nat) : Nat → Nat → Nat
  | 0, s => s
  | n + 1, s => halves p n (half p s)
def stp (p s : Nat) (c : UInt8) : Nat := halves p 8 (s ^^^ c.toNat)
def tot (p s : Nat) (l : List UInt8) : Nat := l.foldl (stp p) s
theorem half_odd {p s : Nat} (h : s % 2 = 1) : half p s = (s / 2) ^^^ p := if_pos h
theorem half_even {p s : Nat} (h : s % 2 = 0) : half p s = s / 2 := if_neg (by omega)
theorem xor_mod2 (a b : Nat) : (a ^^^ b) % 2 = (a + b) % 2 := by
  have h := Nat.xor_mod_two_pow (a := a) (b := b) (n := 1)
  simp only [Nat.pow_one] at h
  rw [h]
  rcases Nat.mod_two_eq_zero_or_one a with ha | ha <;> rcases Nat.mod_two_eq_zero_or_one b with hb | hb <;> rw [ha, hb] <;> simp <;> omega
theorem add_xor {i b : Nat} (hb : b < 2 ^ i) (a : Nat) : 2 ^ i * a + b = 2 ^ i * a ^^^ b := by
  apply Nat.eq_of_testBit_eq
  intro j
  rw [Nat.testBit_xor, Nat.testBit_two_pow_mul_add a hb, Nat.testBit_two_pow_mul]
  by_cases h : j < i
  · rw [if_pos h, show decide (j ≥ i) = false from by simp; omega]; simp
  · have : b.testBit j = false := Nat.testBit_lt_two_pow (Nat.lt_of_lt_of_le hb (Nat.pow_le_pow_right (by omega) (by omega)))
    rw [if_neg h, this]; simp; omega
theorem half_xor (p a b : Nat) : half p (a ^^^ b) = half p a ^^^ half p b := by
  have h1 : (a ^^^ b) % 2 = (a + b) % 2 := xor_mod2 a b
  have h2 : (a ^^^ b) / 2 = a / 2 ^^^ b / 2 := Nat.xor_div_two
  unfold half
  rw [h1, h2]
  rcases Nat.mod_two_eq_zero_or_one a with ha | ha <;> rcases Nat.mod_two_eq_zero_or_one b with hb | hb
  · rw [if_neg (by omega), if_neg (by omega), if_neg (by omega)]
  · rw [if_pos (by omega), if_neg (by omega), if_pos (by omega), Nat.xor_assoc]
  · rw [if_pos (by omega), if_pos (by omega), if_neg (by omega), Nat.xor_assoc, Nat.xor_assoc, Nat.xor_comm p]
  · rw [if_neg (by omega), if_pos (by omega), if_pos (by omega)]
    rw [Nat.xor_assoc, Nat.xor_comm p, Nat.xor_assoc, Nat.xor_self, Nat.xor_zero]
theorem half_double (p a : Nat) : half p (2 * a) = a := by
  rw [half_even (by omega)]; omega
theorem halves_xor (p n : Nat) : ∀ a b, halves p n (a ^^^ b) = halves p n a ^^^ halves p n b := by
  induction n with
  | zero => intros; rfl
  | succ n ih => intro a b; rw [halves, half_xor, ih]; rfl
theorem halves_zero (p n : Nat) : halves p n 0 = 0 := by
  induction n with
  | zero => rfl
  | succ n ih => rw [halves, half_even (by rfl)]; exact ih
theorem halves_add (p : Nat) (m n : Nat) : ∀ s, halves p (m + n) s = halves p n (halves p m s) := by
  induction m with
  | zero => intro s; rw [Nat.zero_add]; rfl
  | succ m ih => intro s; rw [Nat.add_right_comm, halves, ih]; rfl
theorem halves_shift (p b : Nat) : ∀ a x, halves p (b + a) (2 ^ b * x) = halves p a x := by
  induction b with
  | zero => intro a x; simp
  | succ b ih => intro a x; rw [Nat.add_right_comm, halves, Nat.pow_succ, Nat.mul_comm (2 ^ b) 2, Nat.mul_assoc, half_double, ih]
theorem half_lt {p k s : Nat} (hp : p < 2 ^ k) (hs : s < 2 ^ k) : half p s < 2 ^ k := by
  unfold half
  split
  · exact Nat.xor_lt_two_pow (by omega) hp
  · omega
theorem halves_lt {p k : Nat} (hp : p < 2 ^ k) (n : Nat) : ∀ {s}, s < 2 ^ k → halves p n s < 2 ^ k := by
  induction n with
  | zero => intro s h; exact h
  | succ n ih => intro s h; exact ih (half_lt hp h)
/-- p has its highest bit of k -/
def Top (p k : Nat) : Prop := p < 2 ^ k ∧ 2 ^ k ≤ 2 * p
theorem half_ne {p k s : Nat} (hp : Top p k) (hs : s < 2 ^ k) (h : half p s = 0) : s = 0 := by
  unfold half at h
  split at h
  · have e : s / 2 = p := by
      have : (s / 2 ^^^ p) ^^^ p = 0 ^^^ p := by rw [h]
      rwa [Nat.xor_assoc, Nat.xor_self, Nat.xor_zero, Nat.zero_xor] at this
    have := hp.2
    omega
  · omega
theorem halves_ne {p k : Nat} (hp : Top p k) (n : Nat) : ∀ {s}, s < 2 ^ k → halves p n s = 0 → s = 0 := by
  induction n with
  | zero => intro s _ h; exact h
  | succ n ih => intro s hs h; exact half_ne hp hs (ih (half_lt hp.1 hs) h)
theorem halves_inj {p k : Nat} (hp : Top p k) (n : Nat) {a b : Nat} (ha : a < 2 ^ k) (hb : b < 2 ^ k) (h : halves p n a = halves p n b) : a = b := by
  have h1 : halves p n (a ^^^ b) = 0 := by rw [halves_xor, h, Nat.xor_self]
  have h2 := halves_ne hp n (Nat.xor_lt_two_pow ha hb) h1
  have : (a ^^^ b) ^^^ b = 0 ^^^ b := by rw [h2]
  rwa [Nat.xor_assoc, Nat.xor_self, Nat.xor_zero, Nat.zero_xor] at this
theorem tot_nil (p s : Nat) : tot p s [] = s := rfl
theorem tot_cons (p s : Nat) (c : UInt8) (l : List UInt8) : tot p s (c :: l) = tot p (stp p s c) l := rfl
theorem tot_append (p s : Nat) (a b : List UInt8) : tot p s (a ++ b) = tot p (tot p s a) b := List.foldl_append
theorem tot_take (p s : Nat) (l : List UInt8) (k : Nat) (h : k < l.length) : stp p (tot p s (l.take k)) (l.getD k 0) = tot p s (l.take (k + 1)) := by
  rw [List.take_succ_eq_append_getElem h, tot_append]
  simp [tot, h]
theorem stp_xor (p s y : Nat) (c : UInt8) : stp p (s ^^^ y) c = stp p s c ^^^ halves p 8 y := by
  unfold stp
  rw [← halves_xor, Nat.xor_assoc, Nat.xor_comm y, Nat.xor_assoc]
theorem tot_xor (p : Nat) (l : List UInt8) : ∀ s y, tot p (s ^^^ y) l = tot p s l ^^^ halves p (8 * l.length) y := by
  induction l with
  | nil => intro s y; rfl
  | cons c l ih =>
    intro s y
    rw [tot_cons, stp_xor, ih, tot_cons, List.length_cons, ← halves_add, Nat.mul_add, Nat.mul_one, Nat.add_comm]
theorem stp_lt {p k s : Nat} (hp : p < 2 ^ k) (hk : 8 ≤ k) (hs : s < 2 ^ k) (c : UInt8) : stp p s c < 2 ^ k := by
  refine halves_lt hp 8 (Nat.xor_lt_two_pow hs ?_)
  have h1 : c.toNat < 2 ^ 8 := c.toNat_lt
  exact Nat.lt_of_lt_of_le h1 (Nat.pow_le_pow_right (by omega) hk)
theorem tot_lt {p k : Nat} (hp : p < 2 ^ k) (hk : 8 ≤ k) (l : List UInt8) : ∀ {s}, s < 2 ^ k → tot p s l < 2 ^ k := by
  induction l with
  | nil => intro s h; exact h
  | cons c l ih => intro s h; exact ih (stp_lt hp hk h c)
/-- one byte turned -/
theorem tot_set (p : Nat) (m : UInt8) (l : List UInt8) : ∀ s i, i < l.length → tot p s (l.set i (l.getD i 0 ^^^ m)) = tot p s l ^^^ halves p (8 * (l.length - i)) m.toNat := by
  induction l with
  | nil => intro s i h; cases h
  | cons c l ih =>
    intro s i h
    cases i with
    | zero =>
      have e : stp p s (c ^^^ m) = stp p s c ^^^ halves p 8 m.toNat := by
        unfold stp
        rw [UInt8.toNat_xor, ← Nat.xor_assoc, halves_xor]
      rw [List.set_cons_zero, List.getD_cons_zero, tot_cons, e, tot_xor, tot_cons, List.length_cons, Nat.sub_zero, ← halves_add, Nat.mul_add, Nat.mul_one, Nat.add_comm]
    | succ i =>
      rw [List.set_cons_succ, List.getD_cons_succ, tot_cons, ih _ _ (by simpa using h), tot_cons, List.length_cons, Nat.add_sub_add_right]

/-- the lowest n bytes of a number, the lowest first -/
def lo : Nat → Nat → List UInt8
  | 0, _ => []
  | n + 1, x => UInt8.ofNat x :: lo n (x / 256)
theorem lo_length (n : Nat) : ∀ x, (lo n x).length = n := by
  induction n with
  | zero => intro x; rfl
  | succ n ih => intro x; simp [lo, ih]
theorem tot_lo (p n : Nat) : ∀ s x, x < 256 ^ n → tot p s (lo n x) = halves p (8 * n) (s ^^^ x) := by
  induction n with
  | zero =>
    intro s x h
    have : x = 0 := by simpa using h
    subst this
    simp [lo, tot, halves]
  | succ n ih =>
    intro s x h
    have h1 : x / 256 < 256 ^ n := by rw [Nat.pow_succ] at h; exact Nat.div_lt_of_lt_mul (by rwa [Nat.mul_comm] at h)
    rw [lo, tot_cons, ih _ _ h1]
    have e : x % 256 ^^^ 256 * (x / 256) = x := by
      have h2 := add_xor (i := 8) (b := x % 256) (by have := Nat.mod_lt x (show 256 > 0 by omega); simpa using this) (x / 256)
      rw [Nat.xor_comm, show (256 : Nat) = 2 ^ 8 from rfl, ← h2]
      omega
    have e8 : halves p 8 (256 * (x / 256)) = x / 256 := halves_shift p 8 0 (x / 256)
    have e3 : stp p s (UInt8.ofNat x) ^^^ x / 256 = halves p 8 (s ^^^ x) := by
      unfold stp
      rw [show (UInt8.ofNat x).toNat = x % 256 from by simp]
      conv => lhs; rw [← e8]
      rw [← halves_xor, Nat.xor_assoc, e]
    rw [e3, ← halves_add]
    congr 1
    omega
/-- the number of bytes, the lowest first -/
def lnum : List UInt8 → Nat
  | [] => 0
  | c :: l => c.toNat + 256 * lnum l
theorem lnum_lt : ∀ l : List UInt8, lnum l < 256 ^ l.length
  | [] => by simp [lnum]
  | c :: l => by
    have h := lnum_lt l
    have hc : c.toNat < 256 := c.toNat_lt
    rw [lnum, List.length_cons, Nat.pow_succ]
    omega
theorem lo_lnum : ∀ l : List UInt8, lo l.length (lnum l) = l
  | [] => rfl
  | c :: l => by
    have hc : c.toNat < 256 := c.toNat_lt
    rw [List.length_cons, lo, lnum, show (c.toNat + 256 * lnum l) / 256 = lnum l from by omega, lo_lnum l]
    congr 1
    apply UInt8.toNat_inj.1
    simp
theorem lo_inj {n : Nat} : ∀ {x y : Nat}, x < 256 ^ n → y < 256 ^ n → lo n x = lo n y → x = y := by
  induction n with
  | zero => intro x y hx hy _; simp at hx hy; omega
  | succ n ih =>
    intro x y hx hy h
    have h1 : x / 256 < 256 ^ n := by rw [Nat.pow_succ] at hx; exact Nat.div_lt_of_lt_mul (by rwa [Nat.mul_comm] at hx)
    have h2 : y / 256 < 256 ^ n := by rw [Nat.pow_succ] at hy; exact Nat.div_lt_of_lt_mul (by rwa [Nat.mul_comm] at hy)
    simp only [lo, List.cons.injEq] at h
    have h3 := ih h1 h2 h.2
    have h4 : x % 256 = y % 256 := by
      have := congrArg UInt8.toNat h.1
      simpa using this
    omega

/-- all n bytes ones -/
def ones (n : Nat) : Nat := 256 ^ n - 1
/-- the sum of bytes, of n bytes -/
def sm (p n : Nat) (l : List UInt8) : Nat := tot p (ones n) l ^^^ ones n
def sealed (p n : Nat) (l : List UInt8) : List UInt8 := l ++ lo n (sm p n l)
theorem pow8 (n : Nat) : 256 ^ n = 2 ^ (8 * n) := by rw [Nat.pow_mul]
theorem ones_lt (n : Nat) : ones n < 256 ^ n := by
  have : 0 < 256 ^ n := Nat.pow_pos (by omega)
  unfold ones; omega
/-- a constant of n bytes whose highest bit is 1 -/
def Poly (p n : Nat) : Prop := 0 < n ∧ Top p (8 * n)
theorem poly16 : Poly 33800 2 := ⟨by omega, by decide, by decide⟩
theorem poly32 : Poly 2197175160 4 := ⟨by omega, by decide, by decide⟩
theorem xor_back (a b : Nat) : a ^^^ (a ^^^ b) = b := by rw [← Nat.xor_assoc, Nat.xor_self, Nat.zero_xor]
section
variable {p n : Nat} (hp : Poly p n)
include hp
theorem tot_lt' (l : List UInt8) {s : Nat} (h : s < 256 ^ n) : tot p s l < 256 ^ n := by
  rw [pow8] at h ⊢
  exact tot_lt hp.2.1 (by have := hp.1; omega) l h
theorem sm_lt (l : List UInt8) : sm p n l < 256 ^ n := by
  have h1 := tot_lt' hp l (ones_lt n)
  have h2 := ones_lt n
  unfold sm
  rw [pow8] at *
  exact Nat.xor_lt_two_pow h1 h2
omit hp in
theorem sealed_length (l : List UInt8) : (sealed p n l).length = l.length + n := by simp [sealed, lo_length]
/-- what was sealed has one sum -/
theorem tot_sealed (l : List UInt8) : tot p (ones n) (sealed p n l) = halves p (8 * n) (ones n) := by
  rw [sealed, tot_append, tot_lo _ _ _ _ (sm_lt hp l), sm, xor_back]
/-- and only that has it -/
theorem sealed_of_tot (x : List UInt8) (hn : n ≤ x.length) (h : tot p (ones n) x = halves p (8 * n) (ones n)) : sealed p n (x.take (x.length - n)) = x := by
  have e := List.take_append_drop (x.length - n) x
  generalize hy : x.take (x.length - n) = y at e
  generalize hz : x.drop (x.length - n) = z at e
  have hzl : z.length = n := by rw [← hz]; simp; omega
  have h1 := lnum_lt z
  rw [hzl] at h1
  have h2 := lo_lnum z
  rw [hzl] at h2
  have ht := tot_lt' hp y (ones_lt n)
  have ho := ones_lt n
  rw [← e, tot_append, ← h2, tot_lo _ _ _ _ h1] at h
  have h3 : tot p (ones n) y ^^^ lnum z = ones n := by
    refine halves_inj hp.2 (8 * n) ?_ (by rw [← pow8]; exact ho) h
    rw [pow8] at ht h1
    exact Nat.xor_lt_two_pow ht h1
  have h4 : sm p n y = lnum z := by
    have h5 := xor_back (tot p (ones n) y) (lnum z)
    rw [h3] at h5
    exact h5
  rw [sealed, h4, h2, e]
theorem sealed_iff (x : List UInt8) (hn : n ≤ x.length) : sealed p n (x.take (x.length - n)) = x ↔ tot p (ones n) x = halves p (8 * n) (ones n) := by
  constructor
  · intro h
    rw [← h]
    have := tot_sealed hp (x.take (x.length - n))
    rw [h] at this ⊢
    exact this
  · exact sealed_of_tot hp x hn
end

/-- the byte with one bit -/
def bitAt (j : Nat) : UInt8 := UInt8.ofNat (2 ^ (j % 8))
theorem bitAt_nat (j : Nat) : (bitAt j).toNat = 2 ^ (j % 8) := by
  have h : 2 ^ (j % 8) < 2 ^ 8 := Nat.pow_lt_pow_right (by omega) (Nat.mod_lt _ (by omega))
  unfold bitAt
  rw [UInt8.toNat_ofNat']
  exact Nat.mod_eq_of_lt h
def flip (l : List UInt8) (j : Nat) : List UInt8 := l.set (j / 8) (l.getD (j / 8) 0 ^^^ bitAt j)
/-- bits turned from bit k on, those of the mask's lowest i -/
def flips (mask k : Nat) (l : List UInt8) : Nat → List UInt8
  | 0 => l
  | i + 1 => if mask.testBit i = true ∧ k + i < 8 * l.length then flip (flips mask k l i) (k + i) else flips mask k l i
theorem flips_length (mask k : Nat) (l : List UInt8) : ∀ i, (flips mask k l i).length = l.length
  | 0 => rfl
  | i + 1 => by
    have := flips_length mask k l i
    rw [flips]
    split
    · simp [flip, this]
    · exact this
/-- the mask's bits that are turned -/
def low (mask k : Nat) (l : List UInt8) (i : Nat) : Nat := mask % 2 ^ (min i (8 * l.length - k))
theorem low_succ (mask k : Nat) (l : List UInt8) (i : Nat) : low mask k l (i + 1) = if mask.testBit i = true ∧ k + i < 8 * l.length then low mask k l i ^^^ 2 ^ i else low mask k l i := by
  unfold low
  by_cases h : k + i < 8 * l.length
  · rw [show min (i + 1) (8 * l.length - k) = i + 1 from by omega, show min i (8 * l.length - k) = i from by omega]
    have h2 : mask % 2 ^ (i + 1) = mask % 2 ^ i + 2 ^ i * (mask.testBit i).toNat := by
      rw [Nat.mod_pow_succ, Nat.testBit_eq_decide_div_mod_eq]
      rcases Nat.mod_two_eq_zero_or_one (mask / 2 ^ i) with hh | hh <;> simp [hh]
    by_cases hb : mask.testBit i = true
    · rw [if_pos ⟨hb, h⟩, h2, hb]
      have h3 := add_xor (i := i) (b := mask % 2 ^ i) (Nat.mod_lt _ (Nat.pow_pos (by omega))) 1
      simp only [Nat.mul_one] at h3
      simp only [Bool.toNat_true, Nat.mul_one]
      rw [Nat.add_comm, h3, Nat.xor_comm]
    · rw [if_neg (fun c => hb c.1), h2]
      simp [hb]
  · rw [if_neg (fun c => h c.2), show min (i + 1) (8 * l.length - k) = min i (8 * l.length - k) from by omega]
theorem low_ne (mask k : Nat) (l : List UInt8) (i : Nat) (h : mask.testBit i = true ∧ k + i < 8 * l.length) : low mask k l (i + 1) ≠ 0 := by
  have h1 : low mask k l (i + 1) = mask % 2 ^ (i + 1) := by unfold low; rw [show min (i + 1) (8 * l.length - k) = i + 1 from by omega]
  intro e
  have h2 := Nat.testBit_mod_two_pow mask (i + 1) i
  rw [← h1, e] at h2
  simp [h.1] at h2
theorem low_lt (mask k : Nat) (l : List UInt8) (i : Nat) : low mask k l i < 2 ^ i :=
  Nat.lt_of_lt_of_le (Nat.mod_lt _ (Nat.pow_pos (by omega))) (Nat.pow_le_pow_right (by omega) (Nat.min_le_left _ _))
/-- what turned bits make of a sum -/
theorem tot_flips (p s mask k : Nat) (l : List UInt8) : ∀ i, tot p s (flips mask k l i) = tot p s l ^^^ halves p (8 * l.length - k) (low mask k l i)
  | 0 => by simp [flips, low, Nat.mod_one, halves_zero]
  | i + 1 => by
    have ih := tot_flips p s mask k l i
    rw [flips, low_succ]
    by_cases h : mask.testBit i = true ∧ k + i < 8 * l.length
    · rw [if_pos h, if_pos h, flip, tot_set _ _ _ _ _ (by rw [flips_length]; omega), ih, flips_length, bitAt_nat, halves_xor, Nat.xor_assoc]
      congr 2
      have e1 := halves_shift p ((k + i) % 8) (8 * l.length - (k + i)) 1
      have e2 := halves_shift p i (8 * l.length - (k + i)) 1
      rw [Nat.mul_one] at e1 e2
      rw [show 8 * (l.length - (k + i) / 8) = (k + i) % 8 + (8 * l.length - (k + i)) from by omega, e1, show 8 * l.length - k = i + (8 * l.length - (k + i)) from by omega, e2]
    · rw [if_neg h, if_neg h, ih]
/-- turned bits are told -/
def Told (p k : Nat) (m : Nat) : Prop := ∀ r, halves p r m = 0 → m = 0
theorem opens_flips {p n : Nat} (hp : Poly p n) (l : List UInt8) (mask k i : Nat) (ht : halves p (8 * (sealed p n l).length - k) (low mask k (sealed p n l) i) = 0 → low mask k (sealed p n l) i = 0) :
    sealed p n ((flips mask k (sealed p n l) i).take ((flips mask k (sealed p n l) i).length - n)) = flips mask k (sealed p n l) i ↔ low mask k (sealed p n l) i = 0 := by
  rw [sealed_iff hp _ (by rw [flips_length, sealed_length]; omega), tot_flips, tot_sealed hp]
  constructor
  · intro h
    refine ht ?_
    have := xor_back (halves p (8 * n) (ones n)) (halves p (8 * (sealed p n l).length - k) (low mask k (sealed p n l) i))
    rw [h, Nat.xor_self] at this
    exact this.symm
  · intro h
    rw [h, halves_zero, Nat.xor_zero]
theorem burst_told {p n : Nat} (hp : Poly p n) (l : List UInt8) (mask k i r : Nat) (hi : i ≤ 8 * n) (h : halves p r (low mask k l i) = 0) : low mask k l i = 0 :=
  halves_ne hp.2 r (Nat.lt_of_lt_of_le (low_lt _ _ _ _) (Nat.pow_le_pow_right (by omega) hi)) h
def pairOk (p : Nat) : Bool := (List.range 64).all fun d => d == 0 || halves p d 1 != 1
theorem pair16 : pairOk 33800 = true := by decide +kernel
theorem pair32 : pairOk 2197175160 = true := by decide +kernel
theorem pair_told {p n : Nat} (hp : Poly p n) (hq : pairOk p = true) (l : List UInt8) (k d : Nat) (hd : 0 < d) (hd64 : d < 64) (hk : k < 8 * l.length) (h : halves p (8 * l.length - k) (low (1 ||| 2 ^ d) k l 64) = 0) : low (1 ||| 2 ^ d) k l 64 = 0 := by
  have h1 : 1 < 2 ^ (8 * n) := Nat.one_lt_two_pow (by have := hp.1; omega)
  have e : (1 ||| 2 ^ d) = 2 ^ d + 1 := by
    have := Nat.two_pow_add_eq_or_of_lt (i := d) (b := 1) (Nat.one_lt_two_pow (by omega)) 1
    simp only [Nat.mul_one] at this
    rw [this, Nat.or_comm]
  have hx : 2 ^ d + 1 = 2 ^ d ^^^ 1 := by
    have := add_xor (i := d) (b := 1) (Nat.one_lt_two_pow (by omega)) 1
    simpa using this
  by_cases hr : d < 8 * l.length - k
  · have e2 : low (1 ||| 2 ^ d) k l 64 = 2 ^ d ^^^ 1 := by
      unfold low
      rw [e, ← hx]
      apply Nat.mod_eq_of_lt
      have h3 : 2 ^ (d + 1) ≤ 2 ^ (min 64 (8 * l.length - k)) := Nat.pow_le_pow_right (by omega) (by omega)
      have h4 : 1 < 2 ^ d := Nat.one_lt_two_pow (by omega)
      rw [Nat.pow_succ] at h3
      omega
    rw [e2, show 8 * l.length - k = d + (8 * l.length - k - d) from by omega, halves_add, halves_xor] at h
    have e3 : halves p d (2 ^ d) = 1 := by have := halves_shift p d 0 1; simpa [halves] using this
    rw [e3] at h
    have hlt := halves_lt hp.2.1 d h1
    have h5 := halves_ne hp.2 _ (Nat.xor_lt_two_pow h1 hlt) h
    have h6 : halves p d 1 = 1 := by
      have := xor_back 1 (halves p d 1)
      rw [h5, Nat.xor_zero] at this
      exact this.symm
    exfalso
    unfold pairOk at hq
    rw [List.all_eq_true] at hq
    have := hq d (by simp [hd64])
    simp [h6] at this
    omega
  · have e2 : low (1 ||| 2 ^ d) k l 64 = 1 := by
      unfold low
      rw [e, show min 64 (8 * l.length - k) = 8 * l.length - k from by omega]
      have h3 : 2 ^ d = 2 ^ (8 * l.length - k) * 2 ^ (d - (8 * l.length - k)) := by rw [← Nat.pow_add]; congr 1; omega
      rw [h3, Nat.add_comm, Nat.add_mul_mod_self_left]
      exact Nat.mod_eq_of_lt (Nat.one_lt_two_pow (by omega))
    rw [e2] at h ⊢
    exact halves_ne hp.2 _ h1 h
theorem nine16 : sm 33800 2 [49, 50, 51, 52, 53, 54, 55, 56, 57] = 36974 := by decide +kernel
theorem nine32 : sm 2197175160 4 [49, 50, 51, 52, 53, 54, 55, 56, 57] = 3808858755 := by decide +kernel
end Go.Proofs.Ytnojkoefdigcnaa.Sm
