/-
  The contracts of wide's functions over numbers of two halves: plusHalf, plus, Add, Sub, Cmp, halves, Mul, Width, Area, Margin.
-/
import Derived.Test.YtbmfijcckdkmdaaRows
import Derived.Test.YtbmfijcckdkmdaaWords
import Derived.Outline
namespace Go.Proofs.Ytbmfijcckdkmdaa.Wi
set_option maxRecDepth 100000
open Go.RowKit Go.Proofs.Ytbmfijcckdkmdaa.Wd

theorem row_last (w : World) (g : Nat) (t : TypeId) (cs : List Value) (hg : g = w.heap.size) : Row (w.alloc (.cells cs.toArray t)) g t cs := hg ▸ Row.new w t cs
/-- a number's halves -/
theorem split_half (x : Nat) : ∃ q z : Nat, z < 18446744073709551616 ∧ x = q * 18446744073709551616 + z :=
  ⟨x / 18446744073709551616, x % 18446744073709551616, by omega, by omega⟩
theorem not_u64 (x : Nat) (hx : x < 18446744073709551616) : bits .xor .u64 IntKind.u64.max (x : Int) = ((18446744073709551615 - x : Nat) : Int) := by
  rw [show IntKind.u64.max = ((18446744073709551615 : Nat) : Int) from by decide, u64_xor_nat _ _ (by decide) hx]
  congr 1
  apply Nat.eq_of_testBit_eq
  intro i
  rw [Nat.testBit_xor, show (18446744073709551615 : Nat) = 2 ^ 64 - 1 from by decide, Nat.testBit_two_pow_sub_one, show 2 ^ 64 - 1 - x = 2 ^ 64 - (x + 1) from by omega, Nat.testBit_two_pow_sub_succ (by omega)]
  by_cases hi : i < 64
  · simp [hi]
  · have : x.testBit i = false := Nat.testBit_lt_two_pow (Nat.lt_of_lt_of_le hx (Nat.le_trans (show _ ≤ 2 ^ 64 from by decide) (Nat.pow_le_pow_right (by omega) (by omega))))
    simp [hi, this]

theorem plusHalf_any (x y m s c : Nat) (w : World) (hx : x < 18446744073709551616) (hy : y < 18446744073709551616) (hm : m ≤ 1) (hs : s < 18446744073709551616) (he : x + y + m = c * 18446744073709551616 + s) :
    Calls Try.prog 52 #[.int .u64 (x : Int), .int .u64 (y : Int), .int .u64 (m : Int)] w fun e w' => e = .returned (.tuple #[.int .u64 (s : Int), .int .u64 (c : Int)]) ∧ w = w' := by
  have hc : c = 0 ∨ c = 1 := by omega
  obtain ⟨q, z, hz, hq⟩ := split_half (x + y)
  have hq1 : q = 0 ∨ q = 1 := by omega
  have w1 : IntKind.u64.wrap ((x : Int) + (y : Int)) = (z : Int) := by rw [IntKind.wrap_u64]; omega
  have w2 : IntKind.u64.wrap ((z : Int) + (m : Int)) = (s : Int) := by clear w1; rw [IntKind.wrap_u64]; rcases hc with rfl | rfl <;> rcases hq1 with rfl | rfl <;> omega
  have HC := Lib.hid (show c = if z < x ∨ s < m then 1 else 0 from by clear w1 w2; rcases hc with rfl | rfl <;> rcases hq1 with rfl | rfl <;> split <;> omega)
  clear he hq hq1 hc
  by_cases h1 : z < x <;> by_cases h2 : s < m
  all_goals
    have hC := HC.out
    simp only [h1, h2, true_or, or_true, if_true, or_self, if_false] at hC
    subst hC
    clear HC
    go_enter Try.func52, Try.ntmps52
    go_wp2
    exact bodyPost_ret (by simp [results, Try.results52, go_sem]) rfl ⟨rfl, rfl⟩

theorem plus_any (ah al bh bl m h l c : Nat) (w : World) (h1 : ah < 18446744073709551616) (h2 : al < 18446744073709551616) (h3 : bh < 18446744073709551616) (h4 : bl < 18446744073709551616) (hm : m ≤ 1) (hh : h < 18446744073709551616) (hl : l < 18446744073709551616)
    (he : ah * 18446744073709551616 + al + (bh * 18446744073709551616 + bl) + m = c * 340282366920938463463374607431768211456 + (h * 18446744073709551616 + l)) :
    Calls Try.prog 36 #[.agg #[.int .u64 (ah : Int), .int .u64 (al : Int)], .agg #[.int .u64 (bh : Int), .int .u64 (bl : Int)], .int .u64 (m : Int)] w fun e w' =>
      e = .returned (.tuple #[.agg #[.int .u64 (h : Int), .int .u64 (l : Int)], .int .u64 (c : Int)]) ∧ Below w.heap.size w w' := by
  obtain ⟨k, z, hz, hk⟩ := split_half (al + bl + m)
  have hk1 : k ≤ 1 := by omega
  obtain rfl : z = l := by omega
  have he2 : ah + bh + k = c * 18446744073709551616 + h := by omega
  have HA := Lib.hid (fun w => plusHalf_any al bl m z k w h2 h4 hm hz hk)
  have HB := Lib.hid (fun w => plusHalf_any ah bh k h c w h1 h3 hk1 hh he2)
  clear he he2 hk
  go_enter Try.func36, Try.ntmps36
  go_wp2_with fail
  refine (HA.out _).mono ?_
  rintro e w1 ⟨rfl, rfl⟩
  go_wp2_with fail
  refine (HB.out _).mono ?_
  rintro e w1 ⟨rfl, rfl⟩
  go_wp2
  exact bodyPost_ret (v := .tuple #[.agg #[.int .u64 (h : Int), .int .u64 (z : Int)], .int .u64 (c : Int)]) (by simp [results, Try.results36, go_sem]) rfl ⟨rfl, (((Below.refl _ _).alloc (Nat.le_refl _) _).alloc (by simp) _).alloc (by simp; omega) _⟩

theorem Add_any (ah al bh bl h l c : Nat) (w : World) (h1 : ah < 18446744073709551616) (h2 : al < 18446744073709551616) (h3 : bh < 18446744073709551616) (h4 : bl < 18446744073709551616) (hh : h < 18446744073709551616) (hl : l < 18446744073709551616)
    (he : ah * 18446744073709551616 + al + (bh * 18446744073709551616 + bl) = c * 340282366920938463463374607431768211456 + (h * 18446744073709551616 + l)) :
    Calls Try.prog 39 #[.agg #[.int .u64 (ah : Int), .int .u64 (al : Int)], .agg #[.int .u64 (bh : Int), .int .u64 (bl : Int)]] w fun e w' =>
      e = .returned (.tuple #[.agg #[.int .u64 (h : Int), .int .u64 (l : Int)], .bool (decide (c = 0))]) ∧ Below w.heap.size w w' := by
  have HA := Lib.hid (fun w => plus_any ah al bh bl 0 h l c w h1 h2 h3 h4 (by omega) hh hl (by rw [Nat.add_zero]; exact he))
  have hcb : ((c : Int) == 0) = decide (c = 0) := by rw [Bool.eq_iff_iff]; simp
  clear he
  go_enter Try.func39, Try.ntmps39
  go_wp2_with fail
  refine (HA.out _).mono ?_
  rintro e w1 ⟨rfl, hb⟩
  have B := Lib.hid hb
  clear hb
  have hsz : w.heap.size + 1 + 1 < w1.heap.size := by have := B.out.size; simp at this; omega
  have hr := (row_last _ (w.heap.size + 1 + 1) _ _ (by simp)).below B.out (by simp)
  have hf0 := hr.frozen 0
  have hc0 := hr.cell 0
  have hf1 := hr.frozen 1
  have hc1 := hr.cell 1
  clear hr
  simp at hc0 hc1
  go_wp2
  exact bodyPost_ret (v := .tuple #[.agg #[.int .u64 (h : Int), .int .u64 (l : Int)], .bool (decide (c = 0))]) (by simp [results, Try.results39, go_sem, *]) rfl ⟨rfl, by repeat (first | exact Below.refl _ _ | refine Below.alloc ?_ (by first | omega | (simp; done) | (simp; omega)) _ | refine Below.setCell ?_ (by first | omega | (simp; done) | (simp; omega)) _ | refine Below.trans ?_ (Below.mono B.out (by first | omega | (simp; done) | (simp; omega))))⟩

/-- a less b, and whether it is not below 0 -/
theorem Sub_any (ah al bh bl h l c : Nat) (w : World) (h1 : ah < 18446744073709551616) (h2 : al < 18446744073709551616) (h3 : bh < 18446744073709551616) (h4 : bl < 18446744073709551616) (hh : h < 18446744073709551616) (hl : l < 18446744073709551616)
    (he : ah * 18446744073709551616 + al + 340282366920938463463374607431768211456 = c * 340282366920938463463374607431768211456 + (h * 18446744073709551616 + l) + (bh * 18446744073709551616 + bl)) :
    Calls Try.prog 26 #[.agg #[.int .u64 (ah : Int), .int .u64 (al : Int)], .agg #[.int .u64 (bh : Int), .int .u64 (bl : Int)]] w fun e w' =>
      e = .returned (.tuple #[.agg #[.int .u64 (h : Int), .int .u64 (l : Int)], .bool (decide (c = 1))]) ∧ Below w.heap.size w w' := by
  have n1 := not_u64 bh h3
  have n2 := not_u64 bl h4
  have HA := Lib.hid (fun w => plus_any ah al (18446744073709551616 - 1 - bh) (18446744073709551616 - 1 - bl) 1 h l c w h1 h2 (by omega) (by omega) (by omega) hh hl (by omega))
  simp only [Nat.add_one_sub_one] at HA
  have hcb : ((c : Int) == 1) = decide (c = 1) := by rw [Bool.eq_iff_iff]; simp; omega
  clear he
  generalize 18446744073709551616 - 1 - bh = ch at *
  generalize 18446744073709551616 - 1 - bl = cl at *
  have hsg : IntKind.u64.signed = false := rfl
  go_enter Try.func26, Try.ntmps26
  go_wp2_with fail
  refine (HA.out _).mono ?_
  rintro e w1 ⟨rfl, hb⟩
  have B := Lib.hid hb
  clear hb
  have hsz : w.heap.size + 1 + 1 < w1.heap.size := by have := B.out.size; simp at this; omega
  have hr := (row_last _ (w.heap.size + 1 + 1) _ _ (by simp)).below B.out (by simp)
  have hf0 := hr.frozen 0
  have hc0 := hr.cell 0
  have hf1 := hr.frozen 1
  have hc1 := hr.cell 1
  clear hr
  simp at hc0 hc1
  go_wp2
  exact bodyPost_ret (v := .tuple #[.agg #[.int .u64 (h : Int), .int .u64 (l : Int)], .bool (decide (c = 1))]) (by simp [results, Try.results26, go_sem, *]) rfl ⟨rfl, by repeat (first | exact Below.refl _ _ | refine Below.alloc ?_ (by first | omega | (simp; done) | (simp; omega)) _ | refine Below.setCell ?_ (by first | omega | (simp; done) | (simp; omega)) _ | refine Below.trans ?_ (Below.mono B.out (by first | omega | (simp; done) | (simp; omega))))⟩

/-- the order of two numbers -/
def cmpM (a b : Nat) : Int := if a < b then -1 else if a = b then 0 else 1
theorem sub_parts (a b : Nat) (ha : a < 340282366920938463463374607431768211456) (hb : b < 340282366920938463463374607431768211456) : ∃ c h l : Nat, h < 18446744073709551616 ∧ l < 18446744073709551616 ∧ c ≤ 1 ∧ a + 340282366920938463463374607431768211456 = c * 340282366920938463463374607431768211456 + (h * 18446744073709551616 + l) + b ∧ (c = 1 ↔ b ≤ a) := by
  by_cases hab : b ≤ a
  · obtain ⟨h, l, hl, he⟩ := split_half (a - b)
    exact ⟨1, h, l, by omega, hl, by omega, by omega, by omega⟩
  · obtain ⟨h, l, hl, he⟩ := split_half (a + 340282366920938463463374607431768211456 - b)
    exact ⟨0, h, l, by omega, hl, by omega, by omega, by omega⟩
theorem two_lt {h l : Nat} (hh : h < 18446744073709551616) (hl : l < 18446744073709551616) : h * 18446744073709551616 + l < 340282366920938463463374607431768211456 := by omega

set_option maxHeartbeats 1000000 in
theorem Cmp_any (ah al bh bl : Nat) (w : World) (h1 : ah < 18446744073709551616) (h2 : al < 18446744073709551616) (h3 : bh < 18446744073709551616) (h4 : bl < 18446744073709551616) :
    Calls Try.prog 32 #[.agg #[.int .u64 (ah : Int), .int .u64 (al : Int)], .agg #[.int .u64 (bh : Int), .int .u64 (bl : Int)]] w fun e w' =>
      e = .returned (.int .i64 (cmpM (ah * 18446744073709551616 + al) (bh * 18446744073709551616 + bl))) ∧ Below w.heap.size w w' := by
  by_cases hab : ah = bh ∧ al = bl
  · obtain ⟨rfl, rfl⟩ := hab
    rw [show cmpM (ah * 18446744073709551616 + al) (ah * 18446744073709551616 + al) = 0 from by simp [cmpM]]
    go_enter Try.func32, Try.ntmps32
    go_wp2
    go_ret
    exact ⟨rfl, by repeat (first | exact Below.refl _ _ | refine Below.alloc ?_ (by first | omega | (simp; done) | (simp; omega)) _ | refine Below.setCell ?_ (by first | omega | (simp; done) | (simp; omega)) _)⟩
  · obtain ⟨c, h, l, hh, hl, hc1, hsub, hc⟩ := sub_parts (ah * 18446744073709551616 + al) (bh * 18446744073709551616 + bl) (two_lt h1 h2) (two_lt h3 h4)
    have HA := Lib.hid (fun w => Sub_any ah al bh bl h l c w h1 h2 h3 h4 hh hl hsub)
    have HM : Hid (cmpM (ah * 18446744073709551616 + al) (bh * 18446744073709551616 + bl) = if c = 1 then 1 else -1) := (show _ = _ by
      unfold cmpM
      split <;> split <;> (try split) <;> first | rfl | (exfalso; omega))
    clear hsub hc
    have two : c = 0 ∨ c = 1 := by omega
    have three : (¬ (ah : Int) = (bh : Int)) ∨ ((ah : Int) = (bh : Int) ∧ ¬ (al : Int) = (bl : Int)) := by omega
    have hc0 : ((c : Int) == 1) = decide (c = 1) := by rw [Bool.eq_iff_iff]; simp; omega
    generalize cmpM (ah * 18446744073709551616 + al) (bh * 18446744073709551616 + bl) = r at *
    rcases two with rfl | rfl
    · have hr : r = -1 := by simpa using HM.out
      subst hr
      clear HM
      rcases three with h3' | ⟨h3', h4'⟩
      case' inr => obtain rfl : ah = bh := by omega
      case' inr => clear h3'
      all_goals
        go_enter Try.func32, Try.ntmps32
        go_wp2_with fail
        refine (HA.out _).mono ?_
        rintro e w1 ⟨rfl, hb⟩
        have B := Lib.hid hb
        clear hb
        have hsz : w.heap.size + 1 < w1.heap.size := by have := B.out.size; simp at this; omega
        go_wp2
        go_ret
        exact ⟨rfl, by repeat (first | exact Below.refl _ _ | refine Below.alloc ?_ (by first | omega | (simp; done) | (simp; omega)) _ | refine Below.setCell ?_ (by first | omega | (simp; done) | (simp; omega)) _ | refine Below.trans ?_ (Below.mono B.out (by first | omega | (simp; done) | (simp; omega))))⟩
    · have hr : r = 1 := by simpa using HM.out
      subst hr
      clear HM
      rcases three with h3' | ⟨h3', h4'⟩
      case' inr => obtain rfl : ah = bh := by omega
      case' inr => clear h3'
      all_goals
        go_enter Try.func32, Try.ntmps32
        go_wp2_with fail
        refine (HA.out _).mono ?_
        rintro e w1 ⟨rfl, hb⟩
        have B := Lib.hid hb
        clear hb
        have hsz : w.heap.size + 1 < w1.heap.size := by have := B.out.size; simp at this; omega
        go_wp2
        go_ret
        exact ⟨rfl, by repeat (first | exact Below.refl _ _ | refine Below.alloc ?_ (by first | omega | (simp; done) | (simp; omega)) _ | refine Below.setCell ?_ (by first | omega | (simp; done) | (simp; omega)) _ | refine Below.trans ?_ (Below.mono B.out (by first | omega | (simp; done) | (simp; omega))))⟩

theorem halves_any (x h l : Nat) (w : World) (hx : x < 18446744073709551616) (hl : l < 4294967296) (he : x = h * 4294967296 + l) :
    Calls Try.prog 53 #[.int .u64 (x : Int)] w fun e w' => e = .returned (.tuple #[.int .u64 (h : Int), .int .u64 (l : Int)]) ∧ w = w' := by
  have ha : bits .and .u64 (x : Int) 4294967295 = (l : Int) := by
    have := u64_and_nat x 4294967295 hx (by decide)
    rw [show (4294967295 : Nat) = 2 ^ 32 - 1 from by decide, Nat.and_two_pow_sub_one_eq_mod] at this
    rw [show (l : Int) = ((x % 2 ^ 32 : Nat) : Int) from by omega, ← this]
    rfl
  have hd : (x : Int) / 4294967296 = (h : Int) := by omega
  clear he
  go_enter Try.func53, Try.ntmps53
  go_wp2
  exact bodyPost_ret (by simp [results, Try.results53, go_sem]) rfl ⟨rfl, rfl⟩

/-- how wide a row is -/
def widM (lo hi : Int) : Nat := if hi < lo then 0 else (hi - lo).toNat
theorem widM_lt {lo hi : Int} (h1 : -9223372036854775808 ≤ lo) (h2 : hi ≤ 9223372036854775807) : widM lo hi < 18446744073709551616 := by unfold widM; split <;> omega
theorem Width_any (lo hi : Int) (w : World) (h1 : -9223372036854775808 ≤ lo) (h2 : lo ≤ 9223372036854775807) (h3 : -9223372036854775808 ≤ hi) (h4 : hi ≤ 9223372036854775807) :
    Calls Try.prog 38 #[.int .i64 lo, .int .i64 hi] w fun e w' => e = .returned (.int .u64 (widM lo hi : Int)) ∧ w = w' := by
  by_cases hlt : hi < lo
  · rw [show widM lo hi = 0 from by simp [widM, hlt]]
    go_enter Try.func38, Try.ntmps38
    go_wp2
    go_ret
    exact ⟨rfl, rfl⟩
  · have hd : IntKind.u64.wrap (IntKind.u64.wrap hi - IntKind.u64.wrap lo) = (widM lo hi : Int) := by
      simp only [IntKind.wrap_u64, widM, hlt, if_false]
      omega
    generalize widM lo hi = n at *
    go_enter Try.func38, Try.ntmps38
    go_wp2
    go_ret
    exact ⟨rfl, rfl⟩

theorem low_mul {a b : Nat} (ha : a < 4294967296) (hb : b < 4294967296) : a * b < 18446744073709551616 := by
  have := Nat.mul_lt_mul_of_lt_of_le ha (Nat.le_of_lt hb) (by omega)
  have := Nat.mul_le_mul (Nat.le_of_lt ha) (Nat.le_of_lt hb)
  omega
theorem mul_parts (ah al bh bl : Nat) : (ah * 4294967296 + al) * (bh * 4294967296 + bl) = ah * bh * 18446744073709551616 + al * bl + ah * bl * 4294967296 + al * bh * 4294967296 := by
  rw [Nat.add_mul, Nat.mul_add, Nat.mul_add]
  have e1 : ah * 4294967296 * (bh * 4294967296) = ah * bh * 18446744073709551616 := by
    rw [Nat.mul_mul_mul_comm]
  have e2 : ah * 4294967296 * bl = ah * bl * 4294967296 := by rw [Nat.mul_right_comm]
  have e3 : al * (bh * 4294967296) = al * bh * 4294967296 := by rw [Nat.mul_assoc]
  omega
theorem moved (m : Nat) (_hm : m < 18446744073709551616) : ∃ mh ml : Nat, ml < 18446744073709551616 ∧ IntKind.u64.wrap ((m : Int) * 4294967296) = (ml : Int) ∧ (m : Int) / 4294967296 = (mh : Int) ∧ m * 4294967296 = mh * 18446744073709551616 + ml := by
  refine ⟨m / 4294967296, m % 4294967296 * 4294967296, by omega, ?_, by omega, by omega⟩
  rw [IntKind.wrap_u64]; omega
theorem Mul_half (x y ah al bh bl h l : Nat) (w : World) (h1 : ah < 4294967296) (h2 : al < 4294967296) (h3 : bh < 4294967296) (h4 : bl < 4294967296) (hh : h < 18446744073709551616) (hl : l < 18446744073709551616) (hx : x = ah * 4294967296 + al) (hy : y = bh * 4294967296 + bl) (he : x * y = h * 18446744073709551616 + l) :
    Calls Try.prog 37 #[.int .u64 (x : Int), .int .u64 (y : Int)] w fun e w' =>
      e = .returned (.agg #[.int .u64 (h : Int), .int .u64 (l : Int)]) ∧ Below w.heap.size w w' := by
  have HA := Lib.hid (fun w => halves_any x ah al w (by omega) h2 hx)
  have HB := Lib.hid (fun w => halves_any y bh bl w (by omega) h4 hy)
  rw [hx, hy, mul_parts] at he
  have l1 := low_mul h1 h3
  have l2 := low_mul h2 h4
  have l3 := low_mul h1 h4
  have l4 := low_mul h2 h3
  have w1 : IntKind.u64.wrap ((ah : Int) * (bh : Int)) = ((ah * bh : Nat) : Int) := by rw [← Int.natCast_mul]; exact u64_wrap (by omega) (by omega)
  have w2 : IntKind.u64.wrap ((al : Int) * (bl : Int)) = ((al * bl : Nat) : Int) := by rw [← Int.natCast_mul]; exact u64_wrap (by omega) (by omega)
  have w3 : IntKind.u64.wrap ((ah : Int) * (bl : Int)) = ((ah * bl : Nat) : Int) := by rw [← Int.natCast_mul]; exact u64_wrap (by omega) (by omega)
  have w4 : IntKind.u64.wrap ((al : Int) * (bh : Int)) = ((al * bh : Nat) : Int) := by rw [← Int.natCast_mul]; exact u64_wrap (by omega) (by omega)
  clear hx hy
  generalize ah * bh = p at *
  generalize al * bl = q at *
  generalize ah * bl = m at *
  generalize al * bh = n at *
  obtain ⟨mh, ml, hml, wm, dm, em⟩ := moved m l3
  obtain ⟨nh, nl, hnl, wn, dn, en⟩ := moved n l4
  obtain ⟨sh, sl, hsl, hs⟩ := split_half (p * 18446744073709551616 + q + (mh * 18446744073709551616 + ml))
  have HC := Lib.hid (fun w => Add_any p q mh ml sh sl 0 w l1 l2 (by omega) hml (by omega) hsl (by rw [Nat.zero_mul, Nat.zero_add]; exact hs))
  have HD := Lib.hid (fun w => Add_any sh sl nh nl h l 0 w (by omega) hsl (by omega) hnl hh hl (by rw [Nat.zero_mul, Nat.zero_add, ← he, ← hs, em, en]))
  clear he hs em en
  have i0 : ∀ w, (Instr.index 76 (.agg #[.int .u64 (m : Int), .int .u64 (n : Int)]) (.int .i64 0)).run Try.prog w = .ok (.int .u64 (m : Int)) w := fun _ => by kernel_rfl
  have i1 : ∀ w, (Instr.index 76 (.agg #[.int .u64 (m : Int), .int .u64 (n : Int)]) (.int .i64 1)).run Try.prog w = .ok (.int .u64 (n : Int)) w := fun _ => by kernel_rfl
  go_enter Try.func37, Try.ntmps37
  go_wp2_with fail
  refine (HA.out _).mono ?_
  rintro e w1 ⟨rfl, rfl⟩
  go_wp2_with fail
  refine (HB.out _).mono ?_
  rintro e w1 ⟨rfl, rfl⟩
  go_wp2_with fail
  refine wp_loop_rounds 3 ?_
  rw [rounds_succ]
  go_wp2_with fail
  refine (HC.out _).mono ?_
  rintro e w1 ⟨rfl, hb⟩
  have B := Lib.hid hb
  clear hb
  have hsz : w.heap.size + 1 < w1.heap.size := by have := B.out.size; simp at this; omega
  have hr := (row_last _ (w.heap.size + 1) _ _ (by simp)).below B.out (by simp)
  have hq := ((row_last w w.heap.size _ _ rfl).alloc _).below B.out (by simp; omega)
  have hf0 := hr.frozen 0
  have hf1 := hr.frozen 1
  have hc0 := hr.cell 0
  have hc1 := hr.cell 1
  simp at hc0 hc1
  have HR1 := Lib.hid ((hr.store 0 (.int .u64 (sh : Int))).store 1 (.int .u64 (sl : Int)))
  have HQ1 := Lib.hid ((hq.far (p := ⟨w.heap.size + 1, 0, none⟩) (by simp) (.int .u64 (sh : Int))).far (p := ⟨w.heap.size + 1, 1, none⟩) (by simp) (.int .u64 (sl : Int)))
  have B1 := Lib.hid (show Below w.heap.size w ((w1.setCell ⟨w.heap.size + 1, 0, none⟩ (.int .u64 (sh : Int))).setCell ⟨w.heap.size + 1, 1, none⟩ (.int .u64 (sl : Int))) from by repeat (first | exact Below.refl _ _ | refine Below.alloc ?_ (by first | omega | (simp; done) | (simp; omega)) _ | refine Below.setCell ?_ (by first | omega | (simp; done) | (simp; omega)) _ | refine Below.trans ?_ (Below.mono B.out (by first | omega | (simp; done) | (simp; omega)))))
  clear hr hq
  go_wp2_with fail
  generalize (w1.setCell ⟨w.heap.size + 1, 0, none⟩ (.int .u64 (sh : Int))).setCell ⟨w.heap.size + 1, 1, none⟩ (.int .u64 (sl : Int)) = w2 at HR1 HQ1 B1 ⊢
  clear hf0 hf1 hc0 hc1 hsz B
  have hc0 := HR1.out.cell 0
  have hc1 := HR1.out.cell 1
  simp at hc0 hc1
  rw [rounds_succ]
  go_wp2_with fail
  refine (HD.out _).mono ?_
  rintro e w3 ⟨rfl, hb⟩
  have B := Lib.hid hb
  clear hb hc0 hc1
  have hr := HR1.out.below B.out HR1.out.lt
  have hq := HQ1.out.below B.out HQ1.out.lt
  have hf0 := hr.frozen 0
  have hf1 := hr.frozen 1
  have hc0 := hr.cell 0
  have hc1 := hr.cell 1
  simp at hc0 hc1
  have B3 := Lib.hid (B1.out.trans (B.out.mono B1.out.size))
  have hsz : w.heap.size + 1 < w3.heap.size := hr.lt
  have HR2 := Lib.hid ((hr.store 0 (.int .u64 (h : Int))).store 1 (.int .u64 (l : Int)))
  have HQ2 := Lib.hid ((hq.far (p := ⟨w.heap.size + 1, 0, none⟩) (by simp) (.int .u64 (h : Int))).far (p := ⟨w.heap.size + 1, 1, none⟩) (by simp) (.int .u64 (l : Int)))
  have B4 := Lib.hid (show Below w.heap.size w ((w3.setCell ⟨w.heap.size + 1, 0, none⟩ (.int .u64 (h : Int))).setCell ⟨w.heap.size + 1, 1, none⟩ (.int .u64 (l : Int))) from (B3.out.setCell (by simp) _).setCell (by simp) _)
  clear hr hq
  go_wp2_with fail
  generalize (w3.setCell ⟨w.heap.size + 1, 0, none⟩ (.int .u64 (h : Int))).setCell ⟨w.heap.size + 1, 1, none⟩ (.int .u64 (l : Int)) = w4 at HR2 HQ2 B4 ⊢
  clear hf0 hf1 hc0 hc1 hsz B
  have hc0 := HR2.out.cell 0
  have hc1 := HR2.out.cell 1
  have hd0 := HQ2.out.cell 0
  have hd1 := HQ2.out.cell 1
  have hf0 := HQ2.out.frozen 0
  have hf1 := HQ2.out.frozen 1
  simp at hc0 hc1 hd0 hd1
  rw [rounds_succ]
  go_wp2
  exact bodyPost_ret (v := .agg #[.int .u64 (h : Int), .int .u64 (l : Int)]) (by simp [results, Try.results37, go_sem, *]) rfl ⟨rfl, by repeat (first | exact Below.refl _ _ | refine Below.alloc ?_ (by first | omega | (simp; done) | (simp; omega)) _ | refine Below.setCell ?_ (by first | omega | (simp; done) | (simp; omega)) _ | refine Below.trans ?_ (Below.mono B4.out (by first | omega | (simp; done) | (simp; omega))))⟩

theorem Mul_any (x y h l : Nat) (w : World) (hx : x < 18446744073709551616) (hy : y < 18446744073709551616) (hh : h < 18446744073709551616) (hl : l < 18446744073709551616) (he : x * y = h * 18446744073709551616 + l) :
    Calls Try.prog 37 #[.int .u64 (x : Int), .int .u64 (y : Int)] w fun e w' =>
      e = .returned (.agg #[.int .u64 (h : Int), .int .u64 (l : Int)]) ∧ Below w.heap.size w w' :=
  Mul_half x y (x / 4294967296) (x % 4294967296) (y / 4294967296) (y % 4294967296) h l w (by omega) (by omega) (by omega) (by omega) hh hl (by omega) (by omega) he
theorem mul_lt {x y : Nat} (hx : x < 18446744073709551616) (hy : y < 18446744073709551616) : x * y < 340282366920938463463374607431768211456 := by
  have := Nat.mul_le_mul (show x ≤ 18446744073709551615 by omega) (show y ≤ 18446744073709551615 by omega)
  omega
/-- a number below 2^128 as its halves -/
theorem parts (n : Nat) (h : n < 340282366920938463463374607431768211456) : ∃ a b : Nat, a < 18446744073709551616 ∧ b < 18446744073709551616 ∧ n = a * 18446744073709551616 + b :=
  ⟨n / 18446744073709551616, n % 18446744073709551616, by omega, by omega, by omega⟩

end Go.Proofs.Ytbmfijcckdkmdaa.Wi
