/-
  wide's tenth: a number by ten, and the digit that is left over.
-/
import Derived.Test.YtleeanbfhfklmaaWi1
namespace Go.Proofs.Ytleeanbfhfklmaa.Wi
set_option maxRecDepth 100000
open Go.RowKit Go.Proofs.Ytleeanbfhfklmaa.Wd

/-- behind k rounds: what is left, and what has come in -/
def TenI (n k a d : Nat) : Prop := ∃ q r P Q : Nat, P * Q = 340282366920938463463374607431768211456 ∧ Q = 2 ^ k ∧ P = 2 ^ (128 - k) ∧ r < P ∧ q < Q ∧ n = (10 * q + d) * P + r ∧ a = r * Q + q ∧ d < 10
theorem TenI.start (n : Nat) (h : n < 340282366920938463463374607431768211456) : TenI n 0 n 0 :=
  ⟨0, n, 340282366920938463463374607431768211456, 1, by omega, by decide, by decide, h, by omega, by omega, by omega, by omega⟩
theorem TenI.sum (a : Nat) (h : a < 340282366920938463463374607431768211456) : ∃ c sh sl : Nat, sh < 18446744073709551616 ∧ sl < 18446744073709551616 ∧ a + a = c * 340282366920938463463374607431768211456 + (sh * 18446744073709551616 + sl) := by
  obtain ⟨sh, sl, h1, h2, h3⟩ := parts ((a + a) % 340282366920938463463374607431768211456) (by omega)
  exact ⟨(a + a) / 340282366920938463463374607431768211456, sh, sl, h1, h2, by omega⟩
theorem TenI.done {n a d : Nat} (h : TenI n 128 a d) : a = n / 10 ∧ d = n % 10 := by
  obtain ⟨q, r, P, Q, -, -, hP, hr, -, hn, ha, hd⟩ := h
  obtain rfl : P = 1 := by rw [hP]
  have : r = 0 := by omega
  subst this
  omega
theorem TenI.step {n k a d c s : Nat} (h : TenI n k a d) (hk : k < 128) (hs : s < 340282366920938463463374607431768211456) (he : a + a = c * 340282366920938463463374607431768211456 + s) :
    c ≤ 1 ∧ s % 2 = 0 ∧ (10 ≤ 2 * d + c → TenI n (k + 1) (s + 1) (2 * d + c - 10)) ∧ (2 * d + c < 10 → TenI n (k + 1) s (2 * d + c)) := by
  obtain ⟨q, r, P, Q, hPQ, hQ, hP, hr, hq, hn, ha, hd⟩ := h
  obtain ⟨p, hp⟩ : ∃ p, p = 2 ^ (128 - (k + 1)) := ⟨_, rfl⟩
  have hpP : P = p * 2 := by rw [hP, hp, show 128 - k = 128 - (k + 1) + 1 from by omega, Nat.pow_succ]
  have hQ2 : Q * 2 = 2 ^ (k + 1) := by rw [hQ, Nat.pow_succ]
  obtain ⟨b, r', hb, hr', hrr⟩ : ∃ b r' : Nat, b ≤ 1 ∧ r' < p ∧ r = b * p + r' := by
    by_cases hrp : r < p
    · exact ⟨0, r, by omega, hrp, by omega⟩
    · exact ⟨1, r - p, by omega, by omega, by omega⟩
  have hpq : p * (Q * 2) = 340282366920938463463374607431768211456 := by rw [← hPQ, hpP, Nat.mul_assoc, Nat.mul_comm 2 Q]
  have e1 : (b * p + r') * Q = b * (p * Q) + r' * Q := by rw [Nat.add_mul, Nat.mul_assoc]
  have e2 : p * (Q * 2) = (p * Q) * 2 := by rw [Nat.mul_assoc]
  have e3 : r' * (Q * 2) = (r' * Q) * 2 := by rw [Nat.mul_assoc]
  have e4 : (r' + 1) * Q ≤ p * Q := Nat.mul_le_mul_right _ hr'
  rw [Nat.add_mul, Nat.one_mul] at e4
  rw [hrr, e1] at ha
  have hbc : b = c ∧ s = r' * (Q * 2) + 2 * q := by
    generalize p * Q = u at *
    generalize r' * Q = v at *
    have hb' : b = 0 ∨ b = 1 := by omega
    have hc' : c = 0 ∨ c = 1 := by rcases hb' with rfl | rfl <;> omega
    rcases hb' with rfl | rfl <;> rcases hc' with rfl | rfl <;> omega
  obtain ⟨rfl, hs2⟩ := hbc
  have e5 : (10 * q + d) * P = (10 * q + d) * p * 2 := by rw [hpP, Nat.mul_assoc]
  refine ⟨hb, by omega, fun h10 => ⟨2 * q + 1, r', p, Q * 2, hpq, hQ2, hp, hr', by omega, ?_, by omega, by omega⟩, fun h10 => ⟨2 * q, r', p, Q * 2, hpq, hQ2, hp, hr', by omega, ?_, hs2, h10⟩⟩
  · have : 10 * (2 * q + 1) + (2 * d + b - 10) = 2 * (10 * q + d) + b := by omega
    rw [this, hn, hrr, e5, Nat.add_mul (2 * (10 * q + d)), Nat.mul_assoc 2, Nat.mul_comm 2]
    omega
  · have : 10 * (2 * q) + (2 * d + b) = 2 * (10 * q + d) + b := by omega
    rw [this, hn, hrr, e5, Nat.add_mul (2 * (10 * q + d)), Nat.mul_assoc 2, Nat.mul_comm 2]
    omega

/-- the world of a round -/
def TenW (n : Nat) (w wr : World) (k d : Nat) : Prop := ∃ h l : Nat, h < 18446744073709551616 ∧ l < 18446744073709551616 ∧ TenI n k (h * 18446744073709551616 + l) d ∧ Row wr w.heap.size 25 [.int .u64 (h : Int), .int .u64 (l : Int)] ∧ Row wr (w.heap.size + 1) 25 [.int .u64 0, .int .u64 0] ∧ Below w.heap.size w wr

theorem TenW.next {n sh sl k d : Nat} {w w1 : World} {cs : List Value} (hrow : Row w1 w.heap.size 25 cs) (hc : cs.length = 2) (hrz : Row w1 (w.heap.size + 1) 25 [.int .u64 0, .int .u64 0]) (hbel : Below w.heap.size w w1)
    (hh : sh < 18446744073709551616) (hl : sl < 18446744073709551616) (hi : TenI n (k + 1) (sh * 18446744073709551616 + sl) d) (o : Obj) :
    TenW n w (((w1.setCell ⟨w.heap.size, 0, none⟩ (.int .u64 (sh : Int))).setCell ⟨w.heap.size, 1, none⟩ (.int .u64 (sl : Int))).alloc o) (k + 1) d := by
  refine ⟨sh, sl, hh, hl, hi, ?_, ?_, ?_⟩
  · have := (((hrow.store 0 (.int .u64 (sh : Int))).store 1 (.int .u64 (sl : Int))).alloc o)
    match cs, hc with
    | [a, b], _ => exact this
  · exact ((hrz.far (p := ⟨w.heap.size, 0, none⟩) (by dsimp only; omega) _).far (p := ⟨w.heap.size, 1, none⟩) (by dsimp only; omega) _).alloc o
  · exact ((hbel.setCell (Nat.le_refl _) _).setCell (Nat.le_refl _) _).alloc (by simpa using hbel.size) o

set_option maxHeartbeats 1000000 in
theorem tenth_any (n ah al qh ql dd : Nat) (w : World) (h1 : ah < 18446744073709551616) (h2 : al < 18446744073709551616) (hn : n = ah * 18446744073709551616 + al) (hq : ql < 18446744073709551616) (hq2 : n / 10 = qh * 18446744073709551616 + ql) (hdd : n % 10 = dd) :
    Calls Try.prog 32 #[.agg #[.int .u64 (ah : Int), .int .u64 (al : Int)]] w fun e w' =>
      e = .returned (.tuple #[.agg #[.int .u64 (qh : Int), .int .u64 (ql : Int)], .int .u8 ((dd + 48 : Nat) : Int)]) ∧ Below w.heap.size w w' := by
  have HQ := Lib.hid hq2
  have HN := Lib.hid hn
  have HDD := Lib.hid hdd
  clear hq2 hdd hn
  go_enter Try.func32, Try.ntmps32
  go_wp2
  have HI0 : Hid (TenW n w ((w.alloc (.cells #[.int .u64 (ah : Int), .int .u64 (al : Int)] 25)).alloc (.cells #[.int .u64 0, .int .u64 0] 25)) 0 0) := (show TenW _ _ _ _ _ from
    ⟨ah, al, h1, h2, by rw [← HN.out]; exact TenI.start n (by have := HN.out; omega), (row_last w w.heap.size _ _ rfl).alloc _, row_last _ _ _ _ (by simp), ((Below.refl _ _).alloc (Nat.le_refl _) _).alloc (by simp) _⟩)
  generalize (w.alloc (.cells #[.int .u64 (ah : Int), .int .u64 (al : Int)] 25)).alloc (.cells #[.int .u64 0, .int .u64 0] 25) = w0 at HI0 ⊢
  go_loopw [4, 7] (fun x i wr => ∃ k d : Nat, k ≤ 128 ∧ d < 10 ∧ i = .int .i64 k ∧ x = .int .u8 d ∧ Hid (TenW n w wr k d)) (fun _ i _ => 128 - (intOf i).toNat)
  case atStart => exact ⟨0, 0, by omega, by omega, rfl, rfl, HI0⟩
  rename World => wr
  obtain ⟨k, d, hk, hd, rfl, rfl, HI⟩ := hrel
  clear HI0
  obtain ⟨h, l, hh, hl, hi, hrow, hrz, hbel⟩ := HI.out
  clear HI
  by_cases hlt : k < 128
  case neg =>
    obtain rfl : k = 128 := by omega
    obtain ⟨ha, hdd⟩ := hi.done
    obtain ⟨rfl, rfl⟩ : h = qh ∧ l = ql := by have := HQ.out; omega
    have hc0 := hrow.cell 0
    have hc1 := hrow.cell 1
    have hz0 := hrz.cell 0
    have hz1 := hrz.cell 1
    have hf0 := hrz.frozen 0
    have hf1 := hrz.frozen 1
    simp at hc0 hc1 hz0 hz1
    have hd2 : d = dd := by have := HDD.out; omega
    subst hd2
    have HB := Lib.hid hbel
    clear ha hdd hi hbel hrow hrz HDD
    have wd : IntKind.u8.wrap (48 + (d : Int)) = ((d + 48 : Nat) : Int) := by rw [IntKind.wrap_u8]; omega
    go_wp2
    exact bodyPost_ret (v := .tuple #[.agg #[.int .u64 (h : Int), .int .u64 (l : Int)], .int .u8 ((d + 48 : Nat) : Int)]) (by simp [results, Try.results32, go_sem, *]) rfl ⟨rfl, (HB.out.setCell (by dsimp only; omega) _).setCell (by dsimp only; omega) _⟩
  case pos =>
    obtain ⟨c, sh, sl, hsh, hsl, hs⟩ := TenI.sum (h * 18446744073709551616 + l) (two_lt hh hl)
    obtain ⟨hc1, hs2, hG, hL⟩ := hi.step hlt (two_lt hsh hsl) hs
    have HA := Lib.hid (fun w => Add_any h l h l sh sl c w hh hl hh hl hsh hsl hs)
    clear hs hi
    have hq0 := hrow.cell 0
    have hq1 := hrow.cell 1
    simp at hq0 hq1
    have HROW := Lib.hid hrow
    have HRZ := Lib.hid hrz
    have HB := Lib.hid hbel
    clear hrow hrz hbel
    go_wp2_with fail
    refine (HA.out _).mono ?_
    rintro e w1 ⟨rfl, hb⟩
    clear hq0 hq1
    have hrow1 := HROW.out.below hb HROW.out.lt
    have hrz1 := HRZ.out.below hb HRZ.out.lt
    have hsz0 : w.heap.size < w1.heap.size := hrow1.lt
    have hbel1 : Below w.heap.size w w1 := HB.out.trans (hb.mono HB.out.size)
    have hfa := hrow1.frozen 0
    have hfb := hrow1.frozen 1
    have hca := hrow1.cell 0
    have hcb := hrow1.cell 1
    simp at hca hcb
    clear HROW HRZ HB hb
    obtain ⟨e, he⟩ : ∃ x, x = 2 * d := ⟨_, rfl⟩
    have we : IntKind.u8.wrap ((d : Int) * 2) = (e : Int) := by rw [IntKind.wrap_u8]; omega
    have hc2 : c = 0 ∨ c = 1 := by omega
    rcases hc2 with rfl | rfl
    · obtain ⟨f, hf⟩ : ∃ x, x = e := ⟨_, rfl⟩
      subst hf
      have hf : f = 2 * d := he
      clear he
      by_cases h10 : 10 ≤ f
      · obtain ⟨sl2, hsl2⟩ : ∃ x, x = sl + 1 := ⟨_, rfl⟩
        obtain ⟨g, hg⟩ : ∃ x, x = f - 10 := ⟨_, rfl⟩
        have wl : IntKind.u64.wrap ((sl : Int) + 1) = (sl2 : Int) := by rw [IntKind.wrap_u64]; omega
        have wg : IntKind.u8.wrap ((f : Int) - 10) = (g : Int) := by rw [IntKind.wrap_u8]; omega
        have hi2 := hG (by omega)
        rw [show sh * 18446744073709551616 + sl + 1 = sh * 18446744073709551616 + sl2 from by omega, show 2 * d + 0 - 10 = g from by omega] at hi2
        have HF := Lib.hid (TenW.next hrow1 rfl hrz1 hbel1 hsh (sl := sl2) (by omega) hi2 (.cells #[.int .u64 (sh : Int), .int .u64 (sl2 : Int)] 25))
        have HV := Lib.hid (show g + 10 = f from by omega)
        have hr9 : g < 10 := by omega
        clear hrow1 hrz1 hbel1 hi2 hG hL hsl2 hg hf hd
        go_wp2
        go_round
        case rel => exact ⟨k + 1, g, by omega, hr9, by go_num, (by first | rfl | (congr 1; have := HV.out; omega)), HF⟩
        case measure => simp [intOf]; omega
      · have hi2 := hL (by omega)
        rw [show 2 * d + 0 = f from by omega] at hi2
        have HF := Lib.hid (TenW.next hrow1 rfl hrz1 hbel1 hsh (sl := sl) (by omega) hi2 (.cells #[.int .u64 (sh : Int), .int .u64 (sl : Int)] 25))
        have HV := Lib.hid (show f = f from by omega)
        have hr9 : f < 10 := by omega
        clear hrow1 hrz1 hbel1 hi2 hG hL hf hd
        go_wp2
        go_round
        case rel => exact ⟨k + 1, f, by omega, hr9, by go_num, (by first | rfl | (congr 1; have := HV.out; omega)), HF⟩
        case measure => simp [intOf]; omega
    · obtain ⟨f, hf⟩ : ∃ x, x = e + 1 := ⟨_, rfl⟩
      have wf : IntKind.u8.wrap ((e : Int) + 1) = (f : Int) := by rw [IntKind.wrap_u8]; omega
      have hf : f = 2 * d + 1 := by omega
      clear he
      by_cases h10 : 10 ≤ f
      · obtain ⟨sl2, hsl2⟩ : ∃ x, x = sl + 1 := ⟨_, rfl⟩
        obtain ⟨g, hg⟩ : ∃ x, x = f - 10 := ⟨_, rfl⟩
        have wl : IntKind.u64.wrap ((sl : Int) + 1) = (sl2 : Int) := by rw [IntKind.wrap_u64]; omega
        have wg : IntKind.u8.wrap ((f : Int) - 10) = (g : Int) := by rw [IntKind.wrap_u8]; omega
        have hi2 := hG (by omega)
        rw [show sh * 18446744073709551616 + sl + 1 = sh * 18446744073709551616 + sl2 from by omega, show 2 * d + 1 - 10 = g from by omega] at hi2
        have HF := Lib.hid (TenW.next hrow1 rfl hrz1 hbel1 hsh (sl := sl2) (by omega) hi2 (.cells #[.int .u64 (sh : Int), .int .u64 (sl2 : Int)] 25))
        have HV := Lib.hid (show g + 10 = e + 1 from by omega)
        have hr9 : g < 10 := by omega
        clear hrow1 hrz1 hbel1 hi2 hG hL hsl2 hg hf hd
        go_wp2
        go_round
        case rel => exact ⟨k + 1, g, by omega, hr9, by go_num, (by first | rfl | (congr 1; have := HV.out; omega)), HF⟩
        case measure => simp [intOf]; omega
      · have hi2 := hL (by omega)
        rw [show 2 * d + 1 = f from by omega] at hi2
        have HF := Lib.hid (TenW.next hrow1 rfl hrz1 hbel1 hsh (sl := sl) (by omega) hi2 (.cells #[.int .u64 (sh : Int), .int .u64 (sl : Int)] 25))
        have HV := Lib.hid (show f = e + 1 from by omega)
        have hr9 : f < 10 := by omega
        clear hrow1 hrz1 hbel1 hi2 hG hL hf hd
        go_wp2
        go_round
        case rel => exact ⟨k + 1, f, by omega, hr9, by go_num, (by first | rfl | (congr 1; have := HV.out; omega)), HF⟩
        case measure => simp [intOf]; omega
end Go.Proofs.Ytleeanbfhfklmaa.Wi
