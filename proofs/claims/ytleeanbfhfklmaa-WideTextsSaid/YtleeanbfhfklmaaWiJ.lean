/-
  The reference's Tenth.
-/
import Derived.Test.YtleeanbfhfklmaaWiF
namespace Go.Proofs.Ytleeanbfhfklmaa.Wi
set_option maxRecDepth 100000
open Go.RowKit Go.Proofs.Ytleeanbfhfklmaa.Wd

/-- behind the bits from k on: the digits' bits, what is left -/
def TthI (n k r : Nat) (m : List Nat) : Prop := m = bitsN (n / 2 ^ k / 10 * 2 ^ k) ∧ r = n / 2 ^ k % 10
theorem div_up (a : Nat) {k j : Nat} (h : k < j) : a * 2 ^ k / 2 ^ j = a / 2 / 2 ^ (j - k - 1) := by
  have ex : 2 ^ j = 2 ^ k * (2 * 2 ^ (j - k - 1)) := by rw [← Nat.mul_assoc, ← Nat.pow_succ, ← Nat.pow_add, show k + 1 + (j - k - 1) = j from by omega]
  rw [ex, ← Nat.div_div_eq_div_mul, Nat.mul_div_cancel _ (Nat.two_pow_pos k), ← Nat.div_div_eq_div_mul]
theorem bits_set (a k b : Nat) (hk : k < 260) (hb : b < 2) : (bitsN (a * 2 * 2 ^ k)).set k b = bitsN ((a * 2 + b) * 2 ^ k) := by
  refine List.ext_getElem (by rw [List.length_set, bitsN_len, bitsN_len]) fun j h1 h2 => ?_
  have hj : j < 260 := by rw [bitsN_len] at h2; exact h2
  have e1 : ((bitsN (a * 2 * 2 ^ k)).set k b).getD j 0 = if j = k then b else (bitsN (a * 2 * 2 ^ k)).getD j 0 := getD_set _ _ _ _ (by rw [bitsN_len]; exact hk)
  have e2 := bitsN_get ((a * 2 + b) * 2 ^ k) j hj
  have e3 := bitsN_get (a * 2 * 2 ^ k) j hj
  simp only [List.getD_eq_getElem?_getD, List.getElem?_eq_getElem h1, List.getElem?_eq_getElem h2, Option.getD_some] at e1 e2 e3
  rw [e1, e2]
  by_cases e : j = k
  · subst e
    rw [if_pos rfl, Nat.mul_div_cancel _ (Nat.two_pow_pos j)]
    omega
  · rw [if_neg e, e3]
    by_cases hlt : j < k
    · have ex : 2 ^ k = 2 ^ (k - j - 1) * 2 * 2 ^ j := by rw [Nat.mul_assoc, Nat.mul_comm 2, ← Nat.pow_succ, ← Nat.pow_add, show k - j - 1 + (j + 1) = k from by omega]
      rw [ex, ← Nat.mul_assoc, ← Nat.mul_assoc, ← Nat.mul_assoc, ← Nat.mul_assoc, Nat.mul_div_cancel _ (Nat.two_pow_pos j), Nat.mul_div_cancel _ (Nat.two_pow_pos j)]
      omega
    · rw [div_up _ (by omega), div_up _ (by omega), show a * 2 / 2 = (a * 2 + b) / 2 from by omega]
theorem halves_of {t h l : Nat} (hh : h < 18446744073709551616) (hl : l < 18446744073709551616) (he : t = h * 18446744073709551616 + l) : l = t % 18446744073709551616 ∧ h = t / 18446744073709551616 % 18446744073709551616 := by omega
theorem TthI.start {n : Nat} (h : n < 340282366920938463463374607431768211456) : TthI n 128 0 zeros := by
  have e : n / 2 ^ 128 = 0 := Nat.div_eq_of_lt (by rw [show (2 : Nat) ^ 128 = 340282366920938463463374607431768211456 from by decide]; exact h)
  exact ⟨by rw [e, Nat.zero_div, Nat.zero_mul, bits_zero], by rw [e]⟩
theorem TthI.step {n k r p : Nat} {m : List Nat} (h : TthI n (k + 1) r m) (hk : k < 260) (hp : n / 2 ^ k % 2 = p) :
    (10 ≤ 2 * r + p → TthI n k (2 * r + p - 10) (m.set k 1)) ∧ (2 * r + p < 10 → TthI n k (2 * r + p) m) := by
  obtain ⟨hm, hr⟩ := h
  have e1 : n / 2 ^ (k + 1) = n / 2 ^ k / 2 := by rw [Nat.pow_succ, Nat.div_div_eq_div_mul]
  rw [e1] at hm hr
  unfold TthI
  clear e1
  generalize n / 2 ^ k = a at *
  have e2 : a / 2 / 10 * 2 ^ (k + 1) = a / 2 / 10 * 2 * 2 ^ k := by rw [Nat.pow_succ, Nat.mul_assoc, Nat.mul_comm 2]
  rw [e2] at hm
  refine ⟨fun h10 => ⟨?_, by omega⟩, fun h10 => ⟨?_, by omega⟩⟩
  · rw [hm, bits_set _ _ _ hk (by omega), show a / 2 / 10 * 2 + 1 = a / 10 from by omega]
  · rw [hm, show a / 2 / 10 * 2 = a / 10 from by omega]
theorem TthI.done {n r : Nat} {m : List Nat} (h : TthI n 0 r m) : m = bitsN (n / 10) ∧ r = n % 10 := by
  obtain ⟨hm, hr⟩ := h
  rw [Nat.pow_zero, Nat.div_one, Nat.mul_one] at hm
  rw [Nat.pow_zero, Nat.div_one] at hr
  exact ⟨hm, hr⟩
theorem TthI.len {n k r : Nat} {m : List Nat} (h : TthI n k r m) : m.length = 260 := by rw [h.1]; exact bitsN_len _
/-- the world of a round -/
def TthW (n gx : Nat) (w wr : World) (k r : Nat) : Prop := ∃ m, TthI n k r m ∧ Row wr gx 45 (iv (bitsN n)) ∧ Row wr (gx + 1) 45 (iv m) ∧ Row wr (w.heap.size + 1) 25 [.int .u64 0, .int .u64 0] ∧ Below w.heap.size w wr

set_option maxHeartbeats 4000000 in
theorem Tenth_ref (n ah al qh ql dd : Nat) (w : World) (h1 : ah < 18446744073709551616) (h2 : al < 18446744073709551616) (hn : n = ah * 18446744073709551616 + al) (hqh : qh < 18446744073709551616) (hq : ql < 18446744073709551616) (hq2 : n / 10 = qh * 18446744073709551616 + ql) (hdd : n % 10 = dd) :
    Calls Try.prog 34 #[.agg #[.int .u64 (ah : Int), .int .u64 (al : Int)]] w fun e w' => e = .returned (.tuple #[.agg #[.int .u64 (qh : Int), .int .u64 (ql : Int)], .int .i64 (dd : Int)]) ∧ Below w.heap.size w w' := by
  have HA := Lib.hid (fun w => Bits_any ah al w h1 h2)
  rw [← hn] at HA
  have HO := Lib.hid (fun w => Of_any (n / 10) qh ql w (halves_of hqh hq hq2).1 (halves_of hqh hq hq2).2)
  have HST := Lib.hid (TthI.start (n := n) (by omega))
  have HDD := Lib.hid hdd
  clear hn hq2 hdd
  go_enter Try.func34, Try.ntmps34
  go_wp2_with fail
  refine (HA.out _).mono ?_
  rintro e w1 ⟨rfl, hb1⟩
  have HR1 := Lib.hid ((row_last (w.alloc (.cells #[.int .u64 (ah : Int), .int .u64 (al : Int)] 25)) (w.heap.size + 1) 25 [.int .u64 0, .int .u64 0] (by simp)).below hb1 (by simp))
  have HB1 := Lib.hid ((((Below.refl w.heap.size w).alloc (Nat.le_refl _) (.cells #[.int .u64 (ah : Int), .int .u64 (al : Int)] 25)).alloc (by simp) (.cells #[.int .u64 0, .int .u64 0] 25)).trans (hb1.mono (by simp; omega)))
  clear hb1
  obtain ⟨gx, hgx⟩ : ∃ g, g = w1.heap.size := ⟨_, rfl⟩
  have hgx0 : w.heap.size + 1 < gx := by rw [hgx]; exact HR1.out.lt
  have HGX := Lib.hid hgx
  clear hgx
  go_wp2_with (first
    | (refine wpList_alloc45 rfl rfl (some 4) rfl gx HGX.out ?_; intro w3 hr3 hb3 hs3; have HR3 := Lib.hid (HR1.out.below hb3 HR1.out.lt); have HX3 := Lib.hid hr3; have HB3 := Lib.hid (HB1.out.trans (hb3.mono HB1.out.size)); have HS3 := Lib.hid hs3; clear hr3 hb3 hs3)
    | (refine wpList_store45 rfl (.tmp 4) (.tmp 9) rfl rfl gx rfl (bitsN n) zeros rfl HX3.out zeros_len (bitsN_len _) ?_; intro w5 hr5 hg5 hs5; have HR5 := Lib.hid (HR3.out.grown hg5 (by simp; omega)); have HX5 := Lib.hid hr5; have HB5 := Lib.hid (HB3.out.grown hg5 HB3.out.size (fun i hi => by cases hi; omega)); have HS5 := Lib.hid (hs5.trans HS3.out); clear hr5 hg5 hs5)
    | (refine wpList_alloc45 rfl rfl (some 5) rfl (gx + 1) (by rw [HS5.out]) ?_; intro w7 hr7 hb7 hs7; have HR7 := Lib.hid (HR5.out.below hb7 HR5.out.lt); have HX7 := Lib.hid (HX5.out.below hb7 HX5.out.lt); have HZ7 := Lib.hid hr7; have HB7 := Lib.hid (HB5.out.trans (hb7.mono HB5.out.size)); clear hr7 hb7 hs7))
  have HI0 := Lib.hid (show TthW n gx w w7 128 0 from ⟨zeros, HST.out, HX7.out, HZ7.out, HR7.out, HB7.out⟩)
  clear HR7 HX7 HZ7 HB7 HR5 HX5 HB5 HS5 HR3 HX3 HB3 HS3 HR1 HB1 HGX HA HST
  go_loopw [6, 7] (fun rr i wr => ∃ k r : Nat, k ≤ 128 ∧ r < 10 ∧ rr = .int .i64 r ∧ i = .int .i64 ((k : Int) - 1) ∧ Hid (TthW n gx w wr k r)) (fun _ i _ => (intOf i + 1).toNat)
  case atStart => exact ⟨128, 0, by omega, by omega, rfl, by go_num, HI0⟩
  rename World => wr
  obtain ⟨k, r, hk, hr10, rfl, rfl, HI⟩ := hrel
  clear HI0
  obtain ⟨m, hm, hrx, hrm, hrr, hbel⟩ := HI.out
  clear HI
  rcases Nat.eq_zero_or_pos k with rfl | hk0
  · obtain ⟨rfl, hrd⟩ := hm.done
    have hrd2 : r = dd := by rw [hrd, HDD.out]
    subst hrd2
    have HRM := Lib.hid hrm
    have HRR := Lib.hid hrr
    have HB := Lib.hid hbel
    clear hm hrx hrm hrr hbel hrd HDD
    rw [show ((0 : Nat) : Int) - 1 = -1 from rfl]
    go_wp2_with (first
      | (refine wpList_load45 rfl (.tmp 5) rfl (gx + 1) rfl (bitsN (n / 10)) HRM.out (bitsN_len _) (some 26) rfl ?_))
    refine (HO.out _).mono ?_
    rintro e w8 ⟨rfl, hb8⟩
    have hrr := HRR.out.below hb8 HRR.out.lt
    have hc0 := hrr.cell 0
    have hc1 := hrr.cell 1
    have hf0 := hrr.frozen 0
    have hf1 := hrr.frozen 1
    simp at hc0 hc1
    have HB8 := Lib.hid (HB.out.trans (hb8.mono HB.out.size))
    clear hrr hb8
    go_wp2
    exact bodyPost_ret (v := .tuple #[.agg #[.int .u64 (qh : Int), .int .u64 (ql : Int)], .int .i64 (r : Int)]) (by simp [results, Try.results34, go_sem, *]) rfl ⟨rfl, (HB8.out.setCell (by dsimp only; omega) _).setCell (by dsimp only; omega) _⟩
  · obtain ⟨j, rfl⟩ : ∃ j, k = j + 1 := ⟨k - 1, by omega⟩
    rw [show ((j + 1 : Nat) : Int) - 1 = (j : Int) from by omega]
    obtain ⟨p, hp⟩ : ∃ p, n / 2 ^ j % 2 = p := ⟨_, rfl⟩
    have hp1 : p ≤ 1 := by omega
    obtain ⟨hge, hlt⟩ := hm.step (by omega) hp
    have hj260 : (j : Int) < 260 := by omega
    have hck := (hrx.cell j).trans (iv_cell (bitsN n) j (by rw [bitsN_len]; omega))
    rw [bitsN_get n j (by omega), hp] at hck
    have hcm := (hrm.cell j).trans (iv_cell m j (by rw [hm.len]; omega))
    have hfm := hrm.frozen j
    obtain ⟨q, hq⟩ : ∃ q, q = 2 * r + p := ⟨_, rfl⟩
    rw [← hq] at hge hlt
    obtain ⟨t, ht⟩ : ∃ q, q = 2 * r := ⟨_, rfl⟩
    have wt : IntKind.i64.wrap (2 * (r : Int)) = (t : Int) := by rw [IntKind.wrap_i64]; omega
    have wt2 : 2 * (r : Int) = (t : Int) := by omega
    have wq : (t : Int) + (p : Int) = (q : Int) := by omega
    have hq20 : q < 20 := by omega
    have hr2 := hrm.store j (.int .i64 ((1 : Nat) : Int))
    rw [iv_set] at hr2
    by_cases h10 : 10 ≤ q
    · obtain ⟨s, hs⟩ : ∃ s, s = q - 10 := ⟨_, rfl⟩
      have ws : (q : Int) - 10 = (s : Int) := by omega
      have hs10 : s < 10 := by omega
      have hI := hge h10
      rw [← hs] at hI
      have h10i : 10 ≤ (q : Int) := by omega
      have HF := Lib.hid (show TthW n gx w (wr.setCell ⟨gx + 1, j, none⟩ (.int .i64 1)) j s from ⟨_, hI, hrx.far (by dsimp only; omega) _, hr2, hrr.far (by dsimp only; omega) _, hbel.setCell (by dsimp only; omega) _⟩)
      clear hge hlt hI hm hrx hrm hrr hbel hr2 hp hq ht hs h10
      generalize m.getD j 0 = z at hcm
      go_wp2
      exact ⟨⟨j, s, by omega, hs10, rfl, rfl, HF⟩, by simp [intOf] <;> omega⟩
    · have hq10 : q < 10 := by omega
      have hq10i : (q : Int) < 10 := by omega
      have hI := hlt hq10
      have HF := Lib.hid (show TthW n gx w wr j q from ⟨_, hI, hrx, hrm, hrr, hbel⟩)
      clear hge hlt hI hm hrx hrm hrr hbel hr2 hp hq ht h10
      generalize m.getD j 0 = z at hcm
      go_wp2
      exact ⟨⟨j, q, by omega, hq10, rfl, rfl, HF⟩, by simp [intOf] <;> omega⟩
end Go.Proofs.Ytleeanbfhfklmaa.Wi
