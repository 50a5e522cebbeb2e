/-
  The contracts of octet's Reader: numbers, bytes, and how a Reader is made.
-/
import Derived.Test.YtnojkoefdigcnaaOct4
import Derived.Test.YtnojkoefdigcnaaOct1
namespace Go.Proofs.Ytnojkoefdigcnaa.Oct
set_option maxRecDepth 100000
open Go.RowKit Go.Proofs.Ytnojkoefdigcnaa.Wd

theorem number_nil (n : Int) (w : World) : Calls Try.prog 59 #[.pointer none, .int .i64 n] w fun e w' => e = .returned (.int .u64 0) ∧ Still w w' := by
  go_enter Try.func59, Try.ntmps59
  go_wp2_with fail
  refine (take_nil _ _).mono ?_
  rintro e w' ⟨rfl, q, rfl⟩
  go_wp2
  refine wp_loop_rounds 1 ?_
  rw [rounds_succ]
  go_wp2
  go_ret
  exact ⟨rfl, q, rfl⟩

theorem step_len (l : List UInt8) (at_ : Nat) (err n : Int) (k : Nat) (hn : n ≤ k) : (step l at_ err n).1.length ≤ k := by
  unfold step
  split
  · simp
  · split
    · simp
    · split
      · simp
      · simp; omega

def Numbered (w : World) (g : Nat) (l : List UInt8) (at_ : Nat) (err n : Int) (e : Ending) (w' : World) : Prop :=
  e = .returned (.int .u64 ((num (step l at_ err n).1 : Nat) : Int)) ∧ Rdr w' g l (step l at_ err n).2.1 (step l at_ err n).2.2 ∧ w.grownBy w' (some g)

set_option maxHeartbeats 400000 in
theorem number_any (g : Nat) (l : List UInt8) (at_ : Nat) (err n : Int) (w : World) (hR : Rdr w g l at_ err) (hn8 : n ≤ 8) :
    Calls Try.prog 59 #[.pointer (some ⟨g, 0, none⟩), .int .i64 n] w (Numbered w g l at_ err n) := by
  have hlen := step_len l at_ err n 8 hn8
  go_enter Try.func59, Try.ntmps59
  go_wp2_with fail
  refine (take_any g l at_ err n _ hR).mono ?_
  rintro e w1 ⟨A, m, c, rfl, hm, hA, hb, hR1, hg⟩
  clear hA
  have HP : Hid (∀ x : Nat, x = num (step l at_ err n).1 → Numbered w g l at_ err n (.returned (.int .u64 (x : Int))) w1) := fun x hx => ⟨by rw [hx], hR1, hg⟩
  clear hR1 hg
  generalize hs : (step l at_ err n).1 = t at hm hb hlen HP
  clear hs
  have hm8 : m ≤ 8 := by rw [← hm.out]; exact hlen
  clear hlen
  go_wp2
  go_loop [5, 12] (fun v i => ∃ k y : Nat, k ≤ m ∧ i = .int .i64 k ∧ v = .int .u64 (y : Int) ∧ Hid (y = num (t.take k))) (fun _ i => m - (intOf i).toNat)
  case atStart => exact ⟨0, 0, by omega, rfl, rfl, (show _ = _ by simp [num])⟩
  case round =>
    obtain ⟨k, y, hk, rfl, rfl, hy⟩ := hrel
    by_cases hlt : k < m
    · have hk' : k < t.length := by rw [hm.out]; exact hlt
      obtain ⟨b1, o1, rfl, hbb, hc1⟩ := hb (by omega)
      have hx1 := hc1 k hk'
      have HT : Hid (num (t.take (k + 1)) = y * 256 + (t.getD k 0).toNat) := (show _ = _ by
        rw [List.take_succ_eq_append_getElem hk', num_snoc, ← hy.out]; simp [hk'])
      have HL : Hid (y < 256 ^ k) := (show _ < _ by
        rw [hy.out]; have := num_lt (t.take k); rw [List.length_take, Nat.min_eq_left (by omega)] at this; exact this)
      clear hc1
      generalize t.getD k 0 = x at hx1 HT
      go_wp2
      go_round
      case rel =>
        refine ⟨k + 1, y * 256 + x.toNat, by omega, by go_num, ?_, HT.out.symm⟩
        rw [u64_shl_or y x k HL.out (by omega)]
      case measure => simp [intOf]; omega
    · obtain rfl : k = m := by omega
      have HQ : Hid (y = num t) := (show _ = _ by rw [hy.out, List.take_of_length_le (by rw [hm.out]; exact Nat.le_refl _)])
      clear hy
      go_wp2
      go_ret
      exact HP.out y HQ.out

theorem step_num_lt (l : List UInt8) (at_ : Nat) (err : Int) (n : Nat) : num (step l at_ err (n : Int)).1 < 256 ^ n :=
  Nat.lt_of_lt_of_le (num_lt _) (Nat.pow_le_pow_right (by omega) (step_len l at_ err n n (by omega)))

theorem u64_any (g : Nat) (l : List UInt8) (at_ : Nat) (err : Int) (w : World) (hR : Rdr w g l at_ err) :
    Calls Try.prog 54 #[.pointer (some ⟨g, 0, none⟩)] w (Numbered w g l at_ err 8) := by
  have H := Lib.hid (number_any g l at_ err 8 w hR (by omega))
  go_enter Try.func54, Try.ntmps54
  go_wp2_with fail
  refine H.out.mono ?_
  rintro e w' ⟨rfl, h1, h2⟩
  go_wp2
  go_ret
  exact ⟨rfl, h1, h2⟩

theorem u32_any (g : Nat) (l : List UInt8) (at_ : Nat) (err : Int) (w : World) (hR : Rdr w g l at_ err) :
    Calls Try.prog 53 #[.pointer (some ⟨g, 0, none⟩)] w fun e w' => e = .returned (.int .u32 ((num (step l at_ err 4).1 : Nat) : Int)) ∧ Rdr w' g l (step l at_ err 4).2.1 (step l at_ err 4).2.2 ∧ w.grownBy w' (some g) := by
  have HC := number_any g l at_ err 4 w hR (by omega)
  unfold Numbered at HC
  have hlt := step_num_lt l at_ err 4
  rw [show ((4 : Nat) : Int) = 4 from rfl] at hlt
  have hlt' : ((num (step l at_ err 4).1 : Nat) : Int) < 4294967296 := by omega
  clear hlt
  generalize num (step l at_ err 4).1 = x at HC hlt' ⊢
  have H := Lib.hid HC
  clear HC
  go_enter Try.func53, Try.ntmps53
  go_wp2_with fail
  refine H.out.mono ?_
  rintro e w' ⟨rfl, h1, h2⟩
  go_wp2
  go_ret
  exact ⟨rfl, h1, h2⟩

end Go.Proofs.Ytnojkoefdigcnaa.Oct
