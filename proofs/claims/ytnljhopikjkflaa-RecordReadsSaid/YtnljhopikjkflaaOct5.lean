/-
  The contracts of octet's Reader: numbers, bytes, and how a Reader is made.
-/
import Derived.Test.YtnljhopikjkflaaOct4
import Derived.Test.YtnljhopikjkflaaOct1
namespace Go.Proofs.Ytnljhopikjkflaa.Oct
set_option maxRecDepth 100000
open Go.RowKit Go.Proofs.Ytnljhopikjkflaa.Wd

theorem number_nil (n : Int) (w : World) : Calls Try.prog 63 #[.pointer none, .int .i64 n] w fun e w' => e = .returned (.int .u64 0) ∧ Still w w' := by
  go_enter Try.func63, Try.ntmps63
  go_wp2_with fail
  refine (take_nil _ _).mono ?_
  rintro e w' ⟨rfl, q, rfl⟩
  go_wp2
  refine wp_loop_rounds 1 ?_
  rw [rounds_succ]
  go_wp2
  go_ret
  exact ⟨rfl, q, rfl⟩

theorem step_len (l : List UInt8) (at_ : Nat) (err n : Int) (k : Nat) (hn : n ≤ k) : (step l at_ err n).1.length ≤ k := by
  unfold step
  split
  · simp
  · split
    · simp
    · split
      · simp
      · simp; omega

def Numbered (w : World) (g : Nat) (l : List UInt8) (at_ : Nat) (err n : Int) (e : Ending) (w' : World) : Prop :=
  e = .returned (.int .u64 ((num (step l at_ err n).1 : Nat) : Int)) ∧ Rdr w' g l (step l at_ err n).2.1 (step l at_ err n).2.2 ∧ w.grownBy w' (some g)

set_option maxHeartbeats 400000 in
theorem number_any (g : Nat) (l : List UInt8) (at_ : Nat) (err n : Int) (w : World) (hR : Rdr w g l at_ err) (hn8 : n ≤ 8) :
    Calls Try.prog 63 #[.pointer (some ⟨g, 0, none⟩), .int .i64 n] w (Numbered w g l at_ err n) := by
  have hlen := step_len l at_ err n 8 hn8
  go_enter Try.func63, Try.ntmps63
  go_wp2_with fail
  refine (take_any g l at_ err n _ hR).mono ?_
  rintro e w1 ⟨A, m, c, rfl, hm, hA, hb, hR1, hg⟩
  clear hA
  have HP : Hid (∀ x : Nat, x = num (step l at_ err n).1 → Numbered w g l at_ err n (.returned (.int .u64 (x : Int))) w1) := fun x hx => ⟨by rw [hx], hR1, hg⟩
  clear hR1 hg
  generalize hs : (step l at_ err n).1 = t at hm hb hlen HP
  clear hs
  have hm8 : m ≤ 8 := by rw [← hm.out]; exact hlen
  clear hlen
  go_wp2
  go_loop [5, 12] (fun v i => ∃ k y : Nat, k ≤ m ∧ i = .int .i64 k ∧ v = .int .u64 (y : Int) ∧ Hid (y = num (t.take k))) (fun _ i => m - (intOf i).toNat)
  case atStart => exact ⟨0, 0, by omega, rfl, rfl, (show _ = _ by simp [num])⟩
  case round =>
    obtain ⟨k, y, hk, rfl, rfl, hy⟩ := hrel
    by_cases hlt : k < m
    · have hk' : k < t.length := by rw [hm.out]; exact hlt
      obtain ⟨b1, o1, rfl, hbb, hc1⟩ := hb (by omega)
      have hx1 := hc1 k hk'
      have HT : Hid (num (t.take (k + 1)) = y * 256 + (t.getD k 0).toNat) := (show _ = _ by
        rw [List.take_succ_eq_append_getElem hk', num_snoc, ← hy.out]; simp [hk'])
      have HL : Hid (y < 256 ^ k) := (show _ < _ by
        rw [hy.out]; have := num_lt (t.take k); rw [List.length_take, Nat.min_eq_left (by omega)] at this; exact this)
      clear hc1
      generalize t.getD k 0 = x at hx1 HT
      go_wp2
      go_round
      case rel =>
        refine ⟨k + 1, y * 256 + x.toNat, by omega, by go_num, ?_, HT.out.symm⟩
        rw [u64_shl_or y x k HL.out (by omega)]
      case measure => simp [intOf]; omega
    · obtain rfl : k = m := by omega
      have HQ : Hid (y = num t) := (show _ = _ by rw [hy.out, List.take_of_length_le (by rw [hm.out]; exact Nat.le_refl _)])
      clear hy
      go_wp2
      go_ret
      exact HP.out y HQ.out

theorem step_num_lt (l : List UInt8) (at_ : Nat) (err : Int) (n : Nat) : num (step l at_ err (n : Int)).1 < 256 ^ n :=
  Nat.lt_of_lt_of_le (num_lt _) (Nat.pow_le_pow_right (by omega) (step_len l at_ err n n (by omega)))

theorem u64_any (g : Nat) (l : List UInt8) (at_ : Nat) (err : Int) (w : World) (hR : Rdr w g l at_ err) :
    Calls Try.prog 67 #[.pointer (some ⟨g, 0, none⟩)] w (Numbered w g l at_ err 8) := by
  have H := Lib.hid (number_any g l at_ err 8 w hR (by omega))
  go_enter Try.func67, Try.ntmps67
  go_wp2_with fail
  refine H.out.mono ?_
  rintro e w' ⟨rfl, h1, h2⟩
  go_wp2
  go_ret
  exact ⟨rfl, h1, h2⟩

theorem u16_any (g : Nat) (l : List UInt8) (at_ : Nat) (err : Int) (w : World) (hR : Rdr w g l at_ err) :
    Calls Try.prog 39 #[.pointer (some ⟨g, 0, none⟩)] w fun e w' => e = .returned (.int .u16 ((num (step l at_ err 2).1 : Nat) : Int)) ∧ Rdr w' g l (step l at_ err 2).2.1 (step l at_ err 2).2.2 ∧ w.grownBy w' (some g) := by
  have HC := number_any g l at_ err 2 w hR (by omega)
  unfold Numbered at HC
  have hlt := step_num_lt l at_ err 2
  rw [show ((2 : Nat) : Int) = 2 from rfl] at hlt
  have hlt' : ((num (step l at_ err 2).1 : Nat) : Int) < 65536 := by omega
  clear hlt
  generalize num (step l at_ err 2).1 = x at HC hlt' ⊢
  have H := Lib.hid HC
  clear HC
  go_enter Try.func39, Try.ntmps39
  go_wp2_with fail
  refine H.out.mono ?_
  rintro e w' ⟨rfl, h1, h2⟩
  go_wp2
  go_ret
  exact ⟨rfl, h1, h2⟩

theorem u8_any (g : Nat) (l : List UInt8) (at_ : Nat) (err : Int) (w : World) (hR : Rdr w g l at_ err) :
    Calls Try.prog 68 #[.pointer (some ⟨g, 0, none⟩)] w fun e w' => e = .returned (.int .u8 ((num (step l at_ err 1).1 : Nat) : Int)) ∧ Rdr w' g l (step l at_ err 1).2.1 (step l at_ err 1).2.2 ∧ w.grownBy w' (some g) := by
  have HC := number_any g l at_ err 1 w hR (by omega)
  unfold Numbered at HC
  have hlt := step_num_lt l at_ err 1
  rw [show ((1 : Nat) : Int) = 1 from rfl] at hlt
  have hlt' : ((num (step l at_ err 1).1 : Nat) : Int) < 256 := by omega
  clear hlt
  generalize num (step l at_ err 1).1 = x at HC hlt' ⊢
  have H := Lib.hid HC
  clear HC
  go_enter Try.func68, Try.ntmps68
  go_wp2_with fail
  refine H.out.mono ?_
  rintro e w' ⟨rfl, h1, h2⟩
  go_wp2
  go_ret
  exact ⟨rfl, h1, h2⟩

theorem raw_any (g : Nat) (l : List UInt8) (at_ : Nat) (err n : Int) (w : World) (hR : Rdr w g l at_ err) (hl : l.length ≤ 140737488355328) :
    Calls Try.prog 69 #[.pointer (some ⟨g, 0, none⟩), .int .i64 n] w fun e w' => ∃ A m c, e = .returned (.slice A m c) ∧ Hid ((step l at_ err n).1.length = m) ∧ (A = none → c = 0) ∧ Bs w' w'.heap.size A (step l at_ err n).1 ∧ Rdr w' g l (step l at_ err n).2.1 (step l at_ err n).2.2 ∧ w.grownBy w' (some g) ∧ (∀ b o, A = some ⟨b, o, none⟩ → w.heap.size ≤ b) := by
  obtain ⟨i0, hi, hz0, hz1, hz2⟩ := info_parts info5
  have hlen : (step l at_ err n).1.length ≤ l.length := by
    unfold step
    split
    · simp
    · split
      · simp
      · split
        · simp
        · simp; omega
  have HC := take_any g l at_ err n w hR
  unfold Took at HC
  generalize step l at_ err n = t at HC hlen ⊢
  have H := Lib.hid HC
  clear HC
  go_enter Try.func69, Try.ntmps69
  go_wp2_with fail
  refine H.out.mono ?_
  rintro e w1 ⟨A, m, c, rfl, hm, hA, hb, hR1, hg⟩
  have hA' := Lib.hid hA
  have hm' : m ≤ 140737488355328 := by rw [← hm.out]; omega
  clear hA hlen
  go_wp2_with (at_builtin; refine wpList_append_bs rfl _ _ 25 rfl w1.heap.size 5 i0 (.int .u8 0) Try.underlying25 hi hz0 hz1 hz2 rfl (.slice none 0 0) 0 [] rfl (World.ownsRow_nil _ _ _ _) A m c t.1 rfl hm.out g hb hA'.out (by omega) (Nat.le_refl _) ?_; intro v w2 hown2 hg2)
  have hown3 : w2.ownsRow w1.heap.size 5 1 v (0 + m) (bv t.1) := by simpa using hown2
  obtain ⟨A2, c2, rfl, hl2, hn2, hc2, hA2, hbs2, raw_new⟩ := own_bs hown3
  have HNEW := Lib.hid raw_new
  clear raw_new
  have HL2 := Lib.hid hl2
  have HA2 := Lib.hid hA2
  clear hl2 hA2 hown2 hown3
  go_wp2
  go_ret
  have hbel : Below w1.heap.size w1 w2 := (Below.refl _ _).grown hg2 (Nat.le_refl _) (fun k hk => by cases hk)
  refine ⟨A2, _, c2, rfl, (show _ = _ from HL2.out), HA2.out, hbs2, hR1.below hbel hR1.lt, grown_trans hg ⟨hbel.os, hbel.tape, hbel.output, hbel.size, fun k hk _ => hbel.block k hk⟩, fun b o e => Nat.le_trans hg.size (HNEW.out b (by rw [e]; rfl))⟩
end Go.Proofs.Ytnljhopikjkflaa.Oct
