/-
  The contract of the reference's Do where there are bytes enough.
-/
import Derived.Test.YtihphbeehadgmaaOct7
import Derived.Deep.RegionWith
namespace Go.Proofs.Ytihphbeehadgmaa.Oct
open Go.RowKit Go.Proofs.Ytihphbeehadgmaa.Wd

theorem block_add (a : Addr) (n : Nat) : (a.add n).block = a.block := by unfold Addr.add; split <;> rfl
theorem step_some (l : List UInt8) (at_ m : Nat) (z : Int) (hz : z = m) (h : at_ + m ≤ l.length) : Oct.step l at_ 0 z = ((l.drop at_).take m, at_ + m, 0) := by
  subst hz
  unfold Oct.step
  rw [if_neg (by simp), if_neg (by omega), if_neg (by omega), Int.toNat_natCast]

set_option maxHeartbeats 1000000 in
theorem do_some0 (A : Option Addr) (l : List UInt8) (n c : Nat) (at_ : Nat) (N : Int) (w : World) (hl : l.length = n) (hn : n ≤ 140737488355328) (hb : Bs w w.heap.size A l) (hnc : n ≤ c) (hs : 1 ≤ (n : Int) - (at_ : Int)) :
    Calls Try.prog 19 #[.agg #[.slice A n c, .int .i64 (at_ : Int), .int .i64 0], .agg #[.int .i64 0, .int .i64 N]] w (Did w A n c 0 (Oct.step l at_ 0 1)) := by
  rw [step_some l at_ 1 1 rfl (by omega)]
  have hlt : ((l.drop at_).take 1).length = 1 := by simp; omega
  have hbt := hb.cut at_ 1 (by omega)
  generalize (l.drop at_).take 1 = t at hlt hbt
  have HC : Hid (∀ W, Below w.heap.size w W → Calls Try.prog 28 #[.slice (Option.map (fun x => x.add at_) A) 1 (c - at_)] W fun e w' => e = .returned (.int .u64 ((num t : Nat) : Int)) ∧ W = w') := fun W h => num_any _ t 1 _ w.heap.size W hlt (by omega) (hbt.below h)
  clear hlt hbt hb hl
  go_enter Try.func19, Try.ntmps19
  go_wp2
  go_region_with (go_at_call 28; with_reducible refine (HC.out _ ?bel).mono ?_; (case bel => exact (((((Below.refl _ _).alloc (Nat.le_refl _) _).alloc (by simp) _).alloc (by simp; omega) _).alloc (by simp; omega) _).drew); rintro e w' ⟨rfl, rfl⟩)
  all_goals
    go_wp2
    exact bodyPost_ret (v := .tuple #[.agg #[.slice A n c, .int .i64 ((at_ : Int) + 1), .int .i64 0], .agg #[.int .u64 ((num t : Nat) : Int), .slice none 0 0]]) (by simp [results, Try.results19, go_sem]) rfl ⟨none, 0, 0, by simp, (show _ = _ from rfl), by simpa using Bs.nil _ _ _, (fun _ h => by cases h), (((((Below.refl _ _).alloc (Nat.le_refl _) _).alloc (by simp) _).alloc (by simp; omega) _).alloc (by simp; omega) _).drew⟩

set_option maxHeartbeats 1000000 in
theorem do_some1 (A : Option Addr) (l : List UInt8) (n c : Nat) (at_ : Nat) (N : Int) (w : World) (hl : l.length = n) (hn : n ≤ 140737488355328) (hb : Bs w w.heap.size A l) (hnc : n ≤ c) (hs : 2 ≤ (n : Int) - (at_ : Int)) :
    Calls Try.prog 19 #[.agg #[.slice A n c, .int .i64 (at_ : Int), .int .i64 0], .agg #[.int .i64 1, .int .i64 N]] w (Did w A n c 1 (Oct.step l at_ 0 2)) := by
  rw [step_some l at_ 2 2 rfl (by omega)]
  have hlt : ((l.drop at_).take 2).length = 2 := by simp; omega
  have hbt := hb.cut at_ 2 (by omega)
  generalize (l.drop at_).take 2 = t at hlt hbt
  have HC : Hid (∀ W, Below w.heap.size w W → Calls Try.prog 28 #[.slice (Option.map (fun x => x.add at_) A) 2 (c - at_)] W fun e w' => e = .returned (.int .u64 ((num t : Nat) : Int)) ∧ W = w') := fun W h => num_any _ t 2 _ w.heap.size W hlt (by omega) (hbt.below h)
  clear hlt hbt hb hl
  go_enter Try.func19, Try.ntmps19
  go_wp2
  go_region_with (go_at_call 28; with_reducible refine (HC.out _ ?bel).mono ?_; (case bel => exact (((((Below.refl _ _).alloc (Nat.le_refl _) _).alloc (by simp) _).alloc (by simp; omega) _).alloc (by simp; omega) _).drew); rintro e w' ⟨rfl, rfl⟩)
  all_goals
    go_wp2
    exact bodyPost_ret (v := .tuple #[.agg #[.slice A n c, .int .i64 ((at_ : Int) + 2), .int .i64 0], .agg #[.int .u64 ((num t : Nat) : Int), .slice none 0 0]]) (by simp [results, Try.results19, go_sem]) rfl ⟨none, 0, 0, by simp, (show _ = _ from rfl), by simpa using Bs.nil _ _ _, (fun _ h => by cases h), (((((Below.refl _ _).alloc (Nat.le_refl _) _).alloc (by simp) _).alloc (by simp; omega) _).alloc (by simp; omega) _).drew⟩

set_option maxHeartbeats 1000000 in
theorem do_some2 (A : Option Addr) (l : List UInt8) (n c : Nat) (at_ : Nat) (N : Int) (w : World) (hl : l.length = n) (hn : n ≤ 140737488355328) (hb : Bs w w.heap.size A l) (hnc : n ≤ c) (hs : 4 ≤ (n : Int) - (at_ : Int)) :
    Calls Try.prog 19 #[.agg #[.slice A n c, .int .i64 (at_ : Int), .int .i64 0], .agg #[.int .i64 2, .int .i64 N]] w (Did w A n c 2 (Oct.step l at_ 0 4)) := by
  rw [step_some l at_ 4 4 rfl (by omega)]
  have hlt : ((l.drop at_).take 4).length = 4 := by simp; omega
  have hbt := hb.cut at_ 4 (by omega)
  generalize (l.drop at_).take 4 = t at hlt hbt
  have HC : Hid (∀ W, Below w.heap.size w W → Calls Try.prog 28 #[.slice (Option.map (fun x => x.add at_) A) 4 (c - at_)] W fun e w' => e = .returned (.int .u64 ((num t : Nat) : Int)) ∧ W = w') := fun W h => num_any _ t 4 _ w.heap.size W hlt (by omega) (hbt.below h)
  clear hlt hbt hb hl
  go_enter Try.func19, Try.ntmps19
  go_wp2
  go_region_with (go_at_call 28; with_reducible refine (HC.out _ ?bel).mono ?_; (case bel => exact (((((Below.refl _ _).alloc (Nat.le_refl _) _).alloc (by simp) _).alloc (by simp; omega) _).alloc (by simp; omega) _).drew); rintro e w' ⟨rfl, rfl⟩)
  all_goals
    go_wp2
    exact bodyPost_ret (v := .tuple #[.agg #[.slice A n c, .int .i64 ((at_ : Int) + 4), .int .i64 0], .agg #[.int .u64 ((num t : Nat) : Int), .slice none 0 0]]) (by simp [results, Try.results19, go_sem]) rfl ⟨none, 0, 0, by simp, (show _ = _ from rfl), by simpa using Bs.nil _ _ _, (fun _ h => by cases h), (((((Below.refl _ _).alloc (Nat.le_refl _) _).alloc (by simp) _).alloc (by simp; omega) _).alloc (by simp; omega) _).drew⟩

set_option maxHeartbeats 1000000 in
theorem do_some3 (A : Option Addr) (l : List UInt8) (n c : Nat) (at_ : Nat) (N : Int) (w : World) (hl : l.length = n) (hn : n ≤ 140737488355328) (hb : Bs w w.heap.size A l) (hnc : n ≤ c) (hs : 8 ≤ (n : Int) - (at_ : Int)) :
    Calls Try.prog 19 #[.agg #[.slice A n c, .int .i64 (at_ : Int), .int .i64 0], .agg #[.int .i64 3, .int .i64 N]] w (Did w A n c 3 (Oct.step l at_ 0 8)) := by
  rw [step_some l at_ 8 8 rfl (by omega)]
  have hlt : ((l.drop at_).take 8).length = 8 := by simp; omega
  have hbt := hb.cut at_ 8 (by omega)
  generalize (l.drop at_).take 8 = t at hlt hbt
  have HC : Hid (∀ W, Below w.heap.size w W → Calls Try.prog 28 #[.slice (Option.map (fun x => x.add at_) A) 8 (c - at_)] W fun e w' => e = .returned (.int .u64 ((num t : Nat) : Int)) ∧ W = w') := fun W h => num_any _ t 8 _ w.heap.size W hlt (by omega) (hbt.below h)
  clear hlt hbt hb hl
  go_enter Try.func19, Try.ntmps19
  go_wp2
  go_region_with (go_at_call 28; with_reducible refine (HC.out _ ?bel).mono ?_; (case bel => exact (((((Below.refl _ _).alloc (Nat.le_refl _) _).alloc (by simp) _).alloc (by simp; omega) _).alloc (by simp; omega) _).drew); rintro e w' ⟨rfl, rfl⟩)
  all_goals
    go_wp2
    exact bodyPost_ret (v := .tuple #[.agg #[.slice A n c, .int .i64 ((at_ : Int) + 8), .int .i64 0], .agg #[.int .u64 ((num t : Nat) : Int), .slice none 0 0]]) (by simp [results, Try.results19, go_sem]) rfl ⟨none, 0, 0, by simp, (show _ = _ from rfl), by simpa using Bs.nil _ _ _, (fun _ h => by cases h), (((((Below.refl _ _).alloc (Nat.le_refl _) _).alloc (by simp) _).alloc (by simp; omega) _).alloc (by simp; omega) _).drew⟩

set_option maxHeartbeats 1000000 in
theorem do_some4 (A : Option Addr) (l : List UInt8) (n c : Nat) (at_ m : Nat) (w : World) (hl : l.length = n) (hn : n ≤ 140737488355328) (hb : Bs w w.heap.size A l) (hnc : n ≤ c) (hat : at_ ≤ n) (hs : (m : Int) ≤ (n : Int) - (at_ : Int)) :
    Calls Try.prog 19 #[.agg #[.slice A n c, .int .i64 (at_ : Int), .int .i64 0], .agg #[.int .i64 4, .int .i64 (m : Int)]] w (Did w A n c 4 (Oct.step l at_ 0 (m : Int))) := by
  rw [step_some l at_ m m rfl (by omega)]
  have hlt : ((l.drop at_).take m).length = m := by simp; omega
  have hbt := hb.cut at_ m (by omega)
  generalize (l.drop at_).take m = t at hlt hbt
  have HT := Lib.hid hlt
  have HB : Hid (∀ W, Below w.heap.size w W → Bs W w.heap.size (A.map (·.add at_)) t) := fun W h => hbt.below h
  clear hlt hbt hb hl
  go_enter Try.func19, Try.ntmps19
  go_wp2
  · rename_i hca
    obtain rfl : m = 0 := by omega
    obtain rfl : t = [] := List.eq_nil_of_length_eq_zero HT.out
    exact bodyPost_ret (v := .tuple #[.agg #[.slice A n at_, .int .i64 ((at_ : Int) + ((0 : Nat) : Int)), .int .i64 0], .agg #[.int .u64 0, .slice A 0 0]]) (by simp [results, Try.results19, go_sem]) rfl ⟨A, 0, 0, by simp, (show _ = _ from rfl), by simpa using Bs.nil _ _ _, (fun a h => ⟨a, h, rfl⟩), ((((Below.refl _ _).alloc (Nat.le_refl _) _).alloc (by simp) _).alloc (by simp; omega) _).alloc (by simp; omega) _⟩
  · rename_i hca
    exact bodyPost_ret (v := .tuple #[.agg #[.slice A n c, .int .i64 ((at_ : Int) + (m : Int)), .int .i64 0], .agg #[.int .u64 0, .slice (Option.map (fun x => x.add at_) A) m (c - at_)]]) (by simp [results, Try.results19, go_sem]) rfl ⟨Option.map (fun x => x.add at_) A, m, c - at_, by simp, (show _ = _ from HT.out), (HB.out _ (((((Below.refl _ _).alloc (Nat.le_refl _) _).alloc (by simp) _).alloc (by simp; omega) _).alloc (by simp; omega) _)).more (by simp; omega), (fun a h => by obtain ⟨x, hx, rfl⟩ := Option.map_eq_some_iff.1 h; exact ⟨x, hx, block_add _ _⟩), ((((Below.refl _ _).alloc (Nat.le_refl _) _).alloc (by simp) _).alloc (by simp; omega) _).alloc (by simp; omega) _⟩

theorem do_any (A : Option Addr) (l : List UInt8) (n c k : Nat) (hk : k = 0 ∨ k = 1 ∨ k = 2 ∨ k = 3 ∨ k = 4) (at_ : Nat) (err N : Int) (w : World) (hl : l.length = n) (hn : n ≤ 140737488355328) (hb : Bs w w.heap.size A l) (hnc : n ≤ c) (hat : at_ ≤ n) :
    Calls Try.prog 19 #[.agg #[.slice A n c, .int .i64 (at_ : Int), .int .i64 err], .agg #[.int .i64 (k : Int), .int .i64 N]] w (Did w A n c k (Oct.step l at_ err (sz k N))) := by
  by_cases he : err = 0
  · subst he
    by_cases h0 : sz k N < 0
    · have hk4 : k = 4 := by
        rcases hk with rfl | rfl | rfl | rfl | rfl <;> simp [sz] at h0 ⊢
      subst hk4
      have hN : N < 0 := by simpa [sz] using h0
      have hst : Oct.step l at_ 0 (sz 4 N) = ([], at_, 2) := by unfold Oct.step; rw [if_neg (by simp), if_pos h0]
      rw [hst]
      exact do_neg A n c at_ N w hN
    · by_cases hs : (n : Int) - (at_ : Int) < sz k N
      · have hst : Oct.step l at_ 0 (sz k N) = ([], at_, 7) := by unfold Oct.step; rw [if_neg (by simp), if_neg h0, if_pos (by omega)]
        rw [hst]
        exact do_short A n c k hk at_ N w (by omega) hn (by omega) hs
      · rcases hk with rfl | rfl | rfl | rfl | rfl
        · exact do_some0 A l n c at_ N w hl hn hb hnc (by simpa [sz] using hs)
        · exact do_some1 A l n c at_ N w hl hn hb hnc (by simpa [sz] using hs)
        · exact do_some2 A l n c at_ N w hl hn hb hnc (by simpa [sz] using hs)
        · exact do_some3 A l n c at_ N w hl hn hb hnc (by simpa [sz] using hs)
        · have h4 : sz 4 N = N := by simp [sz]
          rw [h4] at hs h0 ⊢
          obtain ⟨m, rfl⟩ := Int.eq_ofNat_of_zero_le (show 0 ≤ N by omega)
          exact do_some4 A l n c at_ m w hl hn hb hnc hat (by omega)
  · have hst : Oct.step l at_ err (sz k N) = ([], at_, err) := by unfold Oct.step; rw [if_pos he]
    rw [hst]
    exact do_err A n c k hk at_ err N w (by simpa using he)
end Go.Proofs.Ytihphbeehadgmaa.Oct
