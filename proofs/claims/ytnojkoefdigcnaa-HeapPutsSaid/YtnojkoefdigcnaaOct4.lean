/-
  The contracts of octet's Reader.
-/
import Derived.Test.YtnojkoefdigcnaaOct2
namespace Go.Proofs.Ytnojkoefdigcnaa.Oct
set_option maxRecDepth 100000
open Go.RowKit Go.Proofs.Ytnojkoefdigcnaa.Wd

/-- block g is a Reader of l that stands at place at, with the error err -/
def Rdr (w : World) (g : Nat) (l : List UInt8) (at_ : Nat) (err : Int) : Prop :=
  ∃ A n c, Row w g 115 [.slice A n c, .int .i64 (at_ : Int), .int .i64 err] ∧ Hid (l.length = n) ∧ Bs w g A l ∧ at_ ≤ n ∧ n ≤ c ∧ c ≤ 9223372036854775807 ∧ (A = none → c = 0)

section
variable {w w' : World} {g : Nat} {l : List UInt8} {at_ : Nat} {err : Int}
theorem Rdr.lt (h : Rdr w g l at_ err) : g < w.heap.size := by obtain ⟨_, _, _, hr, _⟩ := h; exact hr.lt
theorem Rdr.keep (h : Rdr w g l at_ err) (hk : ∀ k, k ≤ g → w'.heap[k]? = w.heap[k]?) : Rdr w' g l at_ err := by
  obtain ⟨A, n, c, hr, hn, hb, h1⟩ := h
  exact ⟨A, n, c, (hk g (Nat.le_refl _)).trans hr, hn, hb.keep fun b o hlt => World.cell?_of_block (w := w) (hk b (by omega)), h1⟩
theorem Rdr.below {B : Nat} (h : Rdr w g l at_ err) (hb : Below B w w') (hg : g < B) : Rdr w' g l at_ err := h.keep fun k hk => hb.block k (by omega)
theorem Rdr.drewN (h : Rdr w g l at_ err) (n : Nat) : Rdr (w.drewN n) g l at_ err := h
theorem Rdr.grown {g' : Nat} (h : Rdr w g l at_ err) (hb : w.grownBy w' (some g')) (hg : g < g') : Rdr w' g l at_ err := h.keep fun k hk => hb.block k (by have := h.lt; omega) (by simp; omega)
end

theorem err_nil (w : World) : Calls Try.prog 64 #[.pointer none] w fun e w' => e = .returned (.int .i64 1) ∧ w = w' := by
  go_enter Try.func64, Try.ntmps64
  go_wp2
  go_ret
  exact ⟨rfl, rfl⟩

theorem err_any (g : Nat) (l : List UInt8) (at_ : Nat) (err : Int) (w : World) (h : Rdr w g l at_ err) :
    Calls Try.prog 64 #[.pointer (some ⟨g, 0, none⟩)] w fun e w' => e = .returned (.int .i64 err) ∧ w = w' := by
  obtain ⟨A, n, c, hr, hn, hb, h1, h2, h3, h4⟩ := h
  clear h4
  have hc2 : w.cell? ⟨g, 2, none⟩ = some (.int .i64 err) := hr.cell 2
  go_enter Try.func64, Try.ntmps64
  go_wp2
  go_ret
  exact ⟨rfl, rfl⟩

theorem left_nil (w : World) : Calls Try.prog 65 #[.pointer none] w fun e w' => e = .returned (.int .i64 0) ∧ Still w w' := by
  go_enter Try.func65, Try.ntmps65
  go_wp2
  go_ret
  exact ⟨rfl, Still.refl _⟩

theorem left_any (g : Nat) (l : List UInt8) (at_ n : Nat) (err : Int) (w : World) (h : Rdr w g l at_ err) (hl : l.length = n) :
    Calls Try.prog 65 #[.pointer (some ⟨g, 0, none⟩)] w fun e w' => e = .returned (.int .i64 ((n : Int) - (at_ : Int))) ∧ Still w w' := by
  obtain ⟨A, m, c, hr, hn, hb, h1, h2, h3, h4⟩ := h
  clear h4
  obtain rfl : n = m := by rw [← hl, hn.out]
  clear hl hn
  have hc0 : w.cell? ⟨g, 0, none⟩ = some (.slice A n c) := hr.cell 0
  have hc1 : w.cell? ⟨g, 1, none⟩ = some (.int .i64 (at_ : Int)) := hr.cell 1
  have hi1 : (at_ : Int) ≤ (n : Int) := by omega
  go_enter Try.func65, Try.ntmps65
  go_wp2
  go_quiet (fail)
  go_wp2
  go_ret
  exact ⟨rfl, _, rfl⟩

/-- one taking: what is taken, the place and the error behind it -/
def step (l : List UInt8) (at_ : Nat) (err n : Int) : List UInt8 × Nat × Int :=
  if err ≠ 0 then ([], at_, err) else if n < 0 then ([], at_, 2) else if ((l.length - at_ : Nat) : Int) < n then ([], at_, 7) else ((l.drop at_).take n.toNat, at_ + n.toNat, 0)

/-- what a taking leaves -/
def Took (w : World) (g : Nat) (l : List UInt8) (at_ : Nat) (err n : Int) (e : Ending) (w' : World) : Prop :=
  ∃ A m c, e = .returned (.slice A m c) ∧ Hid ((step l at_ err n).1.length = m) ∧ (A = none → c = 0) ∧ Bs w' g A (step l at_ err n).1 ∧ Rdr w' g l (step l at_ err n).2.1 (step l at_ err n).2.2 ∧ w.grownBy w' (some g)

theorem take_nil (n : Int) (w : World) : Calls Try.prog 62 #[.pointer none, .int .i64 n] w fun e w' => e = .returned (.slice none 0 0) ∧ Still w w' := by
  go_enter Try.func62, Try.ntmps62
  go_wp2_with fail
  refine (err_nil _).mono ?_
  rintro e w' ⟨rfl, rfl⟩
  go_wp2
  go_ret
  exact ⟨rfl, Still.refl _⟩

theorem take_err (g : Nat) (l : List UInt8) (at_ : Nat) (err n : Int) (w : World) (h : Rdr w g l at_ err) (he : err ≠ 0) :
    Calls Try.prog 62 #[.pointer (some ⟨g, 0, none⟩), .int .i64 n] w (Took w g l at_ err n) := by
  have hst : step l at_ err n = ([], at_, err) := by simp [step, he]
  unfold Took
  rw [hst]
  have hb : (err != 0) = true := by simpa using he
  clear hst
  go_enter Try.func62, Try.ntmps62
  go_wp2_with fail
  refine (err_any g l at_ err _ h).mono ?_
  rintro e w' ⟨rfl, rfl⟩
  go_wp2
  go_ret
  exact ⟨none, 0, 0, rfl, (show _ = _ from rfl), fun _ => rfl, Bs.nil _ _ _, h, World.grownBy.refl _ _⟩

theorem grown_store (w : World) (g i : Nat) (v : Value) : w.grownBy (w.setCell ⟨g, i, none⟩ v) (some g) :=
  ⟨rfl, rfl, rfl, by simp [World.setCell], fun k _ hne => Below.heap_setCell w _ v k (fun e => hne (by rw [e]))⟩
theorem grown_still {a w w' : World} {r : Option Nat} (h : a.grownBy w r) (hs : Still w w') : a.grownBy w' r := by
  obtain ⟨n, rfl⟩ := hs
  exact ⟨h.os, h.tape, h.output, h.size, h.block⟩
theorem grown_trans {a b c : World} {r : Option Nat} (h : a.grownBy b r) (k : b.grownBy c r) : a.grownBy c r :=
  ⟨k.os.trans h.os, k.tape.trans h.tape, k.output.trans h.output, Nat.le_trans h.size k.size, fun i hi hne => (k.block i (Nat.lt_of_lt_of_le hi h.size) hne).trans (h.block i hi hne)⟩

theorem Rdr.set1 {w : World} {g : Nat} {l : List UInt8} {a b : Nat} {e : Int} (h : Rdr w g l a e) (hb : b ≤ l.length) : Rdr (w.setCell ⟨g, 1, none⟩ (.int .i64 (b : Int))) g l b e := by
  obtain ⟨A, n, c, hr, hn, hbs, h1, h2, h3⟩ := h
  refine ⟨A, n, c, hr.store 1 _, hn, hbs.keep fun b' o hlt => ?_, by rw [← hn.out]; exact hb, h2, h3⟩
  exact World.cell?_of_block (w := w) (Below.heap_setCell w _ _ b' (by simp; omega))
theorem Rdr.set2 {w : World} {g : Nat} {l : List UInt8} {a : Nat} {e e' : Int} (h : Rdr w g l a e) : Rdr (w.setCell ⟨g, 2, none⟩ (.int .i64 e')) g l a e' := by
  obtain ⟨A, n, c, hr, hn, hbs, h1, h2, h3⟩ := h
  refine ⟨A, n, c, hr.store 2 _, hn, hbs.keep fun b' o hlt => ?_, h1, h2, h3⟩
  exact World.cell?_of_block (w := w) (Below.heap_setCell w _ _ b' (by simp; omega))

theorem take_neg (g : Nat) (l : List UInt8) (at_ : Nat) (n : Int) (w : World) (h : Rdr w g l at_ 0) (hn : n < 0) :
    Calls Try.prog 62 #[.pointer (some ⟨g, 0, none⟩), .int .i64 n] w (Took w g l at_ 0 n) := by
  have hst : step l at_ 0 n = ([], at_, 2) := by simp [step, hn]
  unfold Took
  rw [hst]
  clear hst
  have h0 := h
  obtain ⟨A, m, c, hr, hm, hb, h1, h2, h3, h4⟩ := h0
  clear h4
  have hc2 : w.cell? ⟨g, 2, none⟩ = some (.int .i64 0) := hr.cell 2
  have hf2 := hr.frozen 2
  go_enter Try.func62, Try.ntmps62
  go_wp2_with fail
  refine (err_any g l at_ 0 _ h).mono ?_
  rintro e w' ⟨rfl, rfl⟩
  go_wp2
  go_ret
  exact ⟨none, 0, 0, rfl, (show _ = _ from rfl), fun _ => rfl, Bs.nil _ _ _, h.set2, grown_store _ _ _ _⟩

theorem take_short (g : Nat) (l : List UInt8) (at_ : Nat) (n : Int) (w : World) (h : Rdr w g l at_ 0) (hn : 0 ≤ n) (hs : ((l.length - at_ : Nat) : Int) < n) :
    Calls Try.prog 62 #[.pointer (some ⟨g, 0, none⟩), .int .i64 n] w (Took w g l at_ 0 n) := by
  have hst : step l at_ 0 n = ([], at_, 7) := by
    have : ¬ n < 0 := by omega
    simp [step, this, hs]
  unfold Took
  rw [hst]
  clear hst
  have h0 := h
  obtain ⟨A, m, c, hr, hm, hb, h1, h2, h3, h4⟩ := h0
  clear h4
  have hc2 : ∀ k, (w.drewN k).cell? ⟨g, 2, none⟩ = some (.int .i64 0) := fun _ => hr.cell 2
  have hf2 : ∀ k, (w.drewN k).frozen? ⟨g, 2, none⟩ = false := fun _ => hr.frozen 2
  have hs' : (m : Int) - (at_ : Int) < n := by have := hm.out; omega
  clear hs
  go_enter Try.func62, Try.ntmps62
  go_wp2_with fail
  refine (err_any g l at_ 0 _ h).mono ?_
  rintro e w' ⟨rfl, rfl⟩
  go_wp2_with fail
  refine (left_any g l at_ m 0 _ h hm.out).mono ?_
  rintro e w' ⟨rfl, q, rfl⟩
  have hc2 := hc2 q
  have hf2 := hf2 q
  go_wp2
  go_ret
  exact ⟨none, 0, 0, rfl, (show _ = _ from rfl), fun _ => rfl, Bs.nil _ _ _, (h.drewN q).set2, grown_trans (grown_still (World.grownBy.refl _ _) ⟨q, rfl⟩) (grown_store _ _ _ _)⟩

set_option maxHeartbeats 400000 in
theorem take_some (g : Nat) (l : List UInt8) (at_ n : Nat) (w : World) (hR : Rdr w g l at_ 0) (hs : at_ + n ≤ l.length) :
    Calls Try.prog 62 #[.pointer (some ⟨g, 0, none⟩), .int .i64 (n : Int)] w (Took w g l at_ 0 (n : Int)) := by
  have hst : step l at_ 0 n = ((l.drop at_).take n, at_ + n, 0) := by
    have : ¬ (n : Int) < 0 := by omega
    have h2 : ¬ ((l.length - at_ : Nat) : Int) < n := by omega
    unfold step
    rw [if_neg (by simp), if_neg this, if_neg h2, Int.toNat_natCast]
  unfold Took
  rw [hst]
  clear hst
  have h0 := hR
  obtain ⟨A, m, c, hr, hm, hb, h1, h2, h3, h4⟩ := h0
  have H4 := Lib.hid h4
  clear h4
  have hs' : at_ + n ≤ m := by have := hm.out; omega
  have hs'' : (n : Int) ≤ (m : Int) - (at_ : Int) := by omega
  clear hs
  go_enter Try.func62, Try.ntmps62
  go_wp2_with fail
  refine (err_any g l at_ 0 _ hR).mono ?_
  rintro e w' ⟨rfl, rfl⟩
  go_wp2_with fail
  refine (left_any g l at_ m 0 _ hR hm.out).mono ?_
  rintro e w' ⟨rfl, q, rfl⟩
  have hr1 := hr.drewN q
  have hc0 : (w.drewN q).cell? ⟨g, 0, none⟩ = some (.slice A m c) := hr1.cell 0
  have hc1 : (w.drewN q).cell? ⟨g, 1, none⟩ = some (.int .i64 (at_ : Int)) := hr1.cell 1
  have hf1 := hr1.frozen 1
  have hr2 := hr1.store 1 (.int .i64 ((at_ : Int) + n))
  have hd0 : ((w.drewN q).setCell ⟨g, 1, none⟩ (.int .i64 ((at_ : Int) + n))).cell? ⟨g, 0, none⟩ = some (.slice A m c) := hr2.cell 0
  have hd1 : ((w.drewN q).setCell ⟨g, 1, none⟩ (.int .i64 ((at_ : Int) + n))).cell? ⟨g, 1, none⟩ = some (.int .i64 ((at_ : Int) + n)) := hr2.cell 1
  go_wp2
  go_quiet (fail)
  go_wp2
  all_goals go_ret
  · rename_i hca
    obtain rfl : n = 0 := by omega
    refine ⟨A, 0, 0, rfl, (show _ = _ by simp), fun _ => rfl, by simpa using Bs.nil _ _ _, ?_, ?_⟩
    · exact ((hR.drewN q).set1 (b := at_ + 0) (by rw [hm.out]; omega)).drewN _
    · exact grown_still (grown_trans (grown_still (World.grownBy.refl _ _) ⟨q, rfl⟩) (grown_store _ _ _ _)) ⟨_, rfl⟩
  · rename_i hca
    refine ⟨_, n, c - at_, rfl, (show _ = _ by have := hm.out; omega), fun hA => ?_, ?_, ?_, ?_⟩
    · have hA' : A = none := by simpa using hA
      have := H4.out hA'; omega
    · have h5 := ((hR.drewN q).set1 (b := at_ + n) (by rw [hm.out]; omega)).drewN nq
      refine (hb.cut at_ n (by rw [hm.out]; omega)).keep fun b o hlt => ?_
      exact World.cell?_of_block (w := w) (Below.heap_setCell (w.drewN q) _ _ b (by simp; omega))
    · exact ((hR.drewN q).set1 (b := at_ + n) (by rw [hm.out]; omega)).drewN _
    · exact grown_still (grown_trans (grown_still (World.grownBy.refl _ _) ⟨q, rfl⟩) (grown_store _ _ _ _)) ⟨_, rfl⟩

theorem take_any (g : Nat) (l : List UInt8) (at_ : Nat) (err n : Int) (w : World) (h : Rdr w g l at_ err) :
    Calls Try.prog 62 #[.pointer (some ⟨g, 0, none⟩), .int .i64 n] w (Took w g l at_ err n) := by
  by_cases he : err = 0
  · subst he
    by_cases hn : n < 0
    · exact take_neg g l at_ n w h hn
    · by_cases hs : ((l.length - at_ : Nat) : Int) < n
      · exact take_short g l at_ n w h (by omega) hs
      · obtain ⟨k, rfl⟩ := Int.eq_ofNat_of_zero_le (show 0 ≤ n by omega)
        have hle : at_ ≤ l.length := by obtain ⟨_, _, _, _, hm, _, h1, _⟩ := h; rw [hm.out]; exact h1
        exact take_some g l at_ k w h (by omega)
  · exact take_err g l at_ err n w h he
end Go.Proofs.Ytnojkoefdigcnaa.Oct
