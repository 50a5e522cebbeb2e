/-
  Pages and their bytes: what is read of a page's bytes is the page. No program here.
-/
import Derived.Test.YtnojkoefdigcnaaPgF
namespace Go.Proofs.Ytnojkoefdigcnaa.Pg
set_option maxRecDepth 100000
open Go.RowKit Go.Proofs.Ytnojkoefdigcnaa.Wd Go.Proofs.Ytnojkoefdigcnaa.Oct Go.Proofs.Ytnojkoefdigcnaa.Dsk Go.Proofs.Ytnojkoefdigcnaa.Rec Go.Proofs.Ytnojkoefdigcnaa.Sum Go.Proofs.Ytnojkoefdigcnaa.Sm

theorem okM_iff {num : Int} {sl : Nat → List UInt8} : okM num sl = true ↔ (0 ≤ num ∧ num < 32) ∧ ∀ k, k < 4 → (sl k).length ≤ 52 := okN_iff
theorem step_ok (l : List UInt8) (at_ k : Nat) (h : at_ + k ≤ l.length) : Oct.step l at_ 0 (k : Int) = ((l.drop at_).take k, at_ + k, 0) := by
  unfold Oct.step
  rw [if_neg (by simp), if_neg (by omega), if_neg (by omega)]
  simp
theorem slotsB_congr {f g : Nat → List UInt8} : ∀ {n : Nat}, (∀ k, k < n → f k = g k) → slotsB f n = slotsB g n
  | 0, _ => rfl
  | n + 1, h => by rw [slotsB, slotsB, slotsB_congr (fun k hk => h k (by omega)), h n (by omega)]
theorem pageB_congr {num : Int} {lsn : Nat} {f g : Nat → List UInt8} (h : ∀ k, k < 4 → f k = g k) : pageB num lsn f = pageB num lsn g := by
  have e : bodyB num lsn f = bodyB num lsn g := by unfold bodyB; rw [slotsB_congr h]
  unfold pageB
  rw [e]
theorem okM_congr {num : Int} {f g : Nat → List UInt8} (h : ∀ k, k < 4 → f k = g k) : okM num f = okM num g := by
  unfold okM okN
  simp only [h 0 (by omega), h 1 (by omega), h 2 (by omega), h 3 (by omega)]
/-- the slots behind the first k ones -/
def tailB (sl : Nat → List UInt8) : Nat → Nat → List UInt8
  | 0, _ => []
  | n + 1, k => slotB (sl k) ++ tailB sl n (k + 1)
theorem slots_split (sl : Nat → List UInt8) (n : Nat) : ∀ k, slotsB sl (k + n) = slotsB sl k ++ tailB sl n k := by
  induction n with
  | zero => intro k; simp [tailB]
  | succ n ih =>
    intro k
    rw [show k + (n + 1) = (k + 1) + n from by omega, ih (k + 1), slotsB, tailB, List.append_assoc]
theorem slot_at {num : Int} {lsn : Nat} {sl : Nat → List UInt8} (h : ∀ k, k < 4 → (sl k).length ≤ 52) (k : Nat) (hk : k < 4) : ∃ pre post, pageB num lsn sl = pre ++ (slotB (sl k) ++ post) ∧ pre.length = 10 + 53 * k := by
  have e := slots_split sl (4 - k - 1 + 1) k
  rw [show k + (4 - k - 1 + 1) = 4 from by omega, tailB] at e
  refine ⟨headB num lsn ++ slotsB sl k, tailB sl (4 - k - 1) (k + 1) ++ List.replicate 30 0 ++ hi 4 (sm 2197175160 4 (bodyB num lsn sl)), ?_, ?_⟩
  · conv => lhs; unfold pageB
    conv => lhs; lhs; unfold bodyB
    rw [e]
    simp only [List.append_assoc]
  · simp only [List.length_append, headB, hi_length, slotsB_len h k (by omega)]
theorem slot_bytes {num : Int} {lsn : Nat} {sl : Nat → List UInt8} (h : ∀ k, k < 4 → (sl k).length ≤ 52) (k : Nat) (hk : k < 4) :
    ((pageB num lsn sl).drop (10 + 53 * k)).take 1 = [ub (sl k).length] ∧ ((pageB num lsn sl).drop (10 + 53 * k + 1)).take (sl k).length = sl k := by
  obtain ⟨pre, post, e, hp⟩ := slot_at (num := num) (lsn := lsn) h k hk
  rw [e, ← hp]
  constructor
  · rw [List.drop_left]
    simp [slotB]
  · rw [← List.drop_drop, List.drop_left]
    simp [slotB]
theorem ub_nat {n : Nat} (h : n ≤ 52) : (ub n).toNat = n := by simp [ub]; omega
theorem qs_back {num : Int} {lsn : Nat} {sl : Nat → List UInt8} (h : ∀ k, k < 4 → (sl k).length ≤ 52) : ∀ k, k ≤ 4 → qs (pageB num lsn sl) k = (10 + 53 * k, 0) ∧ ∀ j, j < k → rdS (pageB num lsn sl) j = sl j
  | 0, _ => ⟨rfl, fun j hj => by omega⟩
  | k + 1, hk => by
    obtain ⟨e, ih⟩ := qs_back (num := num) (lsn := lsn) h k (by omega)
    obtain ⟨b1, b2⟩ := slot_bytes (num := num) (lsn := lsn) h k (by omega)
    have hl := pageB_len (num := num) (lsn := lsn) h
    have hk52 := h k (by omega)
    have s1 := step_ok (pageB num lsn sl) (10 + 53 * k) 1 (by omega)
    rw [show ((1 : Nat) : Int) = 1 from rfl, b1] at s1
    have hN : sN (pageB num lsn sl) (10 + 53 * k, 0) = (sl k).length := by
      unfold sN
      rw [s1]
      simp [Wd.num, ub_nat hk52]
    have h1 : sq1 (pageB num lsn sl) (10 + 53 * k, 0) = (10 + 53 * k + 1, 0) := by
      unfold sq1
      rw [s1]
    have s2 := step_ok (pageB num lsn sl) (10 + 53 * k + 1) (sl k).length (by omega)
    rw [b2] at s2
    have h2 : sS (pageB num lsn sl) (10 + 53 * k, 0) = sl k := by
      unfold sS
      rw [hN, h1, s2]
    have h3 : sq2 (pageB num lsn sl) (10 + 53 * k, 0) = (10 + 53 * k + 1 + (sl k).length, 0) := by
      unfold sq2
      rw [hN, h1, s2]
    have s3 := step_ok (pageB num lsn sl) (10 + 53 * k + 1 + (sl k).length) (52 - (sl k).length) (by omega)
    have h4 : sq3 (pageB num lsn sl) (10 + 53 * k, 0) = (10 + 53 * (k + 1), 0) := by
      unfold sq3
      rw [hN, h3, show (52 - ((sl k).length : Int)) = ((52 - (sl k).length : Nat) : Int) from by omega, s3]
      simp only [Prod.mk.injEq, and_true]
      omega
    refine ⟨by rw [qs, e, h4], fun j hj => ?_⟩
    rcases Nat.lt_succ_iff_lt_or_eq.1 hj with hlt | rfl
    · exact ih j hlt
    · rw [rdS, e, h2]
theorem num_back {m lsn : Nat} {sl : Nat → List UInt8} (hm : m < 65536) : rdNum (pageB (m : Int) lsn sl) = m := by
  have e : (pageB (m : Int) lsn sl).take 2 = hi 2 m := by
    unfold pageB bodyB headB
    simp only [List.append_assoc]
    rw [List.take_append_of_le_length (by simp [hi_length])]
    rw [List.take_of_length_le (by simp [hi_length])]
    simp
  unfold rdNum
  rw [e, num_hi]
  exact Nat.mod_eq_of_lt hm
theorem lsn_back {m lsn : Nat} {sl : Nat → List UInt8} (hl : lsn < 18446744073709551616) : rdLsn (pageB (m : Int) lsn sl) = lsn := by
  have e : ((pageB (m : Int) lsn sl).drop 2).take 8 = hi 8 lsn := by
    unfold pageB bodyB headB
    simp only [List.append_assoc]
    rw [List.drop_append_of_le_length (by simp [hi_length]), List.drop_of_length_le (by simp [hi_length]), List.nil_append]
    rw [List.take_append_of_le_length (by simp [hi_length])]
    exact List.take_of_length_le (by simp [hi_length])
  unfold rdLsn
  rw [e, num_hi]
  exact Nat.mod_eq_of_lt hl
theorem sum_zeros : sm 2197175160 4 (List.replicate 252 0) = 1743147809 := by decide +kernel
theorem all_zero (l : List UInt8) (h : l.all (· == 0) = true) : l = List.replicate l.length 0 := by
  refine List.eq_replicate_of_mem fun b hb => ?_
  have := List.all_eq_true.1 h b hb
  simpa using this
/-- a page's bytes are not all noughts -/
theorem not_zero {num : Int} {lsn : Nat} {sl : Nat → List UInt8} (h : ∀ k, k < 4 → (sl k).length ≤ 52) : (pageB num lsn sl).all (· == 0) = false := by
  cases hz : (pageB num lsn sl).all (· == 0)
  · rfl
  · exfalso
    unfold pageB at hz
    rw [List.all_append, Bool.and_eq_true] at hz
    have e := all_zero _ hz.1
    rw [bodyB_len h] at e
    rw [e, sum_zeros] at hz
    exact absurd hz.2 (by decide)
/-- Decode of a page's bytes -/
theorem decM_back {m lsn : Nat} {sl : Nat → List UInt8} (hl : lsn < 18446744073709551616) (hok : okM (m : Int) sl = true) (number : Int) (h0 : 0 ≤ number ∧ number < 32) :
    if (m : Int) = number then ∃ S, (∀ k, k < 4 → S k = sl k) ∧ decM number (pageB (m : Int) lsn sl) = ⟨0, (m : Int), lsn, S⟩ else decM number (pageB (m : Int) lsn sl) = badP 160 := by
  have hok2 := okM_iff.1 hok
  have hn := num_back (m := m) (lsn := lsn) (sl := sl) (by omega)
  have hls := lsn_back (m := m) (sl := sl) hl
  have hS := (qs_back (num := (m : Int)) (lsn := lsn) hok2.2 4 (Nat.le_refl _)).2
  have hz := not_zero (num := (m : Int)) (lsn := lsn) hok2.2
  have hlen := pageB_len (num := (m : Int)) (lsn := lsn) hok2.2
  have hg : good number (pageB (m : Int) lsn sl) = decide ((m : Int) = number) := by
    unfold good
    rw [hn, hls, okM_congr hS, hok, pageB_congr hS]
    simp
  have hd : decM number (pageB (m : Int) lsn sl) = if decide ((m : Int) = number) = true then ⟨0, (m : Int), lsn, rdS (pageB (m : Int) lsn sl)⟩ else badP 160 := by
    unfold decM
    rw [if_pos h0, if_pos hlen, if_neg (by rw [hz]; decide), hg, hn, hls]
  split
  · rename_i h
    exact ⟨_, hS, by rw [hd, if_pos (by simpa using h)]⟩
  · rename_i h
    rw [hd, if_neg (by simpa using h)]
end Go.Proofs.Ytnojkoefdigcnaa.Pg
