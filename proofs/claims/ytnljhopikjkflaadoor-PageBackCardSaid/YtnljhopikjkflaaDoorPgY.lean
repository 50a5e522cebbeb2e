/-
  The reference's way to read a page's bytes comes to what decM tells. No program here.
-/
import Derived.Test.YtnljhopikjkflaaDoorPgP
namespace Go.Proofs.YtnljhopikjkflaaDoor.Pg
set_option maxRecDepth 100000
open Go.RowKit Go.Proofs.YtnljhopikjkflaaDoor.Wd Go.Proofs.YtnljhopikjkflaaDoor.Oct Go.Proofs.YtnljhopikjkflaaDoor.Dsk Go.Proofs.YtnljhopikjkflaaDoor.Rec Go.Proofs.YtnljhopikjkflaaDoor.Sum Go.Proofs.YtnljhopikjkflaaDoor.Sm

/-- a slot's length and its bytes, by their place -/
def kS (l : List UInt8) (k : Nat) : Nat := (l.getD (10 + 53 * k) 0).toNat
def bS (l : List UInt8) (k : Nat) : List UInt8 := (l.drop (11 + 53 * k)).take (kS l k)
theorem getD_take1 (l : List UInt8) (i : Nat) (x : UInt8) (h : (l.drop i).take 1 = [x]) : l.getD i 0 = x := by
  have h1 : ((l.drop i).take 1)[0]? = some x := by rw [h]; rfl
  rw [List.getElem?_take, List.getElem?_drop] at h1
  simp at h1
  simp [List.getD_eq_getElem?_getD, h1]
theorem good_parts {number : Int} {l : List UInt8} (h : good number l = true) : okM (rdNum l : Int) (rdS l) = true ∧ (rdNum l : Int) = number ∧ pageB (rdNum l : Int) (rdLsn l) (rdS l) = l := by
  unfold good at h
  simp only [Bool.and_eq_true, decide_eq_true_eq] at h
  exact ⟨h.1.1, h.1.2, h.2⟩
theorem good_slot {number : Int} {l : List UInt8} (h : good number l = true) (k : Nat) (hk : k < 4) : kS l k = (rdS l k).length ∧ kS l k ≤ 52 ∧ bS l k = rdS l k := by
  obtain ⟨h1, h2, h3⟩ := good_parts h
  have hle := (okM_iff.1 h1).2
  obtain ⟨b1, b2⟩ := slot_bytes (num := (rdNum l : Int)) (lsn := rdLsn l) hle k hk
  rw [h3] at b1 b2
  have e := getD_take1 l _ _ b1
  have e2 : kS l k = (rdS l k).length := by
    unfold kS
    rw [e, ub_nat (hle k hk)]
  refine ⟨e2, by rw [e2]; exact hle k hk, ?_⟩
  unfold bS
  rw [e2, show 11 + 53 * k = 10 + 53 * k + 1 by omega]
  exact b2
theorem not_good {number : Int} {l : List UInt8} (k : Nat) (hk : k < 4) (h : 52 < kS l k) : good number l = false := by
  cases hg : good number l
  · rfl
  · have := (good_slot hg k hk).2.1
    omega
theorem good_iff {m : Nat} {l : List UInt8} (hm : m < 32) (hl : l.length = 256) (hk : ∀ k, k < 4 → kS l k ≤ 52) : decide (pageB (m : Int) (rdLsn l) (bS l) = l) = good (m : Int) l := by
  have hbl : ∀ k, k < 4 → (bS l k).length ≤ 52 := fun k h4 => by
    unfold bS
    rw [List.length_take]
    have := hk k h4
    omega
  cases hg : good (m : Int) l
  · refine decide_eq_false fun e => ?_
    have hok : okM (m : Int) (bS l) = true := okM_iff.2 ⟨by omega, hbl⟩
    have hn := num_back (m := m) (lsn := rdLsn l) (sl := bS l) (by omega)
    have hS := (qs_back (num := (m : Int)) (lsn := rdLsn l) hbl 4 (Nat.le_refl _)).2
    rw [e] at hn hS
    have : good (m : Int) l = true := by
      unfold good
      rw [hn, okM_congr hS, hok, pageB_congr hS, e]
      simp
    rw [hg] at this
    cases this
  · refine decide_eq_true ?_
    obtain ⟨h1, h2, h3⟩ := good_parts hg
    rw [← h2, pageB_congr (fun k hk4 => (good_slot hg k hk4).2.2)]
    exact h3
/-- what decM tells of 256 bytes, not all noughts -/
theorem decM_by {m : Nat} {l : List UInt8} (hm : m < 32) (hl : l.length = 256) (hz : l.all (· == 0) = false) (hk : ∀ k, k < 4 → kS l k ≤ 52) :
    if pageB (m : Int) (rdLsn l) (bS l) = l then ∃ S, (∀ k, k < 4 → S k = bS l k) ∧ decM (m : Int) l = ⟨0, (m : Int), rdLsn l, S⟩ else decM (m : Int) l = badP 160 := by
  have hg := good_iff hm hl hk
  have hd : decM (m : Int) l = if good (m : Int) l = true then ⟨0, (rdNum l : Int), rdLsn l, rdS l⟩ else badP 160 := by
    unfold decM
    rw [if_pos (by omega), if_pos hl, if_neg (by rw [hz]; decide)]
  split
  · rename_i h
    rw [decide_eq_true h] at hg
    obtain ⟨h1, h2, h3⟩ := good_parts hg.symm
    exact ⟨rdS l, fun k hk4 => ((good_slot hg.symm k hk4).2.2).symm, by rw [hd, if_pos hg.symm, h2]⟩
  · rename_i h
    rw [decide_eq_false h] at hg
    rw [hd, if_neg (by rw [← hg]; decide)]
theorem decM_long {m : Nat} {l : List UInt8} (hm : m < 32) (hl : l.length = 256) (hz : l.all (· == 0) = false) (k : Nat) (hk : k < 4) (h : 52 < kS l k) : decM (m : Int) l = badP 160 := by
  unfold decM
  rw [if_pos (by omega), if_pos hl, if_neg (by rw [hz]; decide), if_neg (by rw [not_good k hk h]; decide)]
end Go.Proofs.YtnljhopikjkflaaDoor.Pg
