/-
  A disk that is armed beside one that is not, as numbers and lists.
-/
import Derived.Test.YtbfpadilcfelbaaDevC2
namespace Go.Proofs.Ytbfpadilcfelbaa.Dsk
open Go.RowKit Go.Proofs.Ytbfpadilcfelbaa.Wd

theorem backM_snoc (s : List (List UInt8)) (l : List (Int × List UInt8 × List UInt8)) (p : Int × List UInt8 × List UInt8) : backM s (l ++ [p]) = backM (s.set p.1.toNat p.2.1) l := by
  induction l with
  | nil => rfl
  | cons q l ih => show (backM s (l ++ [p])).set _ _ = _; rw [ih]; rfl
/-- all the pending writes done anew -/
def redoF (s : List (List UInt8)) (l : List (Int × List UInt8 × List UInt8)) : List (List UInt8) := l.foldl (fun s p => s.set p.1.toNat p.2.2) s
theorem redoF_snoc (s : List (List UInt8)) (l : List (Int × List UInt8 × List UInt8)) (p : Int × List UInt8 × List UInt8) : redoF s (l ++ [p]) = (redoF s l).set p.1.toNat p.2.2 := by simp [redoF]
theorem live_all (s : List (List UInt8)) (l : List (Int × List UInt8 × List UInt8)) (keep : List Bool) : ∀ k, k ≤ l.length → (∀ i, i < k → keep.getD i false = true) → liveF s l keep k = redoF s (l.take k)
  | 0, _, _ => rfl
  | k + 1, h, hk => by
    rw [liveF_succ, hk k (by omega), live_all s l keep k (by omega) (fun i hi => hk i (by omega)), List.take_succ_eq_append_getElem (by omega), redoF_snoc]
    simp [List.getD_eq_getElem?_getD, show k < l.length by omega]
/-- the writes that are pending lead from what is safe to what is read -/
def Inv (d : DM) : Prop := redoF (backM d.sec d.pend) d.pend = d.sec
theorem inv_put {d : DM} (h : Inv d) {i : Nat} (hi : i < d.sec.length) (b : List UInt8) : Inv (d.put i b) := by
  have e : (d.sec.set i b).set i (d.sec.getD i []) = d.sec := by
    apply List.ext_getElem?
    intro n
    by_cases hn : i = n
    · subst hn
      simp [List.getD_eq_getElem?_getD, hi]
    · simp [List.getElem?_set, hn]
  show redoF (backM (d.sec.set i b) (d.pend ++ [((i : Int), d.sec.getD i [], b)])) (d.pend ++ [((i : Int), d.sec.getD i [], b)]) = d.sec.set i b
  rw [backM_snoc, redoF_snoc]
  show (redoF (backM ((d.sec.set i b).set i (d.sec.getD i [])) d.pend) d.pend).set i b = _
  rw [e, h]
theorem inv_none (d : DM) : Inv { d with pend := [] } := rfl
theorem pre_inv {d : DM} (h : Inv d) (i : Int) (ch : Bool) : Inv (d.pre i ch).1 := by
  unfold Inv
  rw [pre_sec, pre_pend]; exact h
theorem does_inv {d : DM} (hg : Good d) (h : Inv d) (o : OM) (hk : kindM o.k ≤ 2) : Inv (d.doesM o).1 := by
  rw [does_at d o hk]
  split
  · unfold Inv
    rw [readM_sec, readM_pend]; exact h
  split
  · show Inv (d.writeM o.a (blockM o.x)).1
    unfold DM.writeM
    split
    · rename_i hz
      have hlt : ¬ ((d.sec.length : Int) ≤ o.a) ∧ ¬ o.a < 0 := by
        constructor <;> (intro hc; revert hz; unfold DM.pre; split; simp; simp [hc])
      exact inv_put (d := (d.pre o.a true).1) (pre_inv h _ _) (by rw [pre_sec]; omega) _
    · exact pre_inv h _ _
  · show Inv d.syncM.1
    unfold DM.syncM
    split
    · exact inv_none _
    · exact pre_inv h _ _
/-- two disks that are the same but for one whose power will go -/
structure ARel (n q : Int) (da db : DM) : Prop where
  calm : Calm db
  pl : db.pl = 0
  six : db.sec.length = 6
  inv : Inv db
  le : q ≤ n
  rel : da = { db with ps := true, pl := n - q }
def Ends (n q : Int) (o : OM) : Prop := q = n ∧ 0 < kindM o.k ∧ (kindM o.k = 2 ∨ (0 ≤ o.a ∧ o.a < 6))
theorem pre_arm {d : DM} (h : Calm d) (h6 : d.sec.length = 6) (j : Int) (i : Int) (ch : Bool) : ({ d with ps := true, pl := j } : DM).pre i ch =
    if i < 0 ∨ 6 ≤ i then ({ d with ps := true, pl := j }, 2) else if ch = true then (if j = 0 then ({ d with ps := true, pl := 0, dead := true }, 9) else ({ d with ps := true, pl := j - 1 }, 0)) else ({ d with ps := true, pl := j }, 0) := by
  obtain ⟨a1, a2, a3⟩ := h
  unfold DM.pre
  by_cases b1 : i < 0
  · simp [a1, b1]
  by_cases b2 : 6 ≤ i
  · simp [a1, b1, b2, h6]
  have b3 : ¬ ((d.sec.length : Int) ≤ i) := by omega
  cases ch
  · simp [a1, a3, b1, b2, b3]
  · by_cases hj : j = 0
    · simp [a1, a3, b1, b2, b3, hj]
    · simp [a1, a3, b1, b2, b3, hj]
theorem pre_arm_out {d : DM} (h : Calm d) (h6 : d.sec.length = 6) (j i : Int) (ch : Bool) (hr : i < 0 ∨ 6 ≤ i) : ({ d with ps := true, pl := j } : DM).pre i ch = ({ d with ps := true, pl := j }, 2) := (pre_arm h h6 j i ch).trans (if_pos hr)
theorem pre_arm_read {d : DM} (h : Calm d) (h6 : d.sec.length = 6) (j i : Int) (hr : ¬ (i < 0 ∨ 6 ≤ i)) : ({ d with ps := true, pl := j } : DM).pre i false = ({ d with ps := true, pl := j }, 0) := (pre_arm h h6 j i false).trans ((if_neg hr).trans (if_neg (by simp)))
theorem pre_arm_on {d : DM} (h : Calm d) (h6 : d.sec.length = 6) (j i : Int) (hr : ¬ (i < 0 ∨ 6 ≤ i)) (hj : j ≠ 0) : ({ d with ps := true, pl := j } : DM).pre i true = ({ d with ps := true, pl := j - 1 }, 0) := (pre_arm h h6 j i true).trans ((if_neg hr).trans ((if_pos rfl).trans (if_neg hj)))
theorem pre_arm_end {d : DM} (h : Calm d) (h6 : d.sec.length = 6) (i : Int) (hr : ¬ (i < 0 ∨ 6 ≤ i)) : ({ d with ps := true, pl := 0 } : DM).pre i true = ({ d with ps := true, pl := 0, dead := true }, 9) := (pre_arm h h6 0 i true).trans ((if_neg hr).trans ((if_pos rfl).trans (if_pos rfl)))
theorem calm_pre_in {d : DM} (h : Calm d) (h6 : d.sec.length = 6) (i : Int) (ch : Bool) (hr : ¬ (i < 0 ∨ 6 ≤ i)) : d.pre i ch = (d, 0) := by
  rw [pre_calm h, if_neg (by omega)]
theorem calm_pre_out {d : DM} (h : Calm d) (h6 : d.sec.length = 6) (i : Int) (ch : Bool) (hr : i < 0 ∨ 6 ≤ i) : d.pre i ch = (d, 2) := by
  rw [pre_calm h, if_pos (by omega)]
theorem readM_ok {d d1 : DM} {i : Int} (h : d.pre i false = (d1, 0)) : d.readM i = (d1.tally, d.sec.getD i.toNat [], 0) := by unfold DM.readM; rw [h]; exact if_pos rfl
theorem readM_err {d d1 : DM} {i e : Int} (h : d.pre i false = (d1, e)) (he : e ≠ 0) : d.readM i = (d1, nought, e) := by unfold DM.readM; rw [h]; exact if_neg he
theorem writeM_ok {d d1 : DM} {i : Int} {b : List UInt8} (h : d.pre i true = (d1, 0)) : d.writeM i b = ((d1.put i.toNat b).tally, 0) := by unfold DM.writeM; rw [h]; exact if_pos rfl
theorem writeM_err {d d1 : DM} {i e : Int} {b : List UInt8} (h : d.pre i true = (d1, e)) (he : e ≠ 0) : d.writeM i b = (d1, e) := by unfold DM.writeM; rw [h]; exact if_neg he
theorem syncM_ok {d d1 : DM} (h : d.pre 0 true = (d1, 0)) : d.syncM = ({ d1 with pend := [] }.tally, 0) := by unfold DM.syncM; rw [h]; exact if_pos rfl
theorem syncM_err {d d1 : DM} {e : Int} (h : d.pre 0 true = (d1, e)) (he : e ≠ 0) : d.syncM = (d1, e) := by unfold DM.syncM; rw [h]; exact if_neg he
theorem does_0 (d : DM) (o : OM) (h : kindM o.k = 0) : d.doesM o = d.readM o.a := by rw [DM.doesM, if_pos h]
theorem does_1 (d : DM) (o : OM) (h : kindM o.k = 1) : d.doesM o = ((d.writeM o.a (blockM o.x)).1, nought, (d.writeM o.a (blockM o.x)).2) := by rw [DM.doesM, if_neg (by omega), if_pos h]
theorem does_2 (d : DM) (o : OM) (h : kindM o.k = 2) : d.doesM o = (d.syncM.1, nought, d.syncM.2) := by rw [DM.doesM, if_neg (by omega), if_neg (by omega), if_pos h]
theorem ARel.now {n q : Int} {da db : DM} (h : ARel n q da db) (o : OM) (hk : kindM o.k ≤ 2) (he : Ends n q o) : da.doesM o = ({ da with dead := true }, nought, 9) := by
  obtain ⟨rfl, h0, hr⟩ := he
  have e := h.rel
  rw [Int.sub_self] at e
  subst e
  by_cases h1 : kindM o.k = 1
  · have hr' : ¬ (o.a < 0 ∨ 6 ≤ o.a) := by omega
    rw [does_1 _ o h1, writeM_err (pre_arm_end h.calm h.six o.a hr') (by decide)]
  · have h2 : kindM o.k = 2 := by rcases kindM_in o.k with h | h | h | h | h | h <;> omega
    rw [does_2 _ o h2, syncM_err (pre_arm_end h.calm h.six 0 (by omega)) (by decide)]
theorem arm_keep {d : DM} (h : Calm d) (hf : d.pl = 0) (h6 : d.sec.length = 6) (o : OM) (hk : kindM o.k ≤ 2) : Calm (d.doesM o).1 ∧ (d.doesM o).1.pl = 0 ∧ (d.doesM o).1.sec.length = 6 := by
  have h1 := calm_does h (by omega) o (by omega)
  refine ⟨h1.1, ?_, ?_⟩
  · rw [does_at d o hk]
    have hr := pre_calm h
    split
    · unfold DM.readM
      rw [hr]
      split <;> exact hf
    split
    · rw [calm_write h]
      split <;> exact hf
    · rw [calm_sync h (by omega)]
      exact hf
  · rw [h1.2]
    split
    · rw [List.length_set]; exact h6
    · exact h6
/-- how much nearer its end an op brings an armed disk -/
def costs (d : DM) (o : OM) : Int := if 0 < kindM o.k ∧ (d.doesM o).2.2 = 0 then 1 else 0
theorem ARel.later {n q : Int} {da db : DM} (h : ARel n q da db) (hg : Good db) (o : OM) (hk : kindM o.k ≤ 2) (he : ¬ Ends n q o) : (da.doesM o).2 = (db.doesM o).2 ∧ (da.doesM o).1.dead = false ∧ ARel n (q + costs db o) (da.doesM o).1 (db.doesM o).1 := by
  obtain ⟨k1, k2, k3⟩ := arm_keep h.calm h.pl h.six o hk
  have k4 := does_inv hg h.inv o hk
  have hle := h.le
  have e := h.rel
  suffices hs : da.doesM o = ({ (db.doesM o).1 with ps := true, pl := n - (q + costs db o) }, (db.doesM o).2) ∧ q + costs db o ≤ n by
    rw [hs.1]
    exact ⟨rfl, k1.1, k1, k2, k3, k4, hs.2, rfl⟩
  subst e
  have h6 := h.six
  by_cases h0 : kindM o.k = 0
  · have hc : costs db o = 0 := by unfold costs; rw [if_neg (by omega)]
    rw [hc, Int.add_zero]
    refine ⟨?_, hle⟩
    rw [does_0 _ o h0, does_0 _ o h0]
    by_cases hr : o.a < 0 ∨ 6 ≤ o.a
    · rw [readM_err (pre_arm_out h.calm h6 _ o.a false hr) (by decide), readM_err (calm_pre_out h.calm h6 o.a false hr) (by decide)]
    · rw [readM_ok (pre_arm_read h.calm h6 _ o.a hr), readM_ok (calm_pre_in h.calm h6 o.a false hr)]
      rfl
  by_cases h1 : kindM o.k = 1
  · by_cases hr : o.a < 0 ∨ 6 ≤ o.a
    · have e1 := does_1 db o h1
      rw [writeM_err (calm_pre_out h.calm h6 o.a true hr) (by decide)] at e1
      have hc : costs db o = 0 := by unfold costs; rw [e1]; exact if_neg (by simp)
      rw [hc, Int.add_zero, e1, does_1 _ o h1, writeM_err (pre_arm_out h.calm h6 _ o.a true hr) (by decide)]
      exact ⟨rfl, hle⟩
    · have hqn : q ≠ n := fun e => he ⟨e, by omega, .inr ⟨by omega, by omega⟩⟩
      have e1 := does_1 db o h1
      rw [writeM_ok (calm_pre_in h.calm h6 o.a true hr)] at e1
      have hc : costs db o = 1 := by unfold costs; rw [e1]; exact if_pos ⟨by omega, rfl⟩
      rw [hc, e1, does_1 _ o h1, writeM_ok (pre_arm_on h.calm h6 _ o.a hr (by omega))]
      refine ⟨?_, by omega⟩
      rw [show n - (q + 1) = n - q - 1 by omega]
      rfl
  · have h2 : kindM o.k = 2 := by rcases kindM_in o.k with h | h | h | h | h | h <;> omega
    have hqn : q ≠ n := fun e => he ⟨e, by omega, .inl h2⟩
    have e1 := does_2 db o h2
    rw [syncM_ok (calm_pre_in h.calm h6 0 true (by omega))] at e1
    have hc : costs db o = 1 := by unfold costs; rw [e1]; exact if_pos ⟨by omega, rfl⟩
    rw [hc, e1, does_2 _ o h2, syncM_ok (pre_arm_on h.calm h6 _ 0 (by omega) (by omega))]
    refine ⟨?_, by omega⟩
    rw [show n - (q + 1) = n - q - 1 by omega]
    rfl
theorem pre_ps (d : DM) (p : Bool) (j i : Int) : ({ d with ps := p, pl := j } : DM).pre i false = ({ (d.pre i false).1 with ps := p, pl := j }, (d.pre i false).2) := by
  unfold DM.pre
  cases hd : d.dead <;> by_cases b1 : i < 0 <;> by_cases b2 : (d.sec.length : Int) ≤ i <;> by_cases b3 : d.fs = true ∧ d.fl = 0 <;> simp [hd, b1, b2, b3]
theorem readM_ps (d : DM) (p : Bool) (j i : Int) : ({ d with ps := p, pl := j } : DM).readM i = ({ (d.readM i).1 with ps := p, pl := j }, (d.readM i).2) := by
  unfold DM.readM
  rw [pre_ps]
  simp only []
  split <;> rfl
theorem readsM_ps (d : DM) (p : Bool) (j : Int) : ∀ k, ({ d with ps := p, pl := j } : DM).readsM k = ({ (d.readsM k).1 with ps := p, pl := j }, (d.readsM k).2)
  | 0 => rfl
  | k + 1 => by rw [readsM_succ, readsM_succ, readsM_ps d p j k, readM_ps]
theorem ARel.held {n q : Int} {da db : DM} (h : ARel n q da db) : da.heldM.2 = db.heldM.2 ∧ da.heldM.1.ops = db.heldM.1.ops ∧ da.sec = db.sec ∧ da.pend = db.pend := by
  have e := h.rel
  subst e
  have := readsM_ps db true (n - q) db.sec.length
  unfold DM.heldM
  exact ⟨by rw [show (({ db with ps := true, pl := n - q } : DM).readsM db.sec.length) = _ from this], by rw [show (({ db with ps := true, pl := n - q } : DM).readsM db.sec.length) = _ from this], rfl, rfl⟩
/-- of a dead disk nothing is done -/
theorem dead_does {d : DM} (h : d.dead = true) : d.readM 0 = (d, nought, 9) ∧ d.armM 5 = (d, 9) ∧ d.syncM = (d, 9) ∧ d.failM 1 = (d, 9) := by
  have hp : ∀ i ch, d.pre i ch = (d, 9) := fun i ch => by simp [DM.pre, h]
  refine ⟨readM_err (hp _ _) (by decide), ?_, syncM_err (hp _ _) (by decide), ?_⟩
  · unfold DM.armM; rw [if_pos h]
  · unfold DM.failM; rw [if_pos h]
/-- what is kept whole lives -/
theorem crash_all {d : DM} (h : Inv d) (keep : List Bool) (hk : ∀ i, i < d.pend.length → keep.getD i false = true) : Calm (d.crashM keep) ∧ (d.crashM keep).sec = d.sec := by
  refine ⟨⟨rfl, rfl, rfl⟩, ?_⟩
  show liveF (backM d.sec d.pend) d.pend keep d.pend.length = d.sec
  rw [live_all _ _ _ _ (Nat.le_refl _) hk, List.take_length]
  exact h
theorem arel_start (q : Int) (hq : 0 ≤ q) : ((DM.new 6).armM q).2 = 0 ∧ ARel q 0 ((DM.new 6).armM q).1 (DM.new 6) := by
  have e : (DM.new 6).armM q = ({ DM.new 6 with ps := true, pl := q }, 0) := by
    unfold DM.armM
    rw [if_neg (by simp [DM.new]), if_neg (by omega), show decide (0 ≤ q) = true by simpa using hq]
  rw [e]
  exact ⟨rfl, calm_new 6, rfl, by simp [DM.new], rfl, hq, by rw [Int.sub_zero]⟩
end Go.Proofs.Ytbfpadilcfelbaa.Dsk
