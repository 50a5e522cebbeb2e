/-
  The statements' disk as numbers and lists: what ops do, what is held.
-/
import Derived.Test.YtbfpadilcfelbaaDevO
namespace Go.Proofs.Ytbfpadilcfelbaa.Dsk
open Go.RowKit Go.Proofs.Ytbfpadilcfelbaa.Wd

/-- a disk whose power may not go and which doesn't fail -/
def Calm (d : DM) : Prop := d.dead = false ∧ d.ps = false ∧ d.fs = false
/-- a crash: what is kept lives -/
def backM (sec : List (List UInt8)) : List (Int × List UInt8 × List UInt8) → List (List UInt8)
  | [] => sec
  | p :: ps => (backM sec ps).set p.1.toNat p.2.1
def liveF (sec : List (List UInt8)) (pend : List (Int × List UInt8 × List UInt8)) (keep : List Bool) (k : Nat) : List (List UInt8) :=
  (List.range k).foldl (fun s i => if keep.getD i false then s.set (pend.getD i noWrite).1.toNat (pend.getD i noWrite).2.2 else s) sec
def liveM (sec : List (List UInt8)) (pend : List (Int × List UInt8 × List UInt8)) (keep : List Bool) : List (List UInt8) := liveF sec pend keep pend.length
theorem liveF_succ (sec : List (List UInt8)) (pend : List (Int × List UInt8 × List UInt8)) (keep : List Bool) (k : Nat) : liveF sec pend keep (k + 1) = if keep.getD k false then (liveF sec pend keep k).set (pend.getD k noWrite).1.toNat (pend.getD k noWrite).2.2 else liveF sec pend keep k := by simp [liveF, List.range_succ]
theorem liveF_len (sec : List (List UInt8)) (pend : List (Int × List UInt8 × List UInt8)) (keep : List Bool) (k : Nat) : (liveF sec pend keep k).length = sec.length := by
  induction k with
  | zero => rfl
  | succ k ih => rw [liveF_succ]; split <;> simp [ih]
def DM.crashM (d : DM) (keep : List Bool) : DM := ⟨liveM (backM d.sec d.pend) d.pend keep, [], false, false, 0, false, 0, d.ops⟩
/-- what an op does to a disk, what it reads, its error -/
def DM.doesM (d : DM) (o : OM) : DM × List UInt8 × Int :=
  if kindM o.k = 0 then d.readM o.a
  else if kindM o.k = 1 then ((d.writeM o.a (blockM o.x)).1, nought, (d.writeM o.a (blockM o.x)).2)
  else if kindM o.k = 2 then (d.syncM.1, nought, d.syncM.2)
  else if kindM o.k = 3 then ((d.armM o.a).1, nought, (d.armM o.a).2)
  else if kindM o.k = 5 then ((d.failM o.a).1, nought, (d.failM o.a).2)
  else (d.crashM o.l, nought, 0)
/-- what a disk of six sectors is to which ops were done -/
def wornM (os : List OM) : DM := (os.take 120).foldl (fun d o => if kindM o.k < 3 then (d.doesM o).1 else d) (DM.new 6)
/-- a disk behind its sectors were read, one by one, and what they held -/
def DM.readsM (d : DM) (k : Nat) : DM × List (List UInt8) := (List.range k).foldl (fun (r : DM × List (List UInt8)) (i : Nat) => ((r.1.readM (i : Int)).1, r.2 ++ [(r.1.readM (i : Int)).2.1])) (d, [])
def DM.heldM (d : DM) : DM × List (List UInt8) := d.readsM d.sec.length
theorem readsM_succ (d : DM) (k : Nat) : d.readsM (k + 1) = (((d.readsM k).1.readM k).1, (d.readsM k).2 ++ [((d.readsM k).1.readM k).2.1]) := by
  simp [DM.readsM, List.range_succ]
theorem readsM_len (d : DM) (k : Nat) : (d.readsM k).2.length = k := by
  induction k with
  | zero => rfl
  | succ k ih => rw [readsM_succ, List.length_append, ih]; rfl
theorem readM_sec (d : DM) (i : Int) : (d.readM i).1.sec = d.sec := by
  unfold DM.readM
  split
  · exact pre_sec d i false
  · exact pre_sec d i false
theorem readM_pend (d : DM) (i : Int) : (d.readM i).1.pend = d.pend := by
  unfold DM.readM
  split
  · exact pre_pend d i false
  · exact pre_pend d i false
theorem readsM_sec (d : DM) (k : Nat) : (d.readsM k).1.sec = d.sec := by
  induction k with
  | zero => rfl
  | succ k ih => rw [readsM_succ]; exact (readM_sec _ _).trans ih
theorem readsM_pend (d : DM) (k : Nat) : (d.readsM k).1.pend = d.pend := by
  induction k with
  | zero => rfl
  | succ k ih => rw [readsM_succ]; exact (readM_pend _ _).trans ih
theorem readM_blk (d : DM) (i : Int) (h : Good d) : (d.readM i).2.1.length = 64 := by
  unfold DM.readM
  split
  · rename_i hz
    refine sec_len h ?_
    have : ¬ ((d.sec.length : Int) ≤ i) ∧ ¬ i < 0 := by
      constructor <;> (intro hc; revert hz; unfold DM.pre; split; simp; simp [hc])
    have := h.pos
    omega
  · rfl
theorem write_pend (d : DM) (i : Int) (b : List UInt8) : (d.writeM i b).1.pend.length ≤ d.pend.length + 1 := by
  unfold DM.writeM
  split
  · show ((d.pre i true).1.pend ++ [_]).length ≤ _
    rw [pre_pend]; simp
  · rw [pre_pend]; omega
theorem sync_pend (d : DM) : d.syncM.1.pend.length ≤ d.pend.length := by
  unfold DM.syncM
  split
  · exact Nat.zero_le _
  · rw [pre_pend]; exact Nat.le_refl _
theorem arm_pend (d : DM) (n : Int) : (d.armM n).1.pend = d.pend := by unfold DM.armM; split <;> rfl
theorem fail_pend (d : DM) (n : Int) : (d.failM n).1.pend = d.pend := by unfold DM.failM; split <;> rfl
theorem does_pend (d : DM) (o : OM) : (d.doesM o).1.pend.length ≤ d.pend.length + 1 := by
  unfold DM.doesM
  split
  · rw [readM_pend]; omega
  split
  · exact write_pend d _ _
  split
  · exact Nat.le_succ_of_le (sync_pend d)
  split
  · rw [show ((d.armM o.a).1, nought, (d.armM o.a).2).1 = (d.armM o.a).1 from rfl, arm_pend]; omega
  split
  · rw [show ((d.failM o.a).1, nought, (d.failM o.a).2).1 = (d.failM o.a).1 from rfl, fail_pend]; omega
  · exact Nat.zero_le _
/-- a calm disk's operations are done, wherever there is the sector -/
theorem pre_calm {d : DM} (h : Calm d) (i : Int) (ch : Bool) : d.pre i ch = (d, if i < 0 ∨ (d.sec.length : Int) ≤ i then 2 else 0) := by
  obtain ⟨h1, h2, h3⟩ := h
  unfold DM.pre
  by_cases a : i < 0
  · simp [h1, a]
  by_cases b : (d.sec.length : Int) ≤ i
  · simp [h1, a, b]
  simp [h1, h2, h3, a, b]
  cases d
  simp_all
theorem calm_read {d : DM} (h : Calm d) (i : Int) : Calm (d.readM i).1 ∧ (0 ≤ i → i < (d.sec.length : Int) → (d.readM i).2.1 = d.sec.getD i.toNat []) := by
  have hp := pre_calm h i false
  unfold DM.readM
  rw [hp]
  constructor
  · split <;> exact h
  · intro h0 h1
    rw [if_pos (by simp; omega)]
theorem calm_write {d : DM} (h : Calm d) (i : Int) (b : List UInt8) : d.writeM i b = if i < 0 ∨ (d.sec.length : Int) ≤ i then (d, 2) else ((d.put i.toNat b).tally, 0) := by
  unfold DM.writeM
  rw [pre_calm h i true]
  by_cases hr : i < 0 ∨ (d.sec.length : Int) ≤ i
  · simp [hr]
  · simp [hr]
theorem calm_sync {d : DM} (h : Calm d) (hp : 0 < d.sec.length) : d.syncM = ({ d with pend := [] }.tally, 0) := by
  unfold DM.syncM
  rw [pre_calm h 0 true]
  have : ¬ ((0 : Int) < 0 ∨ (d.sec.length : Int) ≤ 0) := by omega
  rw [if_neg this]
  exact if_pos rfl
theorem calm_does {d : DM} (h : Calm d) (hp : 0 < d.sec.length) (o : OM) (hk : kindM o.k < 3) : Calm (d.doesM o).1 ∧ (d.doesM o).1.sec = if kindM o.k = 1 ∧ 0 ≤ o.a ∧ o.a < (d.sec.length : Int) then d.sec.set o.a.toNat (blockM o.x) else d.sec := by
  by_cases k0 : kindM o.k = 0
  · have e : d.doesM o = d.readM o.a := by rw [DM.doesM, if_pos k0]
    have e2 : ¬ (kindM o.k = 1 ∧ 0 ≤ o.a ∧ o.a < (d.sec.length : Int)) := by omega
    rw [e, if_neg e2]
    exact ⟨(calm_read h o.a).1, readM_sec _ _⟩
  by_cases k1 : kindM o.k = 1
  · have e : d.doesM o = ((d.writeM o.a (blockM o.x)).1, nought, (d.writeM o.a (blockM o.x)).2) := by rw [DM.doesM, if_neg k0, if_pos k1]
    rw [e, calm_write h]
    by_cases hr : o.a < 0 ∨ (d.sec.length : Int) ≤ o.a
    · have e2 : ¬ (kindM o.k = 1 ∧ 0 ≤ o.a ∧ o.a < (d.sec.length : Int)) := by omega
      rw [if_pos hr, if_neg e2]
      exact ⟨h, rfl⟩
    · have e2 : kindM o.k = 1 ∧ 0 ≤ o.a ∧ o.a < (d.sec.length : Int) := by omega
      rw [if_neg hr, if_pos e2]
      exact ⟨h, rfl⟩
  by_cases k2 : kindM o.k = 2
  · have e : d.doesM o = (d.syncM.1, nought, d.syncM.2) := by rw [DM.doesM, if_neg k0, if_neg k1, if_pos k2]
    have e2 : ¬ (kindM o.k = 1 ∧ 0 ≤ o.a ∧ o.a < (d.sec.length : Int)) := by omega
    rw [e, if_neg e2, calm_sync h hp]
    exact ⟨h, rfl⟩
  · rcases kindM_in o.k with h0 | h0 | h0 | h0 | h0 | h0 <;> omega
theorem calm_new (n : Nat) : Calm (DM.new n) := ⟨rfl, rfl, rfl⟩
/-- what was written last -/
def lastM (os : List OM) : List (List UInt8) := (os.take 120).foldl (fun l o => if kindM o.k = 1 ∧ 0 ≤ o.a ∧ o.a < 6 then l.set o.a.toNat (blockM o.x) else l) (List.replicate 6 nought)
theorem worn_fold : ∀ (os : List OM) (d : DM), Calm d → d.sec.length = 6 →
    Calm (os.foldl (fun d o => if kindM o.k < 3 then (d.doesM o).1 else d) d) ∧ (os.foldl (fun d o => if kindM o.k < 3 then (d.doesM o).1 else d) d).sec = os.foldl (fun l o => if kindM o.k = 1 ∧ 0 ≤ o.a ∧ o.a < 6 then l.set o.a.toNat (blockM o.x) else l) d.sec
  | [], d, h, _ => ⟨h, rfl⟩
  | o :: os, d, h, h6 => by
    simp only [List.foldl_cons]
    by_cases hk : kindM o.k < 3
    · rw [if_pos hk]
      obtain ⟨hc, hs⟩ := calm_does h (by omega) o hk
      rw [h6] at hs
      have hl : (d.doesM o).1.sec.length = 6 := by rw [hs]; split <;> simp [h6]
      obtain ⟨h1, h2⟩ := worn_fold os _ hc hl
      refine ⟨h1, ?_⟩
      rw [h2, hs]
      rfl
    · rw [if_neg hk, if_neg (by omega)]
      exact worn_fold os d h h6
theorem worn_last (os : List OM) : Calm (wornM os) ∧ (wornM os).sec = lastM os := worn_fold (os.take 120) (DM.new 6) (calm_new 6) (by simp [DM.new])
theorem calm_reads {d : DM} (h : Calm d) : ∀ k, k ≤ d.sec.length → Calm (d.readsM k).1 ∧ (d.readsM k).2 = d.sec.take k
  | 0, _ => ⟨h, by simp [DM.readsM]⟩
  | k + 1, hk => by
    obtain ⟨h1, h2⟩ := calm_reads h k (by omega)
    have hs := readsM_sec d k
    obtain ⟨h3, h4⟩ := calm_read h1 (k : Int)
    rw [readsM_succ]
    refine ⟨h3, ?_⟩
    have h5 := h4 (by omega) (by rw [hs]; omega)
    show _ ++ [((d.readsM k).1.readM k).2.1] = _
    rw [h5, h2, hs, List.take_succ_eq_append_getElem (by omega)]
    simp [List.getD_eq_getElem?_getD, show k < d.sec.length by omega]
theorem calm_held {d : DM} (h : Calm d) : Calm d.heldM.1 ∧ d.heldM.2 = d.sec := by
  obtain ⟨h1, h2⟩ := calm_reads h d.sec.length (Nat.le_refl _)
  exact ⟨h1, by rw [DM.heldM, h2, List.take_length]⟩
end Go.Proofs.Ytbfpadilcfelbaa.Dsk
