/-
  The reference's disk as numbers and lists, and that the developers' does as it.
-/
import Derived.Test.YtbfpadilcfelbaaDevS0
namespace Go.Proofs.Ytbfpadilcfelbaa.Dsk
open Go.RowKit Go.Proofs.Ytbfpadilcfelbaa.Wd

structure RA where
  safe : List (List UInt8)
  pend : List (Int × List UInt8)
  dead : Bool
  left : Int
  fails : Int
  ops : Int
def RA.askR (x : RA) (i : Int) : RA × Int := ({ x with fails := (askedM x.dead x.safe.length x.fails i).1 }, (askedM x.dead x.safe.length x.fails i).2)
def RA.doneR (x : RA) : RA × Bool :=
  ({ x with dead := (doneM x.dead x.left x.ops).1, left := (doneM x.dead x.left x.ops).2.1, ops := (doneM x.dead x.left x.ops).2.2.1 }, (doneM x.dead x.left x.ops).2.2.2)
def RA.readR (x : RA) (i : Int) : RA × List UInt8 × Int :=
  if (x.askR i).2 = 0 then ({ (x.askR i).1 with ops := (x.askR i).1.ops + 1 }, holdsM x.safe x.pend i.toNat, 0) else ((x.askR i).1, nought, (x.askR i).2)
def RA.writeR (x : RA) (i : Int) (b : List UInt8) : RA × Int :=
  if (x.askR i).2 = 0 then (if (x.askR i).1.doneR.2 = true then ({ (x.askR i).1.doneR.1 with pend := x.pend ++ [(i, b)] }, 0) else ((x.askR i).1.doneR.1, 9)) else x.askR i
/-- which of the writes live -/
def liveR (safe : List (List UInt8)) (pend : List (Int × List UInt8)) (keep : List Bool) (k : Nat) : List (List UInt8) :=
  (List.range k).foldl (fun s i => if keep.getD i false then s.set (pend.getD i (0, [])).1.toNat (pend.getD i (0, [])).2 else s) safe
theorem liveR_succ (safe : List (List UInt8)) (pend : List (Int × List UInt8)) (keep : List Bool) (k : Nat) : liveR safe pend keep (k + 1) = if keep.getD k false then (liveR safe pend keep k).set (pend.getD k (0, [])).1.toNat (pend.getD k (0, [])).2 else liveR safe pend keep k := by simp [liveR, List.range_succ]
theorem liveR_len (safe : List (List UInt8)) (pend : List (Int × List UInt8)) (keep : List Bool) (k : Nat) : (liveR safe pend keep k).length = safe.length := by
  induction k with
  | zero => rfl
  | succ k ih => rw [liveR_succ]; split <;> simp [ih]
def RA.lives (x : RA) (keep : List Bool) : RA := { x with safe := liveR x.safe x.pend keep x.pend.length, pend := [] }
def RA.syncR (x : RA) : RA × Int :=
  if (x.askR 0).2 = 0 then (if (x.askR 0).1.doneR.2 = true then ((x.askR 0).1.doneR.1.lives (List.replicate x.pend.length true), 0) else ((x.askR 0).1.doneR.1, 9)) else x.askR 0
def RA.armR (x : RA) (n : Int) : RA × Int := if x.dead then (x, 9) else ({ x with left := if n < -1 then -1 else n }, 0)
def RA.failR (x : RA) (n : Int) : RA × Int := if x.dead then (x, 9) else ({ x with fails := if n < -1 then -1 else n }, 0)
def RA.crashR (x : RA) (keep : List Bool) : RA := { x.lives keep with dead := false, left := -1, fails := -1 }
def RA.new (n : Nat) : RA := ⟨List.replicate n nought, [], false, -1, -1, 0⟩
/-- what an op does by the document -/
def RA.wantR (x : RA) (o : OM) : RA × List UInt8 × Int :=
  if kindM o.k = 0 then x.readR o.a
  else if kindM o.k = 1 then ((x.writeR o.a (blockM o.x)).1, nought, (x.writeR o.a (blockM o.x)).2)
  else if kindM o.k = 2 then (x.syncR.1, nought, x.syncR.2)
  else if kindM o.k = 3 then ((x.armR o.a).1, nought, (x.armR o.a).2)
  else if kindM o.k = 5 then ((x.failR o.a).1, nought, (x.failR o.a).2)
  else (x.crashR o.l, nought, 0)

/-- a pending write as the reference has it -/
def pw (p : Int × List UInt8 × List UInt8) : Int × List UInt8 := (p.1, p.2.2)
def count (s : Bool) (l : Int) : Int := if s = true then l else -1
/-- the developers' disk is as the reference's -/
structure Agr (t : Nat) (d : DM) (x : RA) : Prop where
  good : Good d
  inv : Inv d
  safe : x.safe = backM d.sec d.pend
  pend : x.pend = d.pend.map pw
  dead : x.dead = d.dead
  left : x.left = count d.ps d.pl
  fails : x.fails = count d.fs d.fl
  ops : x.ops = d.ops
  ops0 : 0 ≤ d.ops ∧ d.ops ≤ t
  len : d.pend.length ≤ t
theorem redo_get (s : List (List UInt8)) (l : List (Int × List UInt8 × List UInt8)) : ∀ (i : Nat), i < s.length → (∀ p ∈ l, 0 ≤ p.1) → (redoF s l).getD i [] = (l.map pw).foldl (fun b p => if p.1 = (i : Int) then p.2 else b) (s.getD i []) := by
  induction l generalizing s with
  | nil => intro i hi _; rfl
  | cons p l ih =>
    intro i hi hp
    have h0 := hp p (by simp)
    show (redoF (s.set p.1.toNat p.2.2) l).getD i [] = _
    rw [ih _ i (by simpa using hi) (fun q hq => hp q (by simp [hq])), List.map_cons, List.foldl_cons]
    congr 1
    show _ = if p.1 = (i : Int) then p.2.2 else s.getD i []
    by_cases e : p.1 = (i : Int)
    · rw [if_pos e, e, Int.toNat_natCast, set_get _ _ _ hi]
    · rw [if_neg e]
      simp only [List.getD_eq_getElem?_getD]
      rw [List.getElem?_set_ne (by omega)]
/-- what a sector holds is what was written last -/
theorem Agr.holds {t : Nat} {d : DM} {x : RA} (h : Agr t d x) (i : Nat) (hi : i < d.sec.length) : holdsM x.safe x.pend i = d.sec.getD i [] := by
  have h1 := redo_get (backM d.sec d.pend) d.pend i (by rw [backM_len]; exact hi) (fun p hp => (h.good.pend p hp).1)
  rw [h.inv] at h1
  rw [holdsM, h.safe, h.pend, ← h1]
theorem Agr.len_eq {t : Nat} {d : DM} {x : RA} (h : Agr t d x) : x.safe.length = d.sec.length := by rw [h.safe, backM_len]
theorem Agr.more {t t' : Nat} {d : DM} {x : RA} (h : Agr t d x) (ht : t ≤ t') : Agr t' d x := ⟨h.good, h.inv, h.safe, h.pend, h.dead, h.left, h.fails, h.ops, ⟨h.ops0.1, by have := h.ops0.2; omega⟩, by have := h.len; omega⟩
/-- asking -/
theorem Agr.ask {t : Nat} {d : DM} {x : RA} (h : Agr t d x) (i : Int) : (x.askR i).2 = (d.pre i false).2 ∧ Agr t (d.pre i false).1 (x.askR i).1 := by
  have hl := h.len_eq
  have hf := h.fails
  have hg := h.good.left
  unfold RA.askR askedM DM.pre
  rw [h.dead, hl, hf]
  cases hd : d.dead with
  | true =>
    simp only [if_true]
    exact ⟨trivial, h.good, h.inv, h.safe, h.pend, hd.symm, h.left, rfl, h.ops, h.ops0, h.len⟩
  | false =>
    by_cases h0 : i < 0
    · simp only [h0, true_or, if_true, Bool.false_eq_true, if_false]
      exact ⟨trivial, h.good, h.inv, h.safe, h.pend, hd.symm, h.left, rfl, h.ops, h.ops0, h.len⟩
    by_cases h1 : (d.sec.length : Int) ≤ i
    · simp only [h0, h1, or_true, if_true, Bool.false_eq_true, if_false]
      exact ⟨trivial, h.good, h.inv, h.safe, h.pend, hd.symm, h.left, rfl, h.ops, h.ops0, h.len⟩
    simp only [h0, h1, or_self, if_false, Bool.false_eq_true, false_and]
    cases hs : d.fs with
    | false =>
      have e : count false d.fl = -1 := rfl
      rw [e]
      simp only [Bool.false_eq_true, false_and, if_false]
      rw [if_neg (by omega), if_neg (by omega)]
      exact ⟨rfl, h.good.as rfl rfl rfl rfl, h.inv, h.safe, h.pend, rfl, h.left, rfl, h.ops, h.ops0, h.len⟩
    | true =>
      have e : count true d.fl = d.fl := rfl
      rw [e]
      by_cases hz : d.fl = 0
      · simp only [hz, and_self, if_true]
        refine ⟨trivial, ⟨h.good.pos, h.good.most, h.good.sec, h.good.pend, ⟨hg.1, hg.2.1, by show (0 : Int) ≤ 0; omega, by show (0 : Int) < _; omega⟩⟩, h.inv, h.safe, h.pend, rfl, h.left, rfl, h.ops, h.ops0, h.len⟩
      · rw [if_neg hz, if_pos (by omega)]
        simp only [hz, and_false, if_false, if_true]
        exact ⟨trivial, ⟨h.good.pos, h.good.most, h.good.sec, h.good.pend, ⟨hg.1, hg.2.1, by show (0 : Int) ≤ d.fl - 1; omega, by show d.fl - 1 < _; omega⟩⟩, h.inv, h.safe, h.pend, rfl, h.left, rfl, h.ops, h.ops0, h.len⟩
theorem pre_true (d : DM) (i : Int) (h : (d.pre i false).2 ≠ 0) : d.pre i true = d.pre i false := by
  revert h
  unfold DM.pre
  split
  · intro _; rfl
  split
  · intro _; rfl
  split
  · intro _; rfl
  split
  · intro _; rfl
  · intro h
    exact absurd (by simp) h
theorem pre_true0 (d : DM) (i : Int) (h : (d.pre i false).2 = 0) : d.pre i true = if (d.pre i false).1.ps = true ∧ (d.pre i false).1.pl = 0 then ({ (d.pre i false).1 with dead := true }, 9) else ({ (d.pre i false).1 with pl := if (d.pre i false).1.ps = true then (d.pre i false).1.pl - 1 else (d.pre i false).1.pl }, 0) := by
  revert h
  unfold DM.pre
  split
  · intro h; exact absurd h (by simp)
  split
  · intro h; exact absurd h (by simp)
  split
  · intro h; exact absurd h (by simp)
  split
  · intro h; exact absurd h (by simp)
  · intro _
    by_cases h1 : d.ps = true ∧ d.pl = 0
    · simp [h1.1, h1.2]
    · by_cases h2 : d.ps = true
      · have h3 : ¬ d.pl = 0 := fun h => h1 ⟨h2, h⟩
        simp [h2, h3]
      · simp [h2]
theorem pre_in (d : DM) (i : Int) (h : (d.pre i false).2 = 0) : 0 ≤ i ∧ i < (d.sec.length : Int) := by
  revert h
  unfold DM.pre
  split
  · intro h; exact absurd h (by simp)
  split
  · intro h; exact absurd h (by simp)
  split
  · intro h; exact absurd h (by simp)
  · intro _; omega
/-- a write or a sync is let by, or the power goes -/
theorem Agr.done {t : Nat} {d : DM} {x : RA} (h : Agr t d x) :
    (d.ps = true ∧ d.pl = 0 → x.doneR.2 = false ∧ Agr t { d with dead := true } x.doneR.1) ∧
    (¬ (d.ps = true ∧ d.pl = 0) → x.doneR.2 = true ∧ x.doneR.1.ops = x.ops + 1 ∧ Agr t { d with pl := if d.ps = true then d.pl - 1 else d.pl } { x.doneR.1 with ops := x.ops }) := by
  have hl := h.left
  have hg := h.good.left
  unfold RA.doneR doneM
  constructor
  · rintro ⟨h1, h2⟩
    have e : x.left = 0 := by rw [hl, h1, h2]; rfl
    rw [if_pos e]
    exact ⟨rfl, h.good.as rfl rfl rfl rfl, h.inv, h.safe, h.pend, rfl, hl, h.fails, h.ops, h.ops0, h.len⟩
  · intro hn
    cases hs : d.ps with
    | false =>
      have e : x.left = -1 := by rw [hl, hs]; rfl
      rw [if_neg (by omega), if_neg (by omega)]
      refine ⟨rfl, rfl, h.good.as rfl rfl (by simp) rfl, h.inv, h.safe, h.pend, h.dead, ?_, h.fails, h.ops, h.ops0, h.len⟩
      show x.left = count false _
      rw [hl, hs]; rfl
    | true =>
      have e : x.left = d.pl := by rw [hl, hs]; rfl
      have hz : ¬ d.pl = 0 := fun h => hn ⟨hs, h⟩
      rw [if_neg (by omega), if_pos (by omega)]
      refine ⟨rfl, rfl, ⟨h.good.pos, h.good.most, h.good.sec, h.good.pend, ⟨?_, ?_, hg.2.2⟩⟩, h.inv, h.safe, h.pend, h.dead, ?_, h.fails, h.ops, h.ops0, h.len⟩
      · simp only [if_true]; show 0 ≤ d.pl - 1; omega
      · simp only [if_true]; show d.pl - 1 < _; omega
      · show x.left - 1 = count true _
        rw [e]; rfl
theorem Agr.tally {t : Nat} {d : DM} {x : RA} (h : Agr t d x) (ht : t ≤ 1000000) : Agr (t + 1) d.tally { x with ops := x.ops + 1 } := by
  have e : wrap64 (d.ops + 1) = d.ops + 1 := by have := h.ops0; unfold wrap64; omega
  refine ⟨h.good.as rfl rfl rfl rfl, h.inv, h.safe, h.pend, h.dead, h.left, h.fails, ?_, ⟨?_, ?_⟩, ?_⟩
  · show x.ops + 1 = wrap64 (d.ops + 1); rw [e, h.ops]
  · show 0 ≤ wrap64 (d.ops + 1); rw [e]; have := h.ops0; omega
  · show wrap64 (d.ops + 1) ≤ _; rw [e]; have := h.ops0; omega
  · exact Nat.le_succ_of_le h.len
theorem back_put (s : List (List UInt8)) (l : List (Int × List UInt8 × List UInt8)) (i : Nat) (b : List UInt8) (hi : i < s.length) : backM (s.set i b) (l ++ [((i : Int), s.getD i [], b)]) = backM s l := by
  rw [backM_snoc, Int.toNat_natCast]
  congr 1
  apply List.ext_getElem
  · simp
  · intro j h1 h2
    have hj : j < s.length := by simpa using h1
    by_cases e : i = j
    · subst e
      simp [hi]
    · simp [List.getElem_set, e]
theorem Agr.put {t : Nat} {d : DM} {x : RA} (h : Agr t d x) {i : Nat} (hi : i < d.sec.length) {b : List UInt8} (hb : b.length = 64) (ht : t ≤ 1000000) : Agr (t + 1) (d.put i b).tally { x with pend := x.pend ++ [((i : Int), b)], ops := x.ops + 1 } := by
  have e : wrap64 (d.ops + 1) = d.ops + 1 := by have := h.ops0; unfold wrap64; omega
  refine ⟨(h.good.put hi hb).as rfl rfl rfl rfl, inv_put h.inv hi b, ?_, ?_, h.dead, h.left, h.fails, ?_, ⟨?_, ?_⟩, ?_⟩
  · show x.safe = backM (d.sec.set i b) (d.pend ++ [((i : Int), d.sec.getD i [], b)])
    rw [back_put _ _ _ _ hi]; exact h.safe
  · show x.pend ++ [((i : Int), b)] = (d.pend ++ [((i : Int), d.sec.getD i [], b)]).map pw
    rw [List.map_append, h.pend]; rfl
  · show x.ops + 1 = wrap64 (d.ops + 1); rw [e, h.ops]
  · show 0 ≤ wrap64 (d.ops + 1); rw [e]; have := h.ops0; omega
  · show wrap64 (d.ops + 1) ≤ _; rw [e]; have := h.ops0; omega
  · show (d.pend ++ [_]).length ≤ _
    have := h.len
    simp; omega
theorem live_same (s : List (List UInt8)) (l : List (Int × List UInt8 × List UInt8)) (keep : List Bool) : ∀ k, k ≤ l.length → liveR s (l.map pw) keep k = liveF s l keep k
  | 0, _ => rfl
  | k + 1, hk => by
    have hk' : k < l.length := by omega
    rw [liveR_succ, liveF_succ, live_same s l keep k (by omega)]
    have e : (l.map pw).getD k (0, []) = pw (l.getD k noWrite) := by
      simp only [List.getD_eq_getElem?_getD, List.getElem?_map, List.getElem?_eq_getElem hk']
      rfl
    rw [e]; rfl
theorem Agr.lives {t : Nat} {d : DM} {x : RA} (h : Agr t d x) (keep : List Bool) : (x.lives keep).safe = (d.crashM keep).sec := by
  show liveR x.safe x.pend keep x.pend.length = liveM (backM d.sec d.pend) d.pend keep
  rw [h.safe, h.pend, List.length_map, live_same _ _ _ _ (Nat.le_refl _)]
  rfl
theorem Agr.crash {t : Nat} {d : DM} {x : RA} (h : Agr t d x) (keep : List Bool) (hg : Good (d.crashM keep)) : Agr t (d.crashM keep) (x.crashR keep) :=
  ⟨hg, rfl, h.lives keep, rfl, rfl, rfl, rfl, h.ops, h.ops0, Nat.zero_le _⟩
theorem crash_good {d : DM} (h : Good d) (keep : List Bool) : Good (d.crashM keep) := by
  have hl := (crash_calm d keep).2.2.2
  refine ⟨by rw [hl]; exact h.pos, by rw [hl]; exact h.most, ?_, (fun p hp => by cases hp), ⟨by show (0 : Int) ≤ 0; omega, by show (0 : Int) < _; omega, by show (0 : Int) ≤ 0; omega, by show (0 : Int) < _; omega⟩⟩
  have hb : ∀ (l : List (Int × List UInt8 × List UInt8)), (∀ p ∈ l, p.2.1.length = 64) → ∀ b ∈ backM d.sec l, b.length = 64 := by
    intro l
    induction l with
    | nil => intro _ b hb; exact h.sec b hb
    | cons p l ih =>
      intro hp b hb
      rcases List.mem_or_eq_of_mem_set hb with hb | rfl
      · exact ih (fun q hq => hp q (by simp [hq])) b hb
      · exact hp p (by simp)
  have hv : ∀ k, k ≤ d.pend.length → ∀ b ∈ liveF (backM d.sec d.pend) d.pend keep k, b.length = 64 := by
    intro k
    induction k with
    | zero => intro _ b hb'; exact hb d.pend (fun p hp => (h.pend p hp).2.2.1) b hb'
    | succ k ih =>
      intro hk b hb'
      rw [liveF_succ] at hb'
      split at hb'
      · rcases List.mem_or_eq_of_mem_set hb' with hb' | rfl
        · exact ih (by omega) b hb'
        · exact (h.pend (d.pend.getD k noWrite) (by rw [List.getD_eq_getElem?_getD, List.getElem?_eq_getElem (by omega)]; exact List.getElem_mem _)).2.2.2
      · exact ih (by omega) b hb'
  exact hv d.pend.length (Nat.le_refl _)
/-- op by op the same -/
theorem Agr.does {t : Nat} {d : DM} {x : RA} (h : Agr t d x) (ht : t ≤ 1000000) (o : OM) (hm : o.a < 9223372036854775808) : (x.wantR o).2 = (d.doesM o).2 ∧ Agr (t + 1) (d.doesM o).1 (x.wantR o).1 := by
  obtain ⟨ha, hA⟩ := h.ask o.a
  obtain ⟨ha0, hA0⟩ := h.ask 0
  by_cases k0 : kindM o.k = 0
  · rw [does_0 d o k0, show x.wantR o = x.readR o.a from by rw [RA.wantR, if_pos k0]]
    unfold RA.readR DM.readM
    rw [ha]
    by_cases e : (d.pre o.a false).2 = 0
    · rw [if_pos e, if_pos e]
      have hin := pre_in d o.a e
      refine ⟨?_, hA.tally ht⟩
      show (holdsM x.safe x.pend o.a.toNat, (0 : Int)) = (d.sec.getD o.a.toNat [], 0)
      rw [h.holds o.a.toNat (by omega)]
    · rw [if_neg e, if_neg e]
      exact ⟨rfl, hA.more (by omega)⟩
  by_cases k1 : kindM o.k = 1
  · rw [does_1 d o k1, show x.wantR o = ((x.writeR o.a (blockM o.x)).1, nought, (x.writeR o.a (blockM o.x)).2) from by rw [RA.wantR, if_neg k0, if_pos k1]]
    unfold RA.writeR DM.writeM
    rw [ha]
    by_cases e : (d.pre o.a false).2 = 0
    · have hin := pre_in d o.a e
      rw [if_pos e, pre_true0 d o.a e]
      obtain ⟨hd1, hd2⟩ := hA.done
      by_cases hp : (d.pre o.a false).1.ps = true ∧ (d.pre o.a false).1.pl = 0
      · obtain ⟨h1, h2⟩ := hd1 hp
        rw [if_pos hp, if_neg (show ¬ _ from by rw [h1]; decide), if_neg (by simp)]
        exact ⟨rfl, h2.more (by omega)⟩
      · obtain ⟨h1, h2, h3⟩ := hd2 hp
        rw [if_neg hp, if_pos rfl, if_pos h1]
        refine ⟨rfl, ?_⟩
        have hsec : (d.pre o.a false).1.sec = d.sec := pre_sec d o.a false
        have h4 := h3.put (i := o.a.toNat) (by show _ < (d.pre o.a false).1.sec.length; rw [hsec]; omega) (blockM_len o.x) ht
        have e2 : ((o.a.toNat : Nat) : Int) = o.a := by omega
        rw [e2] at h4
        have e3 : ({ (x.askR o.a).1.doneR.1 with pend := x.pend ++ [(o.a, blockM o.x)] } : RA) = { ({ (x.askR o.a).1.doneR.1 with ops := (x.askR o.a).1.ops } : RA) with pend := ({ (x.askR o.a).1.doneR.1 with ops := (x.askR o.a).1.ops } : RA).pend ++ [(o.a, blockM o.x)], ops := ({ (x.askR o.a).1.doneR.1 with ops := (x.askR o.a).1.ops } : RA).ops + 1 } := by
          rw [← h2]; rfl
        show Agr (t + 1) _ ({ (x.askR o.a).1.doneR.1 with pend := x.pend ++ [(o.a, blockM o.x)] } : RA)
        rw [e3]
        exact h4
    · rw [if_neg e, pre_true d o.a e, if_neg e]
      exact ⟨by rw [ha], hA.more (by omega)⟩
  by_cases k2 : kindM o.k = 2
  · rw [does_2 d o k2, show x.wantR o = (x.syncR.1, nought, x.syncR.2) from by rw [RA.wantR, if_neg k0, if_neg k1, if_pos k2]]
    unfold RA.syncR DM.syncM
    rw [ha0]
    by_cases e : (d.pre 0 false).2 = 0
    · rw [if_pos e, pre_true0 d 0 e]
      obtain ⟨hd1, hd2⟩ := hA0.done
      by_cases hp : (d.pre 0 false).1.ps = true ∧ (d.pre 0 false).1.pl = 0
      · obtain ⟨h1, h2⟩ := hd1 hp
        rw [if_pos hp, if_neg (show ¬ _ from by rw [h1]; decide), if_neg (by simp)]
        exact ⟨rfl, h2.more (by omega)⟩
      · obtain ⟨h1, h2, h3⟩ := hd2 hp
        rw [if_neg hp, if_pos rfl, if_pos h1]
        refine ⟨rfl, ?_⟩
        have hsec : (d.pre 0 false).1.sec = d.sec := pre_sec d 0 false
        have hpd : (d.pre 0 false).1.pend = d.pend := pre_pend d 0 false
        have hsafe : liveR x.safe x.pend (List.replicate x.pend.length true) x.pend.length = d.sec := by
          have hcr := (crash_all h.inv (List.replicate x.pend.length true) (fun i hi => by
            have : x.pend.length = d.pend.length := by rw [h.pend, List.length_map]
            rw [this]
            simp [List.getD_eq_getElem?_getD, hi])).2
          rw [← hcr]
          exact h.lives _
        have e1 : wrap64 (d.ops + 1) = d.ops + 1 := by have := h.ops0; unfold wrap64; omega
        have hops : (d.pre 0 false).1.ops = d.ops := by rw [← hA0.ops, ← h.ops]; rfl
        refine ⟨⟨?_, ?_, ?_, (fun p hp => by cases hp), h3.good.left⟩, rfl, ?_, rfl, h3.dead, h3.left, h3.fails, ?_, ⟨?_, ?_⟩, Nat.zero_le _⟩
        · exact h3.good.pos
        · exact h3.good.most
        · exact h3.good.sec
        · show liveR x.safe x.pend (List.replicate x.pend.length true) x.pend.length = (d.pre 0 false).1.sec
          rw [hsec]; exact hsafe
        · show (x.askR 0).1.doneR.1.ops = wrap64 ((d.pre 0 false).1.ops + 1)
          rw [h2, hops, e1, ← h.ops]; rfl
        · show 0 ≤ wrap64 ((d.pre 0 false).1.ops + 1)
          rw [hops, e1]; have := h.ops0; omega
        · show wrap64 ((d.pre 0 false).1.ops + 1) ≤ _
          rw [hops, e1]; have := h.ops0; omega
    · rw [if_neg e, pre_true d 0 e, if_neg e]
      exact ⟨by rw [ha0], hA0.more (by omega)⟩
  by_cases k3 : kindM o.k = 3
  · rw [show d.doesM o = ((d.armM o.a).1, nought, (d.armM o.a).2) from by rw [DM.doesM, if_neg k0, if_neg k1, if_neg k2, if_pos k3], show x.wantR o = ((x.armR o.a).1, nought, (x.armR o.a).2) from by rw [RA.wantR, if_neg k0, if_neg k1, if_neg k2, if_pos k3]]
    unfold RA.armR DM.armM
    rw [h.dead]
    cases hd : d.dead with
    | true => exact ⟨rfl, h.more (by omega)⟩
    | false =>
      simp only [Bool.false_eq_true, if_false]
      refine ⟨trivial, ⟨h.good.pos, h.good.most, h.good.sec, h.good.pend, ⟨?_, ?_, h.good.left.2.2⟩⟩, h.inv, h.safe, h.pend, rfl, ?_, h.fails, h.ops, ⟨h.ops0.1, by have := h.ops0.2; show d.ops ≤ _; omega⟩, Nat.le_succ_of_le h.len⟩
      · show 0 ≤ if o.a < 0 then (0 : Int) else o.a
        split <;> omega
      · show (if o.a < 0 then (0 : Int) else o.a) < _
        split <;> omega
      · show (if o.a < -1 then (-1 : Int) else o.a) = count (decide (0 ≤ o.a)) (if o.a < 0 then 0 else o.a)
        unfold count
        by_cases hn : o.a < 0
        · rw [if_pos hn, decide_eq_false (by omega)]
          simp only [Bool.false_eq_true, if_false]
          split <;> omega
        · rw [if_neg hn, decide_eq_true (by omega), if_neg (by omega)]; rfl
  by_cases k5 : kindM o.k = 5
  · rw [show d.doesM o = ((d.failM o.a).1, nought, (d.failM o.a).2) from by rw [DM.doesM, if_neg k0, if_neg k1, if_neg k2, if_neg k3, if_pos k5], show x.wantR o = ((x.failR o.a).1, nought, (x.failR o.a).2) from by rw [RA.wantR, if_neg k0, if_neg k1, if_neg k2, if_neg k3, if_pos k5]]
    unfold RA.failR DM.failM
    rw [h.dead]
    cases hd : d.dead with
    | true => exact ⟨rfl, h.more (by omega)⟩
    | false =>
      simp only [Bool.false_eq_true, if_false]
      refine ⟨trivial, ⟨h.good.pos, h.good.most, h.good.sec, h.good.pend, ⟨h.good.left.1, h.good.left.2.1, ?_, ?_⟩⟩, h.inv, h.safe, h.pend, rfl, h.left, ?_, h.ops, ⟨h.ops0.1, by have := h.ops0.2; show d.ops ≤ _; omega⟩, Nat.le_succ_of_le h.len⟩
      · show 0 ≤ if o.a < 0 then (0 : Int) else o.a
        split <;> omega
      · show (if o.a < 0 then (0 : Int) else o.a) < _
        split <;> omega
      · show (if o.a < -1 then (-1 : Int) else o.a) = count (decide (0 ≤ o.a)) (if o.a < 0 then 0 else o.a)
        unfold count
        by_cases hn : o.a < 0
        · rw [if_pos hn, decide_eq_false (by omega)]
          simp only [Bool.false_eq_true, if_false]
          split <;> omega
        · rw [if_neg hn, decide_eq_true (by omega), if_neg (by omega)]; rfl
  · rw [show d.doesM o = (d.crashM o.l, nought, 0) from by rw [DM.doesM, if_neg k0, if_neg k1, if_neg k2, if_neg k3, if_neg k5], show x.wantR o = (x.crashR o.l, nought, 0) from by rw [RA.wantR, if_neg k0, if_neg k1, if_neg k2, if_neg k3, if_neg k5]]
    exact ⟨rfl, (h.crash o.l (crash_good h.good o.l)).more (by omega)⟩
theorem agr_new (n : Nat) (h1 : 1 ≤ n) (h2 : n ≤ 2048) : Agr 0 (DM.new n) (RA.new n) := ⟨new_good_dm n h1 h2, rfl, rfl, rfl, rfl, rfl, rfl, rfl, ⟨Int.le_refl _, Int.le_refl _⟩, Nat.le_refl _⟩
end Go.Proofs.Ytbfpadilcfelbaa.Dsk
