/-
  A crash, sector by sector: what lives is what was ahead, or what a kept write said.
-/
import Derived.Test.YtbfpadilcfelbaaDevA1
namespace Go.Proofs.Ytbfpadilcfelbaa.Dsk
open Go.RowKit Go.Proofs.Ytbfpadilcfelbaa.Wd

/-- only write k is kept -/
def oneM (k : Nat) : List Bool := List.replicate k false ++ [true]
theorem oneM_len (k : Nat) : (oneM k).length = k + 1 := by simp [oneM]
theorem oneM_get (k j : Nat) : (oneM k).getD j false = decide (j = k) := by
  unfold oneM
  rw [List.getD_eq_getElem?_getD]
  by_cases h : j < k
  · rw [List.getElem?_append_left (by simpa using h), List.getElem?_replicate, if_pos h]
    simp; omega
  · rw [List.getElem?_append_right (by simp; omega)]
    by_cases h2 : j = k
    · subst h2; simp
    · rw [List.getElem?_eq_none (by simp; omega)]
      simp [h2]
theorem backM_len (s : List (List UInt8)) (l : List (Int × List UInt8 × List UInt8)) : (backM s l).length = s.length := by
  induction l with
  | nil => rfl
  | cons p ps ih => simp [backM, ih]
/-- none is kept up to k -/
theorem liveF_none (s : List (List UInt8)) (l : List (Int × List UInt8 × List UInt8)) (keep : List Bool) : ∀ k, (∀ j, j < k → keep.getD j false = false) → liveF s l keep k = s
  | 0, _ => rfl
  | k + 1, h => by
    rw [liveF_succ, h k (by omega), liveF_none s l keep k (fun j hj => h j (by omega))]
    rfl
/-- one write lives -/
theorem liveF_one (s : List (List UInt8)) (l : List (Int × List UInt8 × List UInt8)) (k : Nat) : ∀ m, k < m → liveF s l (oneM k) m = s.set (l.getD k noWrite).1.toNat (l.getD k noWrite).2.2
  | 0, h => by omega
  | m + 1, h => by
    rw [liveF_succ, oneM_get]
    by_cases e : m = k
    · subst e
      rw [liveF_none s l (oneM m) m (fun j hj => by rw [oneM_get]; simp; omega)]
      simp
    · rw [liveF_one s l k m (by omega)]
      simp [e]
/-- what lives in a sector -/
theorem liveF_get (s : List (List UInt8)) (l : List (Int × List UInt8 × List UInt8)) (keep : List Bool) (i : Nat) (hi : i < s.length) : ∀ k, k ≤ l.length →
    (liveF s l keep k).getD i [] = s.getD i [] ∨ ∃ j, j < k ∧ (l.getD j noWrite).1.toNat = i ∧ (liveF s l keep k).getD i [] = (l.getD j noWrite).2.2
  | 0, _ => .inl rfl
  | k + 1, hk => by
    rw [liveF_succ]
    have ih := liveF_get s l keep i hi k (by omega)
    by_cases hkp : keep.getD k false = true
    · rw [if_pos hkp]
      by_cases e : (l.getD k noWrite).1.toNat = i
      · refine .inr ⟨k, by omega, e, ?_⟩
        rw [e, List.getD_eq_getElem?_getD, List.getElem?_set_self (by rw [liveF_len]; exact hi)]
        rfl
      · have e2 : ((liveF s l keep k).set (l.getD k noWrite).1.toNat (l.getD k noWrite).2.2).getD i [] = (liveF s l keep k).getD i [] := by
          simp only [List.getD_eq_getElem?_getD] at e ⊢; rw [List.getElem?_set_ne e]
        rw [e2]
        rcases ih with h | ⟨j, hj, h1, h2⟩
        · exact .inl h
        · exact .inr ⟨j, by omega, h1, h2⟩
    · rw [if_neg hkp]
      rcases ih with h | ⟨j, hj, h1, h2⟩
      · exact .inl h
      · exact .inr ⟨j, by omega, h1, h2⟩
theorem set_get (s : List (List UInt8)) (i : Nat) (b : List UInt8) (hi : i < s.length) : (s.set i b).getD i [] = b := by
  rw [List.getD_eq_getElem?_getD, List.getElem?_set_self hi]; rfl
/-- what lives on is what it held at some time since the last sync -/
theorem crash_some {d : DM} (hg : Good d) (keep : List Bool) (i : Nat) (hi : i < d.sec.length) :
    (d.crashM keep).sec.getD i [] = (d.crashM []).sec.getD i [] ∨ ∃ j, j < d.pend.length ∧ (d.pend.getD j noWrite).1 = (i : Int) ∧ (d.crashM keep).sec.getD i [] = (d.crashM (oneM j)).sec.getD i [] := by
  have hn : (d.crashM []).sec = backM d.sec d.pend := liveF_none _ _ [] _ (fun j _ => rfl)
  have hb := backM_len d.sec d.pend
  rcases liveF_get (backM d.sec d.pend) d.pend keep i (by omega) d.pend.length (Nat.le_refl _) with h | ⟨j, hj, h1, h2⟩
  · exact .inl (by rw [hn]; exact h)
  · refine .inr ⟨j, hj, ?_, ?_⟩
    · have := hg.pend (d.pend.getD j noWrite) (by rw [List.getD_eq_getElem?_getD, List.getElem?_eq_getElem hj]; exact List.getElem_mem hj)
      omega
    · have h3 : (d.crashM (oneM j)).sec = (backM d.sec d.pend).set (d.pend.getD j noWrite).1.toNat (d.pend.getD j noWrite).2.2 := liveF_one _ _ j _ hj
      rw [h3, h1, set_get _ _ _ (by omega)]
      exact h2
/-- is sector i of what lives on fine, by the first k writes? -/
def fineM (d : DM) (keep : List Bool) (i k : Nat) : Bool :=
  decide ((d.crashM keep).sec.getD i [] = (d.crashM []).sec.getD i []) || (List.range k).any fun j => decide ((d.pend.getD j noWrite).1 = (i : Int)) && decide ((d.crashM keep).sec.getD i [] = (d.crashM (oneM j)).sec.getD i [])
theorem fineM_succ (d : DM) (keep : List Bool) (i k : Nat) : fineM d keep i (k + 1) = (fineM d keep i k || (decide ((d.pend.getD k noWrite).1 = (i : Int)) && decide ((d.crashM keep).sec.getD i [] = (d.crashM (oneM k)).sec.getD i []))) := by
  simp [fineM, List.range_succ, Bool.or_assoc]
theorem fineM_zero (d : DM) (keep : List Bool) (i : Nat) : fineM d keep i 0 = decide ((d.crashM keep).sec.getD i [] = (d.crashM []).sec.getD i []) := by simp [fineM]
theorem fineM_all {d : DM} (hg : Good d) (keep : List Bool) (i : Nat) (hi : i < d.sec.length) : fineM d keep i d.pend.length = true := by
  rcases crash_some hg keep i hi with h | ⟨j, hj, h1, h2⟩
  · simp only [fineM, h, decide_true, Bool.true_or]
  · unfold fineM
    rw [Bool.or_eq_true, List.any_eq_true]
    exact .inr ⟨j, by simpa using hj, by rw [Bool.and_eq_true]; exact ⟨decide_eq_true h1, decide_eq_true h2⟩⟩
theorem crash_calm (d : DM) (keep : List Bool) : Calm (d.crashM keep) ∧ (d.crashM keep).pend = [] ∧ (d.crashM keep).dead = false ∧ (d.crashM keep).sec.length = d.sec.length :=
  ⟨⟨rfl, rfl, rfl⟩, rfl, rfl, by show (liveM _ _ _).length = _; rw [liveM, liveF_len, backM_len]⟩
theorem Good.as {d d' : DM} (h : Good d) (h1 : d'.sec = d.sec) (h2 : d'.pend = d.pend) (h3 : d'.pl = d.pl) (h4 : d'.fl = d.fl) : Good d' :=
  ⟨by rw [h1]; exact h.pos, by rw [h1]; exact h.most, by rw [h1]; exact h.sec, by rw [h1, h2]; exact h.pend, by rw [h3, h4]; exact h.left⟩
theorem calm_good {d : DM} (hc : Calm d) (hg : Good d) (o : OM) (hk : kindM o.k < 3) : Good (d.doesM o).1 := by
  by_cases k0 : kindM o.k = 0
  · rw [does_0 d o k0]
    unfold DM.readM
    rw [pre_calm hc]
    by_cases hr : o.a < 0 ∨ (d.sec.length : Int) ≤ o.a
    · rw [if_pos hr]; exact hg
    · rw [if_neg hr]; exact hg.as rfl rfl rfl rfl
  by_cases k1 : kindM o.k = 1
  · rw [does_1 d o k1, calm_write hc]
    by_cases hr : o.a < 0 ∨ (d.sec.length : Int) ≤ o.a
    · rw [if_pos hr]; exact hg
    · rw [if_neg hr]
      exact (hg.put (by omega) (blockM_len o.x)).as rfl rfl rfl rfl
  · have k2 : kindM o.k = 2 := by rcases kindM_in o.k with h0 | h0 | h0 | h0 | h0 | h0 <;> omega
    rw [does_2 d o k2, calm_sync hc hg.pos]
    exact ⟨hg.pos, hg.most, hg.sec, (fun p hp => by cases hp), hg.left⟩
/-- worn disks: what was synced and written, done again, is what stands -/
theorem worn_fold2 : ∀ (os : List OM) (d : DM), Calm d → Good d → Inv d → Good (os.foldl (fun d o => if kindM o.k < 3 then (d.doesM o).1 else d) d) ∧ Inv (os.foldl (fun d o => if kindM o.k < 3 then (d.doesM o).1 else d) d)
  | [], d, _, hg, h => ⟨hg, h⟩
  | o :: os, d, hc, hg, h => by
    simp only [List.foldl_cons]
    by_cases hk : kindM o.k < 3
    · rw [if_pos hk]
      exact worn_fold2 os _ (calm_does hc hg.pos o hk).1 (calm_good hc hg o hk) (does_inv hg h o (by omega))
    · rw [if_neg hk]
      exact worn_fold2 os _ hc hg h
theorem worn_inv (os : List OM) : Good (wornM os) ∧ Inv (wornM os) := worn_fold2 (os.take 120) (DM.new 6) (calm_new 6) (new_good_dm 6 (by omega) (by omega)) rfl
theorem Inv.as {d d' : DM} (h : Inv d) (h1 : d'.sec = d.sec) (h2 : d'.pend = d.pend) : Inv d' := by
  unfold Inv; rw [h1, h2]; exact h
end Go.Proofs.Ytbfpadilcfelbaa.Dsk
