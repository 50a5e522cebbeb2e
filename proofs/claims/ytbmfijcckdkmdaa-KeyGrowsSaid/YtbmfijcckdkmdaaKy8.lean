/-
  Keys: how a list is parted, as numbers (pure).
-/
import Derived.Test.YtbmfijcckdkmdaaKy7
namespace Go.Proofs.Ytbmfijcckdkmdaa.Ky
open Go.Proofs.Ytbmfijcckdkmdaa.Wi

def Kb.zero : Kb := ⟨0, 0, 0, 0⟩
/-- how much two are apart -/
def apA (x u : Kb) : Nat := widM (minI x.x0 u.x0) (maxI x.x1 u.x1) * widM (minI x.y0 u.y0) (maxI x.y1 u.y1) - widM x.x0 x.x1 * widM x.y0 x.y1 - widM u.x0 u.x1 * widM u.y0 u.y1
def apM (x u : Kb) : Nat := widM (minI x.x0 u.x0) (maxI x.x1 u.x1) + widM (minI x.y0 u.y0) (maxI x.y1 u.y1)
def better (fa fm ba bm : Nat) : Bool := decide (ba < fa) || (decide (fa = ba) && decide (bm < fm))
/-- the best pair so far -/
structure SS where
  l : Nat
  r : Nat
  a : Nat
  m : Nat
def stepS (ks : List Kb) (i : Nat) (s : SS) (k : Nat) : SS :=
  if better (apA (ks.getD i .zero) (ks.getD k .zero)) (apM (ks.getD i .zero) (ks.getD k .zero)) s.a s.m then ⟨i, k, apA (ks.getD i .zero) (ks.getD k .zero), apM (ks.getD i .zero) (ks.getD k .zero)⟩ else s
def rowS (ks : List Kb) (s : SS) (i m : Nat) : SS := (List.range' (i + 1) m).foldl (stepS ks i) s
def seedsS (ks : List Kb) (j : Nat) : SS := (List.range j).foldl (fun s i => rowS ks s i (ks.length - (i + 1))) ⟨0, 1, 0, 0⟩
theorem rowS_zero (ks : List Kb) (s : SS) (i : Nat) : rowS ks s i 0 = s := rfl
theorem rowS_succ (ks : List Kb) (s : SS) (i m : Nat) : rowS ks s i (m + 1) = stepS ks i (rowS ks s i m) (i + 1 + m) := by
  unfold rowS
  rw [List.range'_concat, List.foldl_append]
  simp
theorem seedsS_zero (ks : List Kb) : seedsS ks 0 = ⟨0, 1, 0, 0⟩ := rfl
theorem seedsS_succ (ks : List Kb) (i : Nat) : seedsS ks (i + 1) = rowS ks (seedsS ks i) i (ks.length - (i + 1)) := by
  unfold seedsS
  rw [List.range_succ, List.foldl_append]
  rfl
theorem cmp_one {a b : Nat} (h : cmpM a b = 1) : b < a := by
  unfold cmpM at h
  split at h
  · omega
  · split at h <;> omega
theorem cmp_less {a b : Nat} (h : cmpM a b = -1) : a < b := by
  unfold cmpM at h
  split at h
  · assumption
  · split at h <;> omega
theorem cmp_same {a b : Nat} (h : cmpM a b = 0) : a = b := by
  unfold cmpM at h
  split at h
  · omega
  · split at h <;> omega
theorem cmp_three (a b : Nat) : cmpM a b = 1 ∨ cmpM a b = -1 ∨ cmpM a b = 0 := by
  unfold cmpM
  repeat' split
  all_goals simp
end Go.Proofs.Ytbmfijcckdkmdaa.Ky
