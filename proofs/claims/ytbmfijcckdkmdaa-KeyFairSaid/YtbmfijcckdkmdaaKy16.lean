/-
  Keys: a list is parted fairly (pure).
-/
import Derived.Test.YtbmfijcckdkmdaaKy13
namespace Go.Proofs.Ytbmfijcckdkmdaa.Ky
open Go.Proofs.Ytbmfijcckdkmdaa.Wi

/-- what is true of both sides while a list is parted -/
structure Fair (n least i k j : Nat) (s : PS) : Prop where
  mem : ∀ x, x ∈ s.L ++ s.R → x = i ∨ x = k ∨ x < j
  nodup : (s.L ++ s.R).Nodup
  l1 : s.L.length + least ≤ n
  l2 : s.R.length + least ≤ n
theorem Fair.start {ks : List Kb} {n least i k : Nat} (h1 : 1 + least ≤ n) (hik : i ≠ k) : Fair n least i k 0 (partP ks least i k 0) := by
  rw [partP_zero]
  refine ⟨fun x hx => ?_, ?_, ?_, ?_⟩
  · simp at hx; rcases hx with h | h <;> simp [h]
  · simp [hik]
  · simp; omega
  · simp; omega
theorem Fair.step {ks : List Kb} {n least i k j : Nat} {s : PS} (hn : ks.length = n) (hi : i < n) (hk : k < n) (hj : j < n) (h2 : 2 * least < n + 1) (hik : i ≠ k) (ho : PSok i k j s) (h : Fair n least i k j s) : Fair n least i k (j + 1) (stepP ks least i k s j) := by
  obtain ⟨hm, hd, h3, h4⟩ := h
  unfold stepP
  by_cases he : j = i ∨ j = k
  · rw [if_pos he]
    exact ⟨fun x hx => by rcases hm x hx with h | h | h <;> omega, hd, h3, h4⟩
  rw [if_neg he, hn]
  have hni : ¬ j = i := fun e => he (.inl e)
  have hnk : ¬ j = k := fun e => he (.inr e)
  have hjn : j ∉ s.L ++ s.R := fun hx => by rcases hm j hx with h | h | h <;> omega
  have hcnt : s.L.length + s.R.length + 1 ≤ n := by
    have h1 := ho.cnt
    split at h1 <;> split at h1 <;> omega
  simp only [List.mem_append, not_or] at hjn
  split
  · rename_i hg
    refine ⟨fun x hx => ?_, ?_, ?_, h4⟩
    · simp only [List.mem_append, List.mem_singleton] at hx
      rcases hx with (hx | hx) | hx
      · rcases hm x (List.mem_append.2 (.inl hx)) with h | h | h <;> omega
      · omega
      · rcases hm x (List.mem_append.2 (.inr hx)) with h | h | h <;> omega
    · have hp : ((s.L ++ [j]) ++ s.R).Perm (j :: (s.L ++ s.R)) := by
        rw [List.append_assoc]
        exact List.perm_middle
      exact hp.nodup_iff.2 (List.nodup_cons.2 ⟨by simp [hjn], hd⟩)
    · simp only [List.length_append, List.length_singleton]
      unfold goesM at hg
      split at hg
      · omega
      · split at hg
        · cases hg
        · omega
  · rename_i hg
    refine ⟨fun x hx => ?_, ?_, h3, ?_⟩
    · simp only [List.mem_append, List.mem_singleton] at hx
      rcases hx with hx | hx | hx
      · rcases hm x (List.mem_append.2 (.inl hx)) with h | h | h <;> omega
      · rcases hm x (List.mem_append.2 (.inr hx)) with h | h | h <;> omega
      · omega
    · have hp : (s.L ++ (s.R ++ [j])).Perm (j :: (s.L ++ s.R)) := by
        rw [← List.append_assoc]
        exact List.perm_append_singleton j _
      exact hp.nodup_iff.2 (List.nodup_cons.2 ⟨by simp [hjn], hd⟩)
    · simp only [List.length_append, List.length_singleton]
      unfold goesM at hg
      split at hg
      · simp at hg
      · omega
theorem fair_all {ks : List Kb} {n least i k : Nat} (hK : KsOk ks) (hn : ks.length = n) (hi : i < n) (hk : k < n) (h1 : 1 + least ≤ n) (h2 : 2 * least < n + 1) (hik : i ≠ k) : ∀ j, j ≤ n → PSok i k j (partP ks least i k j) ∧ Fair n least i k j (partP ks least i k j)
  | 0, _ => by
    have m1 : ks.getD i .zero ∈ ks := by rw [List.getD_eq_getElem?_getD, List.getElem?_eq_getElem (by omega)]; exact List.getElem_mem _
    have m2 : ks.getD k .zero ∈ ks := by rw [List.getD_eq_getElem?_getD, List.getElem?_eq_getElem (by omega)]; exact List.getElem_mem _
    refine ⟨?_, Fair.start h1 hik⟩
    rw [partP_zero]
    exact ⟨by simp, hK.ok _ m1, hK.ok _ m2, hK.num _ m1, hK.num _ m2⟩
  | j + 1, hj => by
    obtain ⟨a, b⟩ := fair_all hK hn hi hk h1 h2 hik j (by omega)
    rw [partP_succ]
    exact ⟨a.step hK (by omega) hik, b.step hn hi hk (by omega) h2 hik a⟩
/-- what is parted, in the end -/
structure Parts (n least : Nat) (L R : List Nat) : Prop where
  sum : L.length + R.length = n
  l1 : least ≤ L.length
  l2 : least ≤ R.length
  lt : ∀ x, x ∈ L ++ R → x < n
  nodup : (L ++ R).Nodup
theorem parts_all {ks : List Kb} {n least i k : Nat} (hK : KsOk ks) (hn : ks.length = n) (hi : i < n) (hk : k < n) (h1 : 1 + least ≤ n) (h2 : 2 * least < n + 1) (hik : i ≠ k) : Parts n least (partP ks least i k n).L (partP ks least i k n).R := by
  obtain ⟨a, b⟩ := fair_all hK hn hi hk h1 h2 hik n (Nat.le_refl _)
  have hc := a.cnt
  rw [if_pos hi, if_pos hk] at hc
  have h3 := b.l1
  have h4 := b.l2
  exact ⟨by omega, by omega, by omega, fun x hx => by rcases b.mem x hx with h | h | h <;> omega, b.nodup⟩
theorem sortN_perm (l : List Nat) : (sortN l).Perm l := List.mergeSort_perm l _
theorem sortN_le (l : List Nat) : (sortN l).Pairwise (· ≤ ·) := by
  have h := List.pairwise_mergeSort (le := fun x y : Nat => decide (x ≤ y)) (by intro a b c; simp; omega) (by intro a b; simp; omega) l
  exact h.imp (fun h => by simpa using h)
theorem sorted_lt {l : List Nat} (h : l.Pairwise (· ≤ ·)) (hd : l.Nodup) : l.Pairwise (· < ·) := by
  have := h.and hd
  exact this.imp (fun ⟨h1, h2⟩ => by omega)
theorem Parts.sorted {n least : Nat} {L R : List Nat} (h : Parts n least L R) : Parts n least (sortN L) (sortN R) ∧ (sortN L).Pairwise (· < ·) ∧ (sortN R).Pairwise (· < ·) := by
  obtain ⟨h1, h2, h3, h4, h5⟩ := h
  have hp : (sortN L ++ sortN R).Perm (L ++ R) := (sortN_perm L).append (sortN_perm R)
  have hd := hp.nodup_iff.2 h5
  refine ⟨⟨by rw [sortN_len, sortN_len]; exact h1, by rw [sortN_len]; exact h2, by rw [sortN_len]; exact h3, fun x hx => h4 x (hp.mem_iff.1 hx), hd⟩, ?_, ?_⟩
  · exact sorted_lt (sortN_le L) (List.nodup_append.1 hd).1
  · exact sorted_lt (sortN_le R) (List.nodup_append.1 hd).2.1
end Go.Proofs.Ytbmfijcckdkmdaa.Ky
