/-
  Many disks at once: which, by their place in a list.
-/
import Derived.Test.YtbfpadilcfelbaaDevD1
import Derived.Test.YtbfpadilcfelbaaDev2D
namespace Go.Proofs.Ytbfpadilcfelbaa.Dsk
open Go.RowKit Go.Proofs.Ytbfpadilcfelbaa.Wd

/-- disks side by side, all of them at B or behind it, none of them in X -/
def Many (w : World) (B : Nat) (X : Nat → Prop) (L : List (Nat × DM)) : Prop :=
  ∃ Fs : Nat → Nat → Prop, (∀ i p, L[i]? = some p → Disk w (Fs i) p.1 p.2) ∧ (∀ i j k, i < L.length → j < L.length → i ≠ j → Fs i k → ¬ Fs j k) ∧ (∀ i k, i < L.length → Fs i k → B ≤ k ∧ ¬ X k)
section
variable {w w' : World} {B : Nat} {X : Nat → Prop} {L : List (Nat × DM)}
theorem Many.nil : Many w B X [] := ⟨fun _ _ => False, fun i p h => by simp at h, fun i j k hi => by simp at hi, fun i k hi => by simp at hi⟩
theorem Many.off (h : Many w B X L) (ho : Off X w w') : Many w' B X L := by
  obtain ⟨Fs, h1, h2, h3⟩ := h
  refine ⟨Fs, fun i p hp => (h1 i p hp).off (fun k hk hx => (h3 i k (List.getElem?_eq_some_iff.1 hp).1 hk).2 hx) ho, h2, h3⟩
theorem Many.below (h : Many w B X L) (hb : Below w.heap.size w w') : Many w' B X L := by
  obtain ⟨Fs, h1, h2, h3⟩ := h
  exact ⟨Fs, fun i p hp => (h1 i p hp).below hb, h2, h3⟩
/-- fewer blocks that are kept apart -/
theorem Many.less {X' : Nat → Prop} (h : Many w B X L) (hx : ∀ k, X' k → X k) : Many w B X' L := by
  obtain ⟨Fs, h1, h2, h3⟩ := h
  exact ⟨Fs, h1, h2, fun i k hi hk => ⟨(h3 i k hi hk).1, fun hx' => (h3 i k hi hk).2 (hx k hx')⟩⟩
/-- blocks made behind are apart -/
theorem Many.add {X' : Nat → Prop} (h : Many w B X L) (hb : Below w.heap.size w w') (hx : ∀ k, X' k → X k ∨ w.heap.size ≤ k) : Many w' B X' L := by
  obtain ⟨Fs, h1, h2, h3⟩ := h
  refine ⟨Fs, fun i p hp => (h1 i p hp).below hb, h2, fun i k hi hk => ⟨(h3 i k hi hk).1, fun hx' => ?_⟩⟩
  rcases hx k hx' with h4 | h4
  · exact (h3 i k hi hk).2 h4
  · have := (h1 i _ (List.getElem?_eq_getElem hi)).2 k hk
    omega
/-- one disk more -/
theorem Many.more {F : Nat → Prop} {g : Nat} {d : DM} (h : Many w B X L) (hb : Below w.heap.size w w') (hB : B ≤ w.heap.size) (hX : ∀ k, X k → k < w.heap.size) (hd : Disk w' F g d) (hF : ∀ k, F k → w.heap.size ≤ k) : Many w' B X (L ++ [(g, d)]) := by
  obtain ⟨Fs, h1, h2, h3⟩ := h
  refine ⟨fun i => if i < L.length then Fs i else F, fun i p hp => ?_, fun i j k hi hj hne hk => ?_, fun i k hi hk => ?_⟩
  · dsimp only
    by_cases hl : i < L.length
    · rw [List.getElem?_append_left hl] at hp
      rw [if_pos hl]
      exact (h1 i p hp).below hb
    · have hi : i = L.length := by
        have := (List.getElem?_eq_some_iff.1 hp).1
        simp at this; omega
      subst hi
      simp at hp
      subst hp
      rw [if_neg hl]
      exact hd
  · simp only [List.length_append, List.length_cons, List.length_nil] at hi hj
    dsimp only at hk ⊢
    by_cases hli : i < L.length
    · rw [if_pos hli] at hk
      have hkw := (h1 i _ (List.getElem?_eq_getElem hli)).2 k hk
      by_cases hlj : j < L.length
      · rw [if_pos hlj]; exact h2 i j k hli hlj hne hk
      · rw [if_neg hlj]; intro hf; have := hF k hf; omega
    · rw [if_neg hli] at hk
      have hlj : j < L.length := by omega
      rw [if_pos hlj]
      intro hf
      have hkw := (h1 j _ (List.getElem?_eq_getElem hlj)).2 k hf
      have := hF k hk
      omega
  · dsimp only at hk
    by_cases hli : i < L.length
    · rw [if_pos hli] at hk; exact h3 i k hli hk
    · rw [if_neg hli] at hk
      have := hF k hk
      exact ⟨by omega, fun hx => by have := hX k hx; omega⟩
/-- one of them goes on -/
theorem Many.step {i g : Nat} {d : DM} {f : FuncId} {args : Array Value} {R : Ending → World → DM → Prop} (h : Many w B X L) (hi : L[i]? = some (g, d)) (hB : B ≤ w.heap.size) (hX : ∀ k, X k → k < w.heap.size)
    (hc : ∀ F, Disk w F g d → (∀ k, X k → ¬ F k) → Calls Try.prog f args w fun e w' => ∃ d', R e w' d' ∧ Goes F w g d' w') :
    Calls Try.prog f args w fun e w' => ∃ d', R e w' d' ∧ Many w' B X (L.set i (g, d')) ∧ Below B w w' ∧ ∀ k, X k → w'.heap[k]? = w.heap[k]? := by
  obtain ⟨Fs, h1, h2, h3⟩ := h
  have hlt := (List.getElem?_eq_some_iff.1 hi).1
  refine (hc (Fs i) (h1 i _ hi) (fun k hk hf => (h3 i k hlt hf).2 hk)).mono fun e w' ⟨d', hR, F', hd, hx, ho⟩ => ⟨d', hR, ⟨fun j => if j = i then F' else Fs j, fun j p hp => ?_, fun j1 j2 k hj1 hj2 hne hk => ?_, fun j k hj hk => ?_⟩, ho.below (fun k hk => (h3 i k hlt hk).1) hB, fun k hk => ho.block k (hX k hk) (fun hf => (h3 i k hlt hf).2 hk)⟩
  · dsimp only
    by_cases hj : j = i
    · subst hj
      rw [List.getElem?_set_self hlt] at hp
      obtain rfl := Option.some.inj hp
      rw [if_pos rfl]
      exact hd
    · rw [List.getElem?_set_ne (fun e => hj e.symm)] at hp
      rw [if_neg hj]
      exact (h1 j p hp).off (fun k hk hf => h2 j i k (List.getElem?_eq_some_iff.1 hp).1 hlt hj hk hf) ho
  · rw [List.length_set] at hj1 hj2
    dsimp only at hk ⊢
    by_cases e1 : j1 = i
    · have e2 : ¬ j2 = i := fun e => hne (e1.trans e.symm)
      rw [if_pos e1] at hk
      rw [if_neg e2]
      intro hf
      rcases hx k hk with h4 | h4
      · exact h2 j2 i k hj2 hlt e2 hf h4
      · have := (h1 j2 _ (List.getElem?_eq_getElem hj2)).2 k hf
        omega
    · rw [if_neg e1] at hk
      by_cases e2 : j2 = i
      · rw [if_pos e2]
        intro hf
        rcases hx k hf with h4 | h4
        · exact h2 j1 i k hj1 hlt e1 hk h4
        · have := (h1 j1 _ (List.getElem?_eq_getElem hj1)).2 k hk
          omega
      · rw [if_neg e2]; exact h2 j1 j2 k hj1 hj2 hne hk
  · rw [List.length_set] at hj
    try dsimp only at hk
    by_cases e1 : j = i
    · rw [if_pos e1] at hk
      rcases hx k hk with h4 | h4
      · exact h3 i k hlt h4
      · exact ⟨by omega, fun hxx => by have := hX k hxx; omega⟩
    · rw [if_neg e1] at hk; exact h3 j k hj hk
/-- a call that only looks -/
theorem Many.look {i g : Nat} {d : DM} {f : FuncId} {args : Array Value} {R : Ending → World → Prop} (h : Many w B X L) (hi : L[i]? = some (g, d))
    (hc : ∀ F, Disk w F g d → Calls Try.prog f args w R) : Calls Try.prog f args w R := by
  obtain ⟨Fs, h1, _, _⟩ := h
  exact hc _ (h1 i _ hi)
end
end Go.Proofs.Ytbfpadilcfelbaa.Dsk
