/-
  How lists of structs open that came in, over any program; how bytes open.
-/
import Derived.Test.YtnojkoefdigcnaaLift
import Derived.Deep.Grids
import Derived.Laws.IdiomArrays
import Derived.Test.YtnojkoefdigcnaaDsk3
namespace Go.Proofs.Ytnojkoefdigcnaa.Lift
set_option maxRecDepth 100000
open Go.RowKit Go.Proofs.Ytnojkoefdigcnaa.Wd Go.ChangeShapes Go.WideShapes Go.Deep

section
variable {H : Type} {enc : TypeId × Value → H} {P : Program} {W : World}
theorem weights_mem_all {e : TypeId} : ∀ {ds : List (DataW H)} {d : DataW H}, d ∈ ds → ∀ n ∈ d.weights P e, n ∈ DataW.weightsAll P e ds
  | d0 :: ds, d, hd, n, hn => by
    simp only [DataW.weightsAll, List.mem_append]
    rcases List.mem_cons.1 hd with rfl | hd
    · exact .inl hn
    · exact .inr (weights_mem_all hd n hn)
theorem weights_all {e : TypeId} {ds : List (DataW H)} {d : DataW H} (hd : d ∈ ds) (h : (DataW.weightsAll P e ds).all (· ≤ reachBytes) = true) : (d.weights P e).all (· ≤ reachBytes) = true := by
  rw [List.all_eq_true] at h ⊢
  intro z hz
  exact h z (weights_mem_all hd z hz)
/-- bytes that came in -/
theorem open_by {t e : TypeId} (ht : P.underlying t = some (.slice e)) (he : P.underlying e = some (.int .u8)) (hce : P.cellsOf e = 1) (hb : P.bytesOf e = 1) {fuel : Nat} {cs : List Value} {X : DataW H × List MemPlace} (h : DataW.trod enc P W 0 (fun _ => true) true fuel t cs = some X) :
    ∃ A n c l, cs = [.slice A n c] ∧ l.length = n ∧ n ≤ c ∧ (A = none → c = 0) ∧ Bs W W.heap.size A l ∧ ((X.1.weights P t).all (· ≤ reachBytes) = true → c ≤ 140737488351232) := by
  rcases open_ints ht he hce h with ⟨hcs, _⟩ | ⟨x, n, c, zs, hcs, _, hl, hm, hz, hx, hcell, hwz⟩
  · exact ⟨none, 0, 0, [], hcs, rfl, Nat.le_refl _, fun _ => rfl, Bs.nil _ _ _, fun _ => Nat.zero_le _⟩
  · have hz' : zs.length = c := by simpa using hz
    refine ⟨some x, n, c, (zs.take n).map (fun z => UInt8.ofNat z.toNat), hcs, by simp; omega, hl, (fun hh => by cases hh), ?_, fun hw => ?_⟩
    · intro hp
      have hp' : 0 < n := by simp at hp; omega
      have hc0 := hcell 0 (by omega)
      obtain ⟨b, off, spot⟩ := x
      have hspot : spot = none := by simpa [Addr.add] using World.cell?_spot hc0
      subst hspot
      refine ⟨b, off, rfl, World.block_lt_of_cell? W _ (by simpa [Addr.add_lit] using hc0), fun i hi => ?_⟩
      simp at hi
      have h1 := hcell i (by omega)
      rw [Addr.add_lit] at h1
      rw [h1]
      have hi' : i < zs.length := by omega
      have hw := hwz (zs.getD i 0) (by simp [List.getD_eq_getElem?_getD, hi'])
      have hw' : 0 ≤ zs.getD i 0 ∧ zs.getD i 0 ≤ 255 := by simpa [Lit.wf, IntKind.min, IntKind.max, IntKind.signed, IntKind.bits] using hw
      have e2 : ((zs.take n).map (fun z => UInt8.ofNat z.toNat)).getD i 0 = UInt8.ofNat (zs.getD i 0).toNat := by
        simp [List.getD_eq_getElem?_getD, hi', hi]
      rw [e2]
      generalize zs.getD i 0 = z at hw' ⊢
      obtain ⟨m, rfl⟩ := Int.eq_ofNat_of_zero_le hw'.1
      congr 2
      simp
      omega
    · have hd := congrArg Prod.fst hx
      simp only at hd
      rw [hd] at hw
      have hh := List.all_eq_true.1 hw
      have h2 := hh (c * 1) (by
        simp only [DataW.weights, ht, hb, List.mem_cons]
        left
        simp [lits]
        omega)
      simp [reachBytes] at h2
      omega
/-- elements of z cells at an address -/
def Many {X : Type} (cellsX : X → List Value) (z : Nat) (w : World) (B : Nat) (A : Option Addr) (xs : List X) : Prop :=
  0 < xs.length → ∃ b o, A = some ⟨b, o, none⟩ ∧ b < B ∧ ∀ i x, xs[i]? = some x → w.rangeAt b (o + i * z) (cellsX x)
theorem Many.below {X : Type} {cellsX : X → List Value} {z : Nat} {w w' : World} {B : Nat} {A : Option Addr} {xs : List X} (h : Many cellsX z w B A xs) (hb : Below B w w') : Many cellsX z w' B A xs := fun hp => by
  obtain ⟨b, o, e, hlt, hc⟩ := h hp
  exact ⟨b, o, e, hlt, fun i x hx j v hj => (hb.cell (p := ⟨b, o + i * z + j, none⟩) hlt).trans (hc i x hx j v hj)⟩
theorem Many.more {X : Type} {cellsX : X → List Value} {z : Nat} {w : World} {B B' : Nat} {A : Option Addr} {xs : List X} (h : Many cellsX z w B A xs) (hb : B ≤ B') : Many cellsX z w B' A xs := fun hp => by
  obtain ⟨b, o, e, hlt, hc⟩ := h hp
  exact ⟨b, o, e, by omega, hc⟩
/-- a list of structs that came in -/
theorem open_many {X : Type} (cellsX : X → List Value) (OkX : X → Prop) {t e : TypeId} (z : Nat) (hz : 0 < z) (hlx : ∀ x, (cellsX x).length = z) (ht : P.underlying t = some (.slice e)) (hce : P.cellsOf e = z)
    (each : ∀ {fuel : Nat} {cs : List Value} {x : DataW H × List MemPlace}, DataW.trod enc P W 0 (fun _ => true) true fuel e cs = some x → (x.1.weights P e).all (· ≤ reachBytes) = true → ∃ o : X, cs = cellsX o ∧ OkX o)
    {v : Value} {d : DataW H} {ps : List MemPlace} {base : Nat} (hval : Value.okWide P W .any base t v) (h : DataW.Trod enc P W 0 (fun _ => true) true t v d ps) (hw : (d.weights P t).all (· ≤ reachBytes) = true) :
    ∃ A n c os, v = .slice A n c ∧ os.length = n ∧ n ≤ c ∧ (A = none → c = 0) ∧ c ≤ maxLen ∧ Many cellsX z W W.heap.size A os ∧ ∀ o ∈ os, OkX o := by
  obtain ⟨a0, len0, cap0, rfl⟩ := okWide_slice ht hval
  obtain ⟨fuel, hf⟩ := h
  have hf' : DataW.trod enc P W 0 (fun _ => true) true fuel t [.slice a0 len0 cap0] = some (d, ps) := hf
  rcases open_slice ht hf' with ⟨h0, _⟩ | ⟨a, n, c, m, q, D, Pl, hcs, _, hl, hm, hmm, hx, hcell⟩
  · simp at h0
    obtain ⟨rfl, rfl, rfl⟩ := h0
    exact ⟨none, 0, 0, [], rfl, rfl, Nat.le_refl _, fun _ => rfl, Nat.zero_le _, fun hp => absurd hp (by simp), fun o ho => by cases ho⟩
  · simp at hcs
    obtain ⟨rfl, rfl, rfl⟩ := hcs
    simp only [if_true] at hmm
    subst hmm
    have hd : d = .slice ((List.range len0).map D) ((List.range (m - len0)).map fun j => D (len0 + j)) := congrArg Prod.fst hx
    by_cases hzl : len0 = 0
    · subst hzl
      exact ⟨some a, 0, m, [], rfl, rfl, hl, (fun hh => by cases hh), hm, fun hp => absurd hp (by simp), fun o ho => by cases ho⟩
    have hs : a.spot = none := by
      obtain ⟨cs', h1, h2⟩ := hcell 0 (by omega)
      rw [hce] at h1
      obtain ⟨_, hlen, hc⟩ := World.cells?_some h1
      have h00 := hc 0 (by omega)
      rw [add_add] at h00
      rw [List.getElem?_eq_getElem (by omega)] at h00
      simpa [Addr.add] using World.cell?_spot h00
    obtain ⟨b, off, spot⟩ := a
    have hs' : spot = none := hs
    subst hs'
    have each' : ∀ i, i < len0 → ∃ o : X, W.rangeAt b (off + i * z) (cellsX o) ∧ OkX o := fun i hi => by
      obtain ⟨cs', h1, h2⟩ := hcell i (by omega)
      rw [hce] at h1
      obtain ⟨_, hlen, hc⟩ := World.cells?_some h1
      obtain ⟨o, rfl, hok⟩ := each h2 (by
        rw [List.all_eq_true] at hw ⊢
        intro y hy
        refine hw y ?_
        rw [hd]
        simp only [DataW.weights, ht, List.mem_cons, List.mem_append]
        exact .inr (.inl (weights_mem_all (List.mem_map.2 ⟨i, List.mem_range.2 hi, rfl⟩) y hy)))
      refine ⟨o, fun j v hj => ?_, hok⟩
      have h3 := hc j (by rw [← hlen]; exact (List.getElem?_eq_some_iff.1 hj).1)
      rw [add_add, Addr.add_lit] at h3
      rw [Nat.add_assoc, h3, hj]
    obtain ⟨o0, _⟩ := each' 0 (by omega)
    have : Inhabited X := ⟨o0⟩
    obtain ⟨f, hf⟩ := choose_lt each'
    have hall : ∀ o ∈ (List.range len0).map f, OkX o := fun o ho => by
      obtain ⟨i, hi, rfl⟩ := List.mem_map.1 ho
      exact (hf i (List.mem_range.1 hi)).2
    refine ⟨_, len0, m, (List.range len0).map f, rfl, by simp, hl, (fun hh => by cases hh), hm, fun hp => ?_, hall⟩
    refine ⟨b, off, rfl, ?_, fun i o hi => ?_⟩
    · have h1 : 0 < (cellsX (f 0)).length := by rw [hlx]; exact hz
      have := (hf 0 (by omega)).1 0 _ (List.getElem?_eq_getElem h1)
      exact World.block_lt_of_cell? W _ this
    · have hi' : i < len0 := by have := (List.getElem?_eq_some_iff.1 hi).1; simpa using this
      have : o = f i := by simpa [hi'] using hi.symm
      rw [this]; exact (hf i hi').1
end
end Go.Proofs.Ytnojkoefdigcnaa.Lift
