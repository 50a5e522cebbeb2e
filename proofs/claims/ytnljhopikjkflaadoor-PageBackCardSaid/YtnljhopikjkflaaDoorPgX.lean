/-
  Bytes that are written over; spoil.
-/
import Derived.Test.YtnljhopikjkflaaDoorPgL
namespace Go.Proofs.YtnljhopikjkflaaDoor.Pg
set_option maxRecDepth 100000
open Go.RowKit Go.Proofs.YtnljhopikjkflaaDoor.Wd Go.Proofs.YtnljhopikjkflaaDoor.Oct Go.Proofs.YtnljhopikjkflaaDoor.Dsk Go.Proofs.YtnljhopikjkflaaDoor.Rec Go.Proofs.YtnljhopikjkflaaDoor.Sum Go.Proofs.YtnljhopikjkflaaDoor.Sm

theorem own_set {w : World} {base : Nat} {v : Value} {l : List UInt8} (h : Own w base v l) (g i y : Nat) (hy : y < 256) : ∃ l', l'.length = l.length ∧ Own (w.setCell ⟨g, i, none⟩ (.int .u8 (y : Int))) base v l' := by
  have hgr := grown_store w g i (.int .u8 (y : Int))
  by_cases hne : v.ownBlock = some g
  · rcases h.2 with ⟨rfl, h0⟩ | ⟨g', cap, cur, rfl, hb, hg, hnc, hcm, hs, ht⟩
    · cases hne
    · have e : g' = g := Option.some.inj hne
      subst e
      have hr : Row w g' 5 cur.toList := hg
      have hr2 := hr.store i (.int .u8 (y : Int))
      refine ⟨l.set i (UInt8.ofNat y), by simp, ?_⟩
      unfold Own
      rw [List.length_set]
      refine ⟨by simp [bv_length], .inr ⟨g', cap, (cur.toList.set i (.int .u8 (y : Int))).toArray, rfl, hb, hr2, hnc, hcm, by simpa using hs, ?_⟩⟩
      have e1 : (Value.int .u8 (y : Int)) = .int .u8 (((UInt8.ofNat y).toNat : Nat) : Int) := by
        have : (UInt8.ofNat y).toNat = y := by simp; omega
        rw [this]
      show List.take (l.length * 1) (cur.toList.set i (.int .u8 (y : Int))) = bv (l.set i (UInt8.ofNat y))
      rw [List.take_set, ht, e1]
      simp [bv, List.map_set]
  · exact ⟨l, rfl, h.kept hgr (by cases hv : v.ownBlock with | none => exact .inl rfl | some k => exact .inr (by rw [hv] at hne; exact hne))⟩
theorem own_cell {w : World} {base : Nat} {A : Option Addr} {n c : Nat} {l : List UInt8} (h : Own w base (.slice A n c) l) (i : Nat) (hi : i < n) : ∃ (g : Nat) (u : UInt8), A = some ⟨g, 0, none⟩ ∧ base ≤ g ∧ w.cell? ⟨g, i, none⟩ = some (.int .u8 (u.toNat : Int)) ∧ w.frozen? ⟨g, i, none⟩ = false := by
  rcases h.2 with ⟨h1, h0⟩ | ⟨g, cap, cur, h1, hb, hg, hnc, hcm, hs, ht⟩
  · have e := h1
    simp only [Value.slice.injEq] at e
    omega
  · simp only [Value.slice.injEq] at h1
    obtain ⟨rfl, hn, rfl⟩ := h1
    have hr : Row w g 5 cur.toList := hg
    refine ⟨g, l.getD i 0, rfl, hb, ?_, hr.frozen i⟩
    rw [hr.cell]
    have h2 : (bv l)[i]? = some (.int .u8 ((l.getD i 0).toNat : Int)) := by simp [bv, show i < l.length by omega]
    rw [← ht, List.getElem?_take, if_pos (by omega)] at h2
    exact h2
theorem xor_nat (u : UInt8) : ∃ y : Nat, y < 256 ∧ bits .xor .u8 (u.toNat : Int) 238 = (y : Int) := by
  have h := u8_xor_v u 238
  rw [show (((238 : UInt8).toNat : Nat) : Int) = 238 from rfl] at h
  exact ⟨(u ^^^ 238).toNat, (u ^^^ 238).toNat_lt, h⟩
/-- nothing is written outside of the blocks from lo to below hi -/
structure Out (lo hi : Nat) (w w' : World) : Prop where
  os : w'.os = w.os
  tape : w'.tape = w.tape
  output : w'.output = w.output
  size : w.heap.size ≤ w'.heap.size
  block : ∀ k, k < w.heap.size → (k < lo ∨ hi ≤ k) → w'.heap[k]? = w.heap[k]?
theorem Out.refl (lo hi : Nat) (w : World) : Out lo hi w w := ⟨rfl, rfl, rfl, Nat.le_refl _, fun _ _ _ => rfl⟩
theorem Out.trans {lo hi : Nat} {a b c : World} (h : Out lo hi a b) (k : Out lo hi b c) : Out lo hi a c :=
  ⟨k.os.trans h.os, k.tape.trans h.tape, k.output.trans h.output, Nat.le_trans h.size k.size, fun j hj ho => (k.block j (Nat.lt_of_lt_of_le hj h.size) ho).trans (h.block j hj ho)⟩
theorem Out.of {lo hi : Nat} {w w' : World} (h : Below w.heap.size w w') : Out lo hi w w' := ⟨h.os, h.tape, h.output, h.size, fun k hk _ => h.block k hk⟩
theorem Out.below {lo hi : Nat} {w w' : World} (h : Out lo hi w w') (hl : lo ≤ w.heap.size) : Below lo w w' := ⟨h.os, h.tape, h.output, h.size, fun k hk => h.block k (Nat.lt_of_lt_of_le hk hl) (.inl hk)⟩
theorem Out.set {lo hi : Nat} (w : World) {g : Nat} (i : Nat) (v : Value) (h1 : lo ≤ g) (h2 : g < hi) : Out lo hi w (w.setCell ⟨g, i, none⟩ v) :=
  have hg := grown_store w g i v
  ⟨hg.os, hg.tape, hg.output, hg.size, fun k hk ho => hg.block k hk (fun e => by have := Option.some.inj e; omega)⟩
theorem Own.out {lo hi base : Nat} {w w' : World} {v : Value} {l : List UInt8} (h : Own w base v l) (ho : Out lo hi w w') (hb : hi ≤ base) : Own w' base v l := by
  refine ⟨h.1, ?_⟩
  rcases h.2 with hn | ⟨g, cap, cur, rfl, hb2, hg, rest⟩
  · exact .inl hn
  · exact .inr ⟨g, cap, cur, rfl, hb2, (ho.block g (Array.getElem?_eq_some_iff.1 hg).1 (.inr (by omega))).trans hg, rest⟩
theorem PO.out {lo hi base : Nat} {w w' : World} {f : Nat → List UInt8} {s : PS} (h : PO w base f s) (ho : Out lo hi w w') (hb : hi ≤ base) : PO w' base f s := fun j hj => (h j hj).out ho hb
theorem Row.out {lo hi : Nat} {w w' : World} {g : Nat} {t : TypeId} {cs : List Value} (h : Row w g t cs) (ho : Out lo hi w w') (hg : g < lo ∨ hi ≤ g) : Row w' g t cs := (ho.block g h.lt hg).trans h
/-- the slots are some bytes of one's own, of blocks from base to below hi -/
def OS (w : World) (base hi : Nat) (s : PS) : Prop := ∀ j, j < 4 → ∃ l', l'.length = s.n j ∧ Own w base (.slice (s.A j) (s.n j) (s.c j)) l' ∧ ∀ k, (Value.slice (s.A j) (s.n j) (s.c j)).ownBlock = some k → k < hi
theorem OS.out {w w' : World} {base hi lo h2 : Nat} {s : PS} (h : OS w base hi s) (ho : Out lo h2 w w') (hd : hi ≤ lo ∨ h2 ≤ base) : OS w' base hi s := fun j hj => by
  obtain ⟨l', hl, hw, hk⟩ := h j hj
  refine ⟨l', hl, ⟨hw.1, ?_⟩, hk⟩
  rcases hw.2 with hn | ⟨g, cap, cur, e, hb2, hg, rest⟩
  · exact .inl hn
  · have hgh := hk g (by rw [e]; rfl)
    exact .inr ⟨g, cap, cur, e, hb2, (ho.block g (Array.getElem?_eq_some_iff.1 hg).1 (by omega)).trans hg, rest⟩
theorem OS.set {w : World} {base hi : Nat} {s : PS} (h : OS w base hi s) (g i y : Nat) (hy : y < 256) : OS (w.setCell ⟨g, i, none⟩ (.int .u8 (y : Int))) base hi s := fun j hj => by
  obtain ⟨l', hl, ho, hk⟩ := h j hj
  obtain ⟨l2, h2, ho2⟩ := own_set ho g i y hy
  exact ⟨l2, by rw [h2, hl], ho2, hk⟩
theorem PO.os {w : World} {base : Nat} {f : Nat → List UInt8} {s : PS} (h : PO w base f s) : OS w base w.heap.size s := fun j hj => ⟨f j, h.at_.lens j hj, h j hj, fun k hk => (World.ownsRow.lt (h j hj) k hk).2⟩

end Go.Proofs.YtnljhopikjkflaaDoor.Pg
