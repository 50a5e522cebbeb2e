/-
  A page is read out of bytes.
-/
import Derived.Test.YtnojkoefdigcnaaPgD
namespace Go.Proofs.Ytnojkoefdigcnaa.Pg
set_option maxRecDepth 100000
open Go.RowKit Go.Proofs.Ytnojkoefdigcnaa.Wd Go.Proofs.Ytnojkoefdigcnaa.Oct Go.Proofs.Ytnojkoefdigcnaa.Dsk Go.Proofs.Ytnojkoefdigcnaa.Rec Go.Proofs.Ytnojkoefdigcnaa.Sum Go.Proofs.Ytnojkoefdigcnaa.Sm

def sN (l : List UInt8) (q : Nat × Int) : Nat := num (Oct.step l q.1 q.2 1).1
def sq1 (l : List UInt8) (q : Nat × Int) : Nat × Int := (Oct.step l q.1 q.2 1).2
def sS (l : List UInt8) (q : Nat × Int) : List UInt8 := (Oct.step l (sq1 l q).1 (sq1 l q).2 (sN l q : Int)).1
def sq2 (l : List UInt8) (q : Nat × Int) : Nat × Int := (Oct.step l (sq1 l q).1 (sq1 l q).2 (sN l q : Int)).2
def sq3 (l : List UInt8) (q : Nat × Int) : Nat × Int := (Oct.step l (sq2 l q).1 (sq2 l q).2 (52 - (sN l q : Int))).2
def qs (l : List UInt8) : Nat → Nat × Int
  | 0 => (10, 0)
  | k + 1 => sq3 l (qs l k)
/-- the slots that are read -/
def rdS (l : List UInt8) (k : Nat) : List UInt8 := sS l (qs l k)
def rdNum (l : List UInt8) : Nat := num (l.take 2)
def rdLsn (l : List UInt8) : Nat := num ((l.drop 2).take 8)
theorem sN_lt (l : List UInt8) (q : Nat × Int) : sN l q < 256 := by
  have := step_num_lt l q.1 q.2 1
  simpa [sN] using this
theorem step_two {l : List UInt8} (h : l.length = 256) : Oct.step l 0 0 2 = (l.take 2, 2, 0) := by
  unfold Oct.step
  rw [if_neg (by simp), if_neg (by omega), if_neg (by omega)]
  rfl
theorem step_ten {l : List UInt8} (h : l.length = 256) : Oct.step l 2 0 8 = ((l.drop 2).take 8, 10, 0) := by
  unfold Oct.step
  rw [if_neg (by simp), if_neg (by omega), if_neg (by omega)]
  rfl
def zs : PS := ⟨fun _ => none, fun _ => 0, fun _ => 0⟩
def upd {α : Type} (f : Nat → α) (k : Nat) (x : α) : Nat → α := fun j => if j = k then x else f j
theorem upd_at {α : Type} (f : Nat → α) (k : Nat) (x : α) : upd f k x k = x := if_pos rfl
theorem upd_not {α : Type} (f : Nat → α) {k j : Nat} (x : α) (h : j ≠ k) : upd f k x j = f j := if_neg h
def PS.set (s : PS) (k : Nat) (A : Option Addr) (n c : Nat) : PS := ⟨upd s.A k A, upd s.n k n, upd s.c k c⟩
theorem pcs_set {num : Int} {lsn : Nat} {s : PS} {k : Nat} (hk : k < 4) (A : Option Addr) (n c : Nat) : (pcs num lsn s).set (2 + k) (.slice A n c) = pcs num lsn (s.set k A n c) := by
  match k, hk with
  | 0, _ => rfl
  | 1, _ => rfl
  | 2, _ => rfl
  | 3, _ => rfl
/-- the slots are bytes of one's own -/
def PO (w : World) (base : Nat) (sl : Nat → List UInt8) (s : PS) : Prop := ∀ j, j < 4 → Own w base (.slice (s.A j) (s.n j) (s.c j)) (sl j)
theorem PO.at_ {w : World} {base : Nat} {sl : Nat → List UInt8} {s : PS} (h : PO w base sl s) : PgAt w w.heap.size sl s := fun k hk => by
  obtain ⟨A, n, c, e, hs⟩ := (h k hk).sl
  cases e
  exact hs
theorem PO.mono {w : World} {base base' : Nat} {sl : Nat → List UInt8} {s : PS} (h : PO w base sl s) (hb : base' ≤ base) : PO w base' sl s := fun k hk => (h k hk).mono hb
theorem PO.nil (w : World) (base : Nat) : PO w base (fun _ => []) zs := fun _ _ => World.ownsRow_nil _ _ _ _
theorem own_ne {w : World} {base g : Nat} {v : Value} {l : List UInt8} {t : TypeId} {cs : List Value} (h : Own w base v l) (hr : Row w g t cs) (ht : t ≠ 5) : v.ownBlock = none ∨ v.ownBlock ≠ some g := by
  rcases h.2 with ⟨rfl, _⟩ | ⟨g', cap, cur, rfl, hb, hg, _⟩
  · exact .inl rfl
  · refine .inr fun e => ht ?_
    have e' : g' = g := Option.some.inj e
    subst e'
    have e2 := (show w.heap[g']? = _ from hr).symm.trans hg
    cases e2
    rfl
theorem Own.kept {w w' : World} {base : Nat} {v : Value} {l : List UInt8} {r : Option Nat} (h : Own w base v l) (hg : w.grownBy w' r) (hne : v.ownBlock = none ∨ v.ownBlock ≠ r) : Own w' base v l := World.ownsRow.kept h hg hne
theorem Own.below {w w' : World} {base : Nat} {v : Value} {l : List UInt8} (h : Own w base v l) (hb : Below w.heap.size w w') : Own w' base v l :=
  h.kept (r := none) ⟨hb.os, hb.tape, hb.output, hb.size, fun k hk _ => hb.block k hk⟩ (by cases v.ownBlock <;> simp)
theorem PO.below {w w' : World} {base : Nat} {sl : Nat → List UInt8} {s : PS} (h : PO w base sl s) (hb : Below w.heap.size w w') : PO w' base sl s := fun k hk => (h k hk).below hb
/-- a page that is read, under way -/
structure RdI (w : World) (g P : Nat) (l : List UInt8) (num : Int) (lsn : Nat) (q : Nat × Int) (S : Nat → List UInt8) (s : PS) (W : World) : Prop where
  r2 : Row W w.heap.size 73 (pcs 0 0 zs)
  r4 : Row W P 73 (pcs num lsn s)
  rd : Rdr W g l q.1 q.2
  own : PO W w.heap.size S s
  hb : Below w.heap.size w W
  gt : w.heap.size < g
  gP : g < P
section
variable {w W W' : World} {g P : Nat} {l : List UInt8} {num : Int} {lsn : Nat} {q q' : Nat × Int} {S : Nat → List UInt8} {s : PS}
theorem RdI.call (h : RdI w g P l num lsn q S s W) (hg : W.grownBy W' (some g)) (hr : Rdr W' g l q'.1 q'.2) : RdI w g P l num lsn q' S s W' := by
  have h1 := h.gt
  have h2 := h.gP
  refine ⟨h.r2.grown hg (fun e => by have := Option.some.inj e; omega), h.r4.grown hg (fun e => by have := Option.some.inj e; omega), hr, fun j hj => (h.own j hj).kept hg ?_, h.hb.grown hg h.hb.size (fun k hk => by have := Option.some.inj hk; omega), h1, h2⟩
  obtain ⟨_, _, _, hrow, _⟩ := h.rd
  exact own_ne (h.own j hj) hrow (by decide)
theorem RdI.put (h : RdI w g P l num lsn q S s W) {k : Nat} (hk : k < 4) {A : Option Addr} {n c : Nat} {x : List UInt8} (hx : Own W w.heap.size (.slice A n c) x) : RdI w g P l num lsn q (upd S k x) (s.set k A n c) (W.setCell ⟨P, 2 + k, none⟩ (.slice A n c)) := by
  have h1 := h.gt
  have h2 := h.gP
  have hgr := grown_store W P (2 + k) (.slice A n c)
  refine ⟨h.r2.far (p := ⟨P, 2 + k, none⟩) (by show w.heap.size ≠ P; omega) _, ?_, ?_, fun j hj => ?_, h.hb.setCell (p := ⟨P, 2 + k, none⟩) (by show w.heap.size ≤ P; omega) _, h1, h2⟩
  · have := h.r4.store (2 + k) (.slice A n c)
    rwa [pcs_set hk] at this
  · exact h.rd.keep fun j hj => Below.heap_setCell W ⟨P, 2 + k, none⟩ _ j (by show j ≠ P; omega)
  · by_cases hjk : j = k
    · subst hjk
      simp only [PS.set, upd_at]
      exact hx.kept hgr (own_ne hx h.r4 (by decide))
    · simp only [PS.set, upd_not _ _ hjk]
      exact (h.own j hj).kept hgr (own_ne (h.own j hj) h.r4 (by decide))
end

end Go.Proofs.Ytnojkoefdigcnaa.Pg
