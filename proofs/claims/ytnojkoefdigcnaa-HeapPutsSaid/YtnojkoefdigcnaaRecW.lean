/-
  Rows that are read and written whole, slices of bytes; no program in them.
-/
import Derived.Test.YtnojkoefdigcnaaDev0
import Derived.Test.YtnojkoefdigcnaaOct6
import Derived.Deep.MidRow
namespace Go.Proofs.Ytnojkoefdigcnaa.Rec
set_option maxRecDepth 100000
open Go.RowKit Go.Proofs.Ytnojkoefdigcnaa.Wd Go.Proofs.Ytnojkoefdigcnaa.Dsk Go.Proofs.Ytnojkoefdigcnaa.Oct

/-- a world is given a name -/
theorem nw {P : Program} {c : Code} {Q : Exit → Act → World → Prop} {a : Act} {W : World} (h : ∀ w1, W = w1 → c.wp P Q a w1) : c.wp P Q a W := h W rfl
theorem nwl {P : Program} {ops : Array Oper} {rest : List Oper} {Q : Exit → Act → World → Prop} {a : Act} {W : World} (h : ∀ w1, W = w1 → wpList P ops Q rest a w1) : wpList P ops Q rest a W := h W rfl
/-- a whole variable is written -/
theorem wp_store_whole {P : Program} {op : Oper} {a : Act} {w : World} {K : Act → World → Prop} {Q : Exit → Act → World → Prop} (ty : TypeId) (x y : Operand) (ho : op.op = .store ty x y)
    (g : Nat) (cs : List Value) (hx : a.eval x = .pointer (some ⟨g, 0, none⟩)) (hy : a.eval y = .agg cs.toArray) (t : TypeId) (old : List Value) (hr : Row w g t old) (hl : cs.length = old.length) (h1 : ∀ v ∈ cs, v.oneCell' = true) (hi : (P.info? ty).map (·.size) = some cs.length)
    (h : ∀ w', Row w' g t cs → w.grownBy w' (some g) → K (a.put op.dst undef) w') : op.wp P a w K Q := by
  refine wp_store_mid ty x y ho g 0 cs.toArray hx hy (by rw [List.size_toArray]; exact Row.there hr (by omega)) (by rw [List.size_toArray]; exact hi) (all_oneCell_toArray h1) (h _ ?_ (grown_setCells g cs 0 w))
  have := Row.setCells cs 0 old w hr (by omega)
  rwa [splice_all old cs hl.symm] at this
theorem wpList_store_whole {P : Program} {ops : Array Oper} {rest : List Oper} {op : Oper} {a : Act} {w : World} {Q : Exit → Act → World → Prop} (hw : Region.wanted op (yielded ops a.tmps) = true) (ty : TypeId) (x y : Operand) (ho : op.op = .store ty x y)
    (g : Nat) (cs : List Value) (hx : a.eval x = .pointer (some ⟨g, 0, none⟩)) (hy : a.eval y = .agg cs.toArray) (t : TypeId) (old : List Value) (hr : Row w g t old) (hl : cs.length = old.length) (h1 : ∀ v ∈ cs, v.oneCell' = true) (hi : (P.info? ty).map (·.size) = some cs.length)
    (h : ∀ w', Row w' g t cs → w.grownBy w' (some g) → wpList P ops Q rest (a.put op.dst undef) w') : wpList P ops Q (op :: rest) a w :=
  wpList_wanted hw fun _ hK => wp_store_whole ty x y ho g cs hx hy t old hr hl h1 hi fun w' h2 h3 => hK _ _ (h w' h2 h3)
/-- a variable is read whole -/
theorem wpList_load_row {P : Program} {ops : Array Oper} {rest : List Oper} {op : Oper} {a : Act} {w : World} {Q : Exit → Act → World → Prop} (hw : Region.wanted op (yielded ops a.tmps) = true) (ty : TypeId) (x : Operand) (ho : op.op = .load ty x)
    (b o : Nat) (hx : a.eval x = .pointer (some ⟨b, o, none⟩)) (cs : List Value) (d : TypeDesc) (hc : w.rangeAt b o cs) (hu : P.underlying ty = some d) (hd : d.isRow = true) (hi : (P.info? ty).map (·.size) = some cs.length)
    (h : wpList P ops Q rest (a.put op.dst (.agg cs.toArray)) w) : wpList P ops Q (op :: rest) a w :=
  wpList_wanted hw fun _ hK => wp_load_mid ty x ho b o hx cs d hc hu hd hi (hK _ _ h)
theorem Row.all {w : World} {g : Nat} {t : TypeId} {cs : List Value} (h : Row w g t cs) : w.rangeAt g 0 cs := Row.range h fun j v hj => by simpa using hj
theorem bs_range {w : World} {B b o : Nat} {l : List UInt8} (h : Bs w B (some ⟨b, o, none⟩) l) : w.rangeAt b o (bv l) := fun j v hj => by
  have hj2 : j < l.length := by simpa [bv_length] using (List.getElem?_eq_some_iff.1 hj).1
  obtain ⟨b', o', e, _, hc⟩ := h (by omega)
  cases e
  rw [hc j hj2, ← hj]
  simp [bv, hj2]
/-- a slice of bytes below B -/
structure Sl (w : World) (B : Nat) (A : Option Addr) (n c : Nat) (l : List UInt8) : Prop where
  len : l.length = n
  cap : n ≤ c
  most : c ≤ maxLen
  nil : A = none → c = 0
  bs : Bs w B A l
theorem Sl.below {w w' : World} {B : Nat} {A : Option Addr} {n c : Nat} {l : List UInt8} (h : Sl w B A n c l) (hb : Below B w w') : Sl w' B A n c l := ⟨h.len, h.cap, h.most, h.nil, h.bs.below hb⟩
theorem Sl.more {w : World} {B B' : Nat} {A : Option Addr} {n c : Nat} {l : List UInt8} (h : Sl w B A n c l) (hb : B ≤ B') : Sl w B' A n c l := ⟨h.len, h.cap, h.most, h.nil, h.bs.more hb⟩
theorem Sl.nil_ (w : World) (B : Nat) : Sl w B none 0 0 [] := ⟨rfl, Nat.le_refl _, Nat.zero_le _, fun _ => rfl, Bs.nil _ _ _⟩
/-- a slice that a call made -/
def MadeSl (w : World) (n : Nat) (l : List UInt8) (e : Ending) (w' : World) : Prop :=
  ∃ A c, e = .returned (.slice A n c) ∧ Sl w' w'.heap.size A n c l ∧ (∀ k, (Value.slice A n c).ownBlock = some k → w.heap.size ≤ k) ∧ Below w.heap.size w w'
end Go.Proofs.Ytnojkoefdigcnaa.Rec
