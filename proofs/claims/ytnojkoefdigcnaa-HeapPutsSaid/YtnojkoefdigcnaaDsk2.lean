/-
  The contract of the statements' block; blocks as values.
-/
import Derived.Test.YtnojkoefdigcnaaDsk1
import Derived.Deep.MidRow
namespace Go.Proofs.Ytnojkoefdigcnaa.Dsk
set_option maxRecDepth 100000
open Go.RowKit Go.Proofs.Ytnojkoefdigcnaa.Wd

/-- a block's value -/
def blk (l : List UInt8) : Value := .agg (bv l).toArray
/-- the block of a byte -/
def blockM (x : UInt8) : List UInt8 := (List.range 64).map fun i => x ^^^ UInt8.ofNat i
theorem blockM_len (x : UInt8) : (blockM x).length = 64 := by simp [blockM]
/-- the block of noughts -/
def nought : List UInt8 := List.replicate 64 0
/-- what lies in a row from place o on -/
theorem Row.range {w : World} {g o : Nat} {t : TypeId} {cs vs : List Value} (h : Row w g t cs) (hv : ∀ j v, vs[j]? = some v → cs[o + j]? = some v) : w.rangeAt g o vs := fun j v hj => by
  rw [h.cell]; exact hv j v hj
theorem Row.there {w : World} {g o n : Nat} {t : TypeId} {cs : List Value} (h : Row w g t cs) (hn : o + n ≤ cs.length) : w.there g o n := fun j hj => by
  refine ⟨?_, h.frozen _⟩
  rw [h.cell, List.getElem?_eq_getElem (by omega)]; rfl
theorem Row.setCells {g : Nat} {t : TypeId} : ∀ (vs : List Value) (o : Nat) (cs : List Value) (w : World), Row w g t cs → o + vs.length ≤ cs.length → Row (w.setCells g o vs) g t (splice cs o vs)
  | [], o, cs, w, h, _ => by
    have : splice cs o [] = cs := by simp [splice]
    rw [this]; exact h
  | v :: vs, o, cs, w, h, hl => by
    have h1 := Row.setCells vs (o + 1) (cs.set o v) (w.setCell ⟨g, o, none⟩ v) (h.store o v) (by simp at hl ⊢; omega)
    have e : splice (cs.set o v) (o + 1) vs = splice cs o (v :: vs) := by
      simp only [List.length_cons] at hl
      have hlt : o < cs.length := by omega
      have ho : (cs.take o).length = o := by rw [List.length_take]; omega
      have e1 : cs.set o v = cs.take o ++ v :: cs.drop (o + 1) := by rw [List.set_eq_take_append_cons_drop, if_pos hlt]
      have e2 : (cs.take o ++ v :: cs.drop (o + 1)).take (o + 1) = cs.take o ++ [v] := by
        have := List.take_length_add_append (l₁ := cs.take o) (l₂ := v :: cs.drop (o + 1)) 1
        rw [ho] at this
        rw [this]; simp
      have e3 : (cs.take o ++ v :: cs.drop (o + 1)).drop (o + 1 + vs.length) = cs.drop (o + (v :: vs).length) := by
        have := List.drop_length_add_append (l₁ := cs.take o) (l₂ := v :: cs.drop (o + 1)) (1 + vs.length)
        rw [ho] at this
        rw [Nat.add_assoc, this, Nat.add_comm 1, List.drop_succ_cons, List.drop_drop, List.length_cons]
        congr 1; omega
      unfold splice
      rw [e1, e2, e3]
      simp
    rw [← e]
    exact h1

theorem below_setCells {B : Nat} {a : World} {g : Nat} : ∀ {w : World}, Below B a w → B ≤ g → ∀ (vs : List Value) (o : Nat), Below B a (w.setCells g o vs)
  | _, h, _, [], _ => h
  | _, h, hg, v :: vs, o => below_setCells (h.setCell (p := ⟨g, o, none⟩) hg v) hg vs (o + 1)
theorem results_cell {P : Program} {fn : Func} {p : Tmp} {ty : TypeId} (h : fn.results = #[.cell p ty]) (tmps : Array Value) (w : World) (a : Addr) (v : Value) (hp : tmps.getD p undef = .pointer (some a)) (hl : (loadVar ty a).run P w = .ok v w) :
    (results fn tmps).run P w = .ok v w := by
  have e : (results fn tmps).run P w = ((asAddr (tmps.getD p undef)).run P w).andThen fun a w₁ => (loadVar ty a).run P w₁ := by
    simp only [results, h]
    simp [Sem.run_bind, Result.andThen]
  rw [e, hp]
  have e2 : (asAddr (.pointer (some a))).run P w = .ok a w := rfl
  rw [e2, Result.andThen_ok, hl]
section
variable {P : Program}
theorem wpList_load_blk {ops : Array Oper} {rest : List Oper} {op : Oper} {a : Act} {w : World} {Q : Exit → Act → World → Prop} (hgd : op.guard = none) (ty : TypeId) (x : Operand) (ho : op.op = .load ty x)
    (b o : Nat) (hx : a.eval x = .pointer (some ⟨b, o, none⟩)) (l : List UInt8) (d : TypeDesc) (hc : w.rangeAt b o (bv l)) (hu : P.underlying ty = some d) (hd : d.isRow = true) (hi : (P.info? ty).map (·.size) = some l.length)
    (h : wpList P ops Q rest (a.put op.dst (blk l)) w) : wpList P ops Q (op :: rest) a w :=
  wpList_load_mid hgd ty x ho b o hx (bv l) d hc hu hd (by rw [bv_length]; exact hi) h
theorem wpList_store_blk {ops : Array Oper} {rest : List Oper} {op : Oper} {a : Act} {w : World} {Q : Exit → Act → World → Prop} (hgd : op.guard = none) (ty : TypeId) (x y : Operand) (ho : op.op = .store ty x y)
    (b o : Nat) (l : List UInt8) (hx : a.eval x = .pointer (some ⟨b, o, none⟩)) (hy : a.eval y = blk l) (ht : w.there b o l.length) (hi : (P.info? ty).map (·.size) = some l.length)
    (h : wpList P ops Q rest (a.put op.dst undef) (w.setCells b o (bv l))) : wpList P ops Q (op :: rest) a w :=
  wpList_store_mid hgd ty x y ho b o (bv l).toArray hx hy (by rw [List.size_toArray, bv_length]; exact ht) (by rw [List.size_toArray, bv_length]; exact hi) (all_oneCell_toArray bv_one) h
theorem grown_setCells (g : Nat) : ∀ (vs : List Value) (o : Nat) (w : World), w.grownBy (w.setCells g o vs) (some g)
  | [], _, w => World.grownBy.refl w _
  | v :: vs, o, w => by
    have h1 := grown_setCells g vs (o + 1) (w.setCell ⟨g, o, none⟩ v)
    exact ⟨h1.os, h1.tape, h1.output, Nat.le_trans (by simp [World.setCell]) h1.size, fun k hk hne => (h1.block k (by simpa [World.setCell] using hk) hne).trans (Below.heap_setCell w _ v k (fun e => hne (by rw [e])))⟩
/-- a store of many cells into a row that is known whole: the world behind it is a letter -/
theorem wpList_store_in {ops : Array Oper} {rest : List Oper} {op : Oper} {a : Act} {w : World} {Q : Exit → Act → World → Prop} (hgd : op.guard = none) (ty : TypeId) (x y : Operand) (ho : op.op = .store ty x y)
    (g o : Nat) (vs : List Value) (hx : a.eval x = .pointer (some ⟨g, o, none⟩)) (hy : a.eval y = .agg vs.toArray) (t : TypeId) (cs : List Value) (hr : Row w g t cs) (hfit : o + vs.length ≤ cs.length) (h1 : ∀ v ∈ vs, v.oneCell' = true) (hi : (P.info? ty).map (·.size) = some vs.length)
    (h : ∀ w', Row w' g t (splice cs o vs) → w.grownBy w' (some g) → wpList P ops Q rest (a.put op.dst undef) w') : wpList P ops Q (op :: rest) a w :=
  wpList_store_mid hgd ty x y ho g o vs.toArray hx hy (by rw [List.size_toArray]; exact Row.there hr hfit) (by rw [List.size_toArray]; exact hi) (all_oneCell_toArray h1) (h _ (Row.setCells vs o cs w hr hfit) (grown_setCells g vs o w))
/-- a block's result, out of its variable -/
theorem run_load_blk (w : World) (b o : Nat) (ty : TypeId) (l : List UInt8) (d : TypeDesc) (hc : w.rangeAt b o (bv l)) (hu : P.underlying ty = some d) (hd : d.isRow = true) (hi : (P.info? ty).map (·.size) = some l.length) :
    (loadVar ty ⟨b, o, none⟩).run P w = .ok (blk l) w := run_loadVar_mid w b o ty (bv l) d hc hu hd (by rw [bv_length]; exact hi)
end

end Go.Proofs.Ytnojkoefdigcnaa.Dsk
