/-
  Words on structs that are built whole; nothing here speaks of the disk.
-/
import Derived.Test.YtnojkoefdigcnaaDsk3
import Derived.Laws.Tables
import Derived.OrdersHeld
import Derived.Great.BuildSlice
import Derived.Deep.RegionHeldLaw
namespace Go.Proofs.Ytnojkoefdigcnaa.Dsk
set_option maxRecDepth 100000
open Go.RowKit Go.Proofs.Ytnojkoefdigcnaa.Wd

theorem set_splice {α : Type} (v : α) (vs : List α) (o : Nat) (cs : List α) (hlt : o < cs.length) : splice (cs.set o v) (o + 1) vs = splice cs o (v :: vs) := by
  have ho : (cs.take o).length = o := by rw [List.length_take]; omega
  have e1 : cs.set o v = cs.take o ++ v :: cs.drop (o + 1) := by rw [List.set_eq_take_append_cons_drop, if_pos hlt]
  have e2 : (cs.take o ++ v :: cs.drop (o + 1)).take (o + 1) = cs.take o ++ [v] := by
    have := List.take_length_add_append (l₁ := cs.take o) (l₂ := v :: cs.drop (o + 1)) 1
    rw [ho] at this
    rw [this]; simp
  have e3 : (cs.take o ++ v :: cs.drop (o + 1)).drop (o + 1 + vs.length) = cs.drop (o + (v :: vs).length) := by
    have := List.drop_length_add_append (l₁ := cs.take o) (l₂ := v :: cs.drop (o + 1)) (1 + vs.length)
    rw [ho] at this
    rw [Nat.add_assoc, this, Nat.add_comm 1, List.drop_succ_cons, List.drop_drop, List.length_cons]
    congr 1; omega
  unfold splice
  rw [e1, e2, e3]
  simp
theorem splice_len {α : Type} (cs vs : List α) (o : Nat) (h : o + vs.length ≤ cs.length) : (splice cs o vs).length = cs.length := by
  unfold splice
  rw [List.length_append, List.length_append, List.length_take, List.length_drop]
  omega
theorem fold_zip (off : Nat) : ∀ (vs : List Value) (k : Nat) (cs : List Value), off + k + vs.length ≤ cs.length →
    (vs.zipIdx k).foldl (fun (cs : Array Value) (p : Value × Nat) => cs.setIfInBounds (off + p.2) p.1) cs.toArray = (splice cs (off + k) vs).toArray
  | [], k, cs, _ => by simp [splice]
  | v :: vs, k, cs, h => by
    simp only [List.length_cons] at h
    rw [List.zipIdx_cons, List.foldl_cons, List.setIfInBounds_toArray, fold_zip off vs (k + 1) (cs.set (off + k) v) (by rw [List.length_set]; omega), ← Nat.add_assoc, set_splice v vs (off + k) cs (by omega)]
/-- one part of a value that is built -/
theorem fill_part (place : Nat → Option (Nat × Nat)) (cs : List Value) (i : Nat) (v : Value) (vs : List Value) (rest : List (Nat × Value)) (off : Nat) (hv : v.cells = vs.toArray) (hp : place i = some (off, vs.length)) (hfit : off + vs.length ≤ cs.length) :
    Instr.fill place cs.toArray ((i, v) :: rest) = Instr.fill place (splice cs off vs).toArray rest := by
  rw [Instr.fill, hp]
  simp only [hv, List.size_toArray]
  rw [if_neg (by simp; omega)]
  congr 1
  rw [← Array.foldl_toList, Array.toList_zipIdx]
  exact fold_zip off vs 0 cs (by omega)
theorem yieldsIf_build {P : Program} {ops : Array Oper} {S : World → Prop} {op : Oper} {a : Act} (hw : Region.wanted op (yielded ops a.tmps) = true) (t : TypeId) (parts : Array (Nat × Operand)) (ho : op.op = .build t parts) (cells : Array Value)
    (hb : P.built t (parts.map fun (i, x) => (i, a.eval x)).toList = some cells) : YieldsIf P ops S op (.agg cells) a :=
  Or.inl ⟨hw, fun w _ => by
    unfold execOp
    simp only [ho, Sem.run_bind, run_build w t _ cells hb, Result.andThen_ok]
    rfl⟩
theorem wpList_build_to {P : Program} {ops : Array Oper} {rest : List Oper} {o : Oper} {a : Act} {w : World} {Q : Exit → Act → World → Prop} (hw : Region.wanted o (yielded ops a.tmps) = true) (t : TypeId) (parts : Array (Nat × Operand)) (ho : o.op = .build t parts) (cells : Array Value)
    (hb : P.built t (parts.map fun (i, x) => (i, a.eval x)).toList = some cells) (h : wpList P ops Q rest (a.put o.dst (.agg cells)) w) : wpList P ops Q (o :: rest) a w :=
  wpList_wanted hw fun K hK => wp_build t parts ho (by rw [hb]; rfl) (by rw [hb]; exact hK _ _ h)
theorem built_of (t : TypeId) (parts : List (Nat × Value)) {P : Program} (fields : Array Field) (places : List (Nat × Nat)) (zs : List Value) (hu : P.underlying t = some (.struct fields)) (hz : (P.info? t).bind (·.zero) = some (.agg zs.toArray))
    (hp : fields.toList.mapM (fun f => (P.info? f.type).map fun i => (f.offset, i.size)) = some places) : P.built t parts = Instr.fill (places.toArray[·]?) zs.toArray parts := by
  unfold Program.built
  cases hi : P.info? t with
  | none => rw [hi] at hz; cases hz
  | some it =>
    rw [hi] at hz
    have hz' : it.zero = some (.agg zs.toArray) := hz
    simp only [hu, hz', hp]
    rfl
/-- a region that draws: S told anew, more than it was -/
theorem wpAnyH_mono {P : Program} {ops : Array Oper} {Q : Exit → Act → World → Prop} {md : Region.Mode} {S S' : World → Prop} (hSS : ∀ w, S' w → S w) :
    ∀ (fuel : Nat) (listed : Array Bool) (a : Act) (w : World), wpAnyH P md ops Q S' fuel listed a w → wpAnyH P md ops Q S fuel listed a w
  | 0, _, _, _, h => h
  | fuel + 1, _, _, _, h => ⟨h.1, fun i hi => wpOp_mono (fun a' w' h' => ⟨hSS _ h'.1, wpAnyH_mono hSS fuel _ a' w' h'.2⟩) (h.2 i hi)⟩
/-- a slice literal of one element that is handed in -/
theorem wp_buildOne {P : Program} {o : Oper} {a : Act} {w : World} {K : Act → World → Prop} {Q : Exit → Act → World → Prop} (t e : TypeId) (x : Operand) (ho : o.op = .buildSlice t 1 #[(0, x)])
    (vs zs : List Value) (ie : TypeInfo) (hx : a.eval x = .agg vs.toArray) (hu : P.underlying t = some (.slice e)) (hie : P.info? e = some ie) (hz : ie.zero = some (.agg zs.toArray)) (hs : ie.size = zs.length) (hl : vs.length = zs.length) (hpos : 0 < zs.length) (hn : zs.length ≤ 1000)
    (h : K (a.put o.dst (.slice (some ⟨w.heap.size, 0, none⟩) 1 1)) (w.alloc (.cells vs.toArray e))) : o.wp P a w K Q := by
  refine wp_buildSlice t e 1 #[(0, x)] ho vs.toArray ie _ hu hie hz (by omega) (by omega) ?_ h
  have e1 : ((Array.range (1 * ie.size)).map fun x => (Value.agg zs.toArray).cells[x % (Value.agg zs.toArray).cells.size]!) = zs.toArray := by
    apply Array.ext
    · simp [hs]
    · intro j h1 h2
      simp at h1 h2
      simp [Value.cells, Nat.mod_eq_of_lt h2, h2]
  rw [e1]
  have e2 : (#[((0 : Nat), x)].map fun (p : Nat × Operand) => (p.1, a.eval p.2)).toList = [(0, .agg vs.toArray)] := by simp [hx]
  have e3 := fill_part (fun i => some (i * ie.size, ie.size)) zs 0 (.agg vs.toArray) vs [] 0 rfl (by simp [hs, hl]) (by omega)
  rw [splice_all _ _ hl.symm] at e3
  exact (congrArg _ e2).trans e3
end Go.Proofs.Ytnojkoefdigcnaa.Dsk
