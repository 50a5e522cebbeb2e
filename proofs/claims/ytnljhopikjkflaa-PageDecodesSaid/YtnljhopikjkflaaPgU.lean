/-
  A page's sectors.
-/
import Derived.Test.YtnljhopikjkflaaPgT
import Derived.Test.YtnljhopikjkflaaDev0
import Derived.Laws.Cover3
import Derived.RangeFuncBox
namespace Go.Proofs.Ytnljhopikjkflaa.Pg
set_option maxRecDepth 100000
open Go.RowKit Go.Proofs.Ytnljhopikjkflaa.Wd Go.Proofs.Ytnljhopikjkflaa.Oct Go.Proofs.Ytnljhopikjkflaa.Dsk Go.Proofs.Ytnljhopikjkflaa.Rec Go.Proofs.Ytnljhopikjkflaa.Sum Go.Proofs.Ytnljhopikjkflaa.Sm

attribute [local go_sem] Oper.semAt_some

theorem info_blk : (Try.prog.info? 55).map (fun i => (i.zero, i.size, i.bytes)) = some (some (.agg (bv (List.replicate 64 0)).toArray), 64, 64) := by kernel_rfl
/-- the sectors that were told, their bytes behind one another -/
def flC (b : List UInt8) (l : List Q4) : List Value := l.flatMap fun x => bv ((b.drop (64 * x.1)).take 64)
theorem flC_snoc (b : List UInt8) (l : List Q4) (x : Q4) : flC b (l ++ [x]) = flC b l ++ bv ((b.drop (64 * x.1)).take 64) := by simp [flC]
theorem flC_all (b : List UInt8) (h : b.length = 256) : flC b (upto4 4) = bv b := by
  have e : upto4 4 = [sq4 0, sq4 1, sq4 2, sq4 3] := rfl
  rw [e]
  simp only [flC, List.flatMap_cons, List.flatMap_nil, sq4, List.append_nil]
  rw [← bv_append, ← bv_append, ← bv_append]
  congr 1
  have h1 : b = b.take 64 ++ b.drop 64 := (List.take_append_drop 64 b).symm
  have h2 : b.drop 64 = (b.drop 64).take 64 ++ b.drop 128 := by rw [← List.drop_drop (i := 64) (j := 64)]; exact (List.take_append_drop 64 (b.drop 64)).symm
  have h3 : b.drop 128 = (b.drop 128).take 64 ++ b.drop 192 := by rw [← List.drop_drop (i := 64) (j := 128)]; exact (List.take_append_drop 64 (b.drop 128)).symm
  have h4 : (b.drop 192).take 64 = b.drop 192 := List.take_of_length_le (by simp [h])
  show b.take 64 ++ ((b.drop 64).take 64 ++ ((b.drop 128).take 64 ++ (b.drop 192).take 64)) = b
  rw [h4, ← h3, ← h2, ← h1]
theorem size58 : (Try.prog.info? 55).map (·.size) = some 64 := by kernel_rfl
theorem own_part {W : World} {base g n cap : Nat} {b : List UInt8} (h : Own W base (.slice (some ⟨g, 0, none⟩) n cap) b) (o m : Nat) : W.rangeAt g o (bv ((b.drop o).take m)) := fun j u hu => by
  have hj : (bv b)[o + j]? = some u := by
    simp only [bv, List.getElem?_map, List.getElem?_take, List.getElem?_drop] at hu ⊢
    split at hu
    · exact hu
    · simp at hu
  have := World.ownsRow.cells h rfl (o + j) u hj
  rw [Addr.add_lit, Nat.zero_add] at this
  exact this
/-- what the rounds over a page's sectors hold -/
def SI (TL TB : TypeId) (g cap : Nat) (b : List UInt8) (w w1 w2 w4 : World) (pre : List Q4) (W : World) : Prop :=
  ∃ v, Row W w2.heap.size TL [v] ∧ W.ownsRow w4.heap.size TB 64 v pre.length (flC b pre) ∧ Own W w1.heap.size (.slice (some ⟨g, 0, none⟩) 256 cap) b ∧ Below w.heap.size w W ∧ w4.heap.size ≤ W.heap.size
theorem SI.own {TL TB : TypeId} {g cap : Nat} {b : List UInt8} {w w1 w2 w4 W W' : World} {pre : List Q4} {row : Option Nat} (h : SI TL TB g cap b w w1 w2 w4 pre W) (hg : W.grownBy W' row) (hr : ∀ r, row = some r → w4.heap.size ≤ r ∧ ∃ o : Obj, W.heap[r]? = some o ∧ o.isCells = false) (hw : w.heap.size ≤ w4.heap.size) : SI TL TB g cap b w w1 w2 w4 pre W' := by
  obtain ⟨v, h1, h2, h3, h4, h5⟩ := h
  have hr' := fun r e => (hr r e).2
  exact ⟨v, row_kept h1 hg hr', owns_kept h2 hg hr', owns_kept h3 hg hr', h4.grown hg h4.size (fun r e => Nat.le_trans hw (hr r e).1), Nat.le_trans h5 hg.size⟩
/-- a sector more -/
theorem SI.next {TL TB : TypeId} {g cap : Nat} {b : List UInt8} {w w1 w2 w4 W W3 W5 : World} {pre : List Q4} {x : Q4} {v v' : Value} {ch : List Value} (h1 : Row W w2.heap.size TL [v]) (h2 : W.ownsRow w4.heap.size TB 64 v pre.length (flC b pre)) (h3 : Own W w1.heap.size (.slice (some ⟨g, 0, none⟩) 256 cap) b) (h4 : Below w.heap.size w W) (h5 : w4.heap.size ≤ W.heap.size)
    (ha : W3 = W.alloc (.cells ch.toArray TB)) (ho : W5.ownsRow w4.heap.size TB 64 v' (pre.length + 1) (flC b pre ++ ch)) (hg : W3.grownBy W5 v.ownBlock) (hn : flC b (pre ++ [x]) = flC b pre ++ ch) (hw : w.heap.size ≤ w2.heap.size) (hgl : g < w2.heap.size) (hs4 : w4.heap.size = w2.heap.size + 3) :
    KeepsFrom w4.heap.size W (W5.setCell ⟨w2.heap.size, 0, none⟩ v') ∧ KeepB (fun k => k = w2.heap.size + 1 ∨ k = w2.heap.size + 1 + 1) W (W5.setCell ⟨w2.heap.size, 0, none⟩ v') ∧ SI TL TB g cap b w w1 w2 w4 (pre ++ [x]) (W5.setCell ⟨w2.heap.size, 0, none⟩ v') := by
  have hlt := World.ownsRow.lt h2
  have hlt5 := World.ownsRow.lt ho
  have hg3 : W.grownBy W3 none := by rw [ha]; exact World.grownBy_alloc _ _ _
  have hg6 := grownBy_setCell' W5 w2.heap.size v'
  have hblk : ∀ k, k < W.heap.size → v.ownBlock ≠ some k → k ≠ w2.heap.size → (W5.setCell ⟨w2.heap.size, 0, none⟩ v').heap[k]? = W.heap[k]? := fun k hk hv hne => by
    rw [hg6.block k (Nat.lt_of_lt_of_le hk (Nat.le_trans hg3.size hg.size)) (fun e => hne (Option.some.inj e)), hg.block k (Nat.lt_of_lt_of_le hk hg3.size) (fun e => hv e.symm), hg3.block k hk (fun e => by cases e)]
  have hsz : W.heap.size ≤ (W5.setCell ⟨w2.heap.size, 0, none⟩ v').heap.size := Nat.le_trans hg3.size (Nat.le_trans hg.size hg6.size)
  have hv4 : ∀ k, k < w4.heap.size → v.ownBlock ≠ some k := fun k hk e => by have := (hlt k e).1; omega
  refine ⟨⟨hsz, fun k o hB hk hc => (hblk k (Array.getElem?_eq_some_iff.1 hk).1 (fun e => ?_) (by omega)).trans hk⟩, fun k hk => hblk k (by omega) (hv4 k (by omega)) (by omega), v', ?_, ?_, ?_, ?_, Nat.le_trans h5 hsz⟩
  · rcases h2.2 with ⟨rfl, -⟩ | ⟨g', cap', cur, rfl, -, hgg, -⟩
    · cases e
    · obtain rfl : g' = k := Option.some.inj e
      rw [hgg] at hk
      cases hk
      cases hc
  · have r3 : Row W3 w2.heap.size TL [v] := h1.grown hg3 (fun e => by cases e)
    have r5 : Row W5 w2.heap.size TL [v] := r3.grown hg (fun e => hv4 _ (by omega) e.symm)
    exact r5.store 0 v'
  · rw [hn, List.length_append]
    exact World.ownsRow.kept ho hg6 (.inr fun e => by have := (hlt5 _ e).1; omega)
  · have o3 := World.ownsRow.kept h3 hg3 (.inr fun e => by cases e)
    have o5 := World.ownsRow.kept o3 hg (.inr fun e => hv4 g (by omega) e.symm)
    exact World.ownsRow.kept o5 hg6 (.inr fun e => by have e' : g = w2.heap.size := Option.some.inj e; omega)
  · exact ((h4.grown hg3 h4.size (fun r e => by cases e)).grown hg (Nat.le_trans h4.size hg3.size) (fun k e => by have := (hlt k e).1; omega)).grown hg6 (Nat.le_trans h4.size (Nat.le_trans hg3.size hg.size)) (fun k e => by have := Option.some.inj e; omega)
/-- what a page's sectors come to -/
def Secs (w : World) (num : Int) (lsn : Nat) (sl : Nat → List UInt8) (ok : Bool) (e : Ending) (w' : World) : Prop :=
  ∃ v, e = .returned (.tuple #[v, .int .i64 (errP ok)]) ∧ (if ok = true then w'.ownsRow w.heap.size 55 64 v 4 (bv (pageB num lsn sl)) else v = .slice none 0 0) ∧ Below w.heap.size w w'

end Go.Proofs.Ytnljhopikjkflaa.Pg
