/-
  copy of elements of k cells into a row that is known whole.
-/
import Derived.Test.YtbfpadilcfelbaaDev7
namespace Go.Proofs.Ytbfpadilcfelbaa.Dsk
open Go.RowKit Go.Proofs.Ytbfpadilcfelbaa.Wd

theorem run_copy_rowK {P : Program} (w : World) (dT sT ty elem : TypeId) (g dLen dCap : Nat) (A : Option Addr) (sLen sCap k : Nat) (cur : List Value) (t : TypeId) (cs : List Value)
    (hu : P.underlying dT = some (.slice elem)) (hs : (P.info? elem).map (·.size) = some k) (hk : 0 < k)
    (hg : Row w g t cur) (m : Nat) (hm : Nat.min sLen dLen = m) (hn : cs.length = m * k) (hsrc : 0 < cs.length → ∃ ad, A = some ad ∧ ∀ j v, cs[j]? = some v → w.cell? (ad.add j) = some v) (hfit : cs.length ≤ cur.length) (h1 : ∀ v ∈ cs, v.oneCell' = true) :
    ∃ w', (Builtin.copy_ #[dT, sT] ty #[.slice (some ⟨g, 0, none⟩) dLen dCap, .slice A sLen sCap]).run P w = .ok (goInt m) w' ∧ Row w' g t (splice cur 0 cs) ∧ w.grownBy w' (some g) := by
  cases hq : P.info? elem with
  | none => simp [hq] at hs
  | some i =>
    have hi : i.size = k := by simpa [hq] using hs
    by_cases h0 : cs.length = 0
    · obtain rfl : cs = [] := List.eq_nil_of_length_eq_zero h0
      have hm0 : m = 0 := by
        rcases Nat.eq_zero_or_pos m with h | h
        · exact h
        · have := Nat.mul_pos h hk
          rw [← hn] at this; simp at this
      subst hm0
      have hl : ∀ (x : Addr), (loadCells x 0).run P w = .ok #[] w := fun x => by simpa using run_loadCells_list (P := P) w x [] (by simp)
      refine ⟨w, ?_, by simpa [splice] using hg, World.grownBy.refl _ _⟩
      cases A <;> simp [Builtin.copy_, run_underlying hu, Builtin.lenOf, Builtin.firstCells, sizeOf, typeInfo, hq, hm, storeCells, hl]
    · obtain ⟨ad, rfl, hsrc2⟩ := hsrc (by omega)
      have hl := run_loadCells_list (P := P) w ad cs hsrc2
      have hst := run_storeCells_at P g 0 t cs 0 cur.toArray w hg (by simpa using hfit) h1
      refine ⟨_, ?_, ?_, grown_setRow w g ((cur.take 0 ++ cs ++ cur.drop (0 + cs.length)).toArray)⟩
      · have hn' : m * k = cs.length := hn.symm
        simp [Builtin.copy_, run_underlying hu, Builtin.lenOf, Builtin.firstCells, sizeOf, typeInfo, hq, hi, hm, hn', hl, hst]
      · show _ = _
        simpa [splice] using setRow_heap w g _ _ t _ hg
theorem wp_copy_rowK {P : Program} {w : World} {o : Oper} {a : Act} {K : Act → World → Prop} {Q : Exit → Act → World → Prop} (d s : Operand) (dT sT : TypeId)
    (ho : o.op = .call { callee := .builtin .copy, args := #[d, s], argTypes := #[dT, sT] }) (elem : TypeId) (hu : P.underlying dT = some (.slice elem)) (k : Nat) (hs : (P.info? elem).map (·.size) = some k) (hk : 0 < k)
    (g dLen dCap : Nat) (A : Option Addr) (sLen sCap : Nat) (hd : a.eval d = .slice (some ⟨g, 0, none⟩) dLen dCap) (hsv : a.eval s = .slice A sLen sCap) (cur : List Value) (t : TypeId) (cs : List Value)
    (hg : Row w g t cur) (m : Nat) (hm : Nat.min sLen dLen = m) (hn : cs.length = m * k) (hsrc : 0 < cs.length → ∃ ad, A = some ad ∧ ∀ j v, cs[j]? = some v → w.cell? (ad.add j) = some v) (hfit : cs.length ≤ cur.length) (h1 : ∀ v ∈ cs, v.oneCell' = true)
    (h : ∀ w', Row w' g t (splice cur 0 cs) → w.grownBy w' (some g) → K (a.put o.dst (goInt m)) w') : o.wp P a w K Q := by
  obtain ⟨w', hrun, hrow, hgr⟩ := run_copy_rowK w dT sT o.type elem g dLen dCap A sLen sCap k cur t cs hu hs hk hg m hm hn hsrc hfit h1
  unfold Oper.wp
  simp [execOp, ho, resolve, invoke, builtin, hd, hsv, hrun, Result.andThen]
  exact h _ hrow hgr
theorem make_writes (n : Nat) (hn : n ≤ 1000000) (u : World) : (Instr.makeSlice 60 (.int .i64 (n : Int)) (.int .i64 (n : Int))).run Try.prog u =
    .ok (.slice (some ⟨u.heap.size, 0, none⟩) n n) (u.alloc (.cells (madeCells (pcs (0, nought, nought)).toArray (n * 129)) 77)) := by
  obtain ⟨i0, hi, hz0, hz1, hz2⟩ := info_parts info81
  have h := run_make (P := Try.prog) u 60 77 i0 (.agg (pcs (0, nought, nought)).toArray) Try.underlying60 hi hz0 .i64 .i64 (n : Int) (n : Int) (by omega) (Int.le_refl _) (by rw [hz2]; omega) (by omega)
  rw [hz1, Int.toNat_natCast] at h
  exact h
/-- a row that was made, whatever lies in it -/
theorem Row.madeAny (w : World) (z : Array Value) (m : Nat) (t : TypeId) : ∃ cs, cs.length = m ∧ Row (w.alloc (.cells (madeCells z m) t)) w.heap.size t cs :=
  ⟨(madeCells z m).toList, by simp [madeCells], Row.new w t (madeCells z m).toList⟩
end Go.Proofs.Ytbfpadilcfelbaa.Dsk
