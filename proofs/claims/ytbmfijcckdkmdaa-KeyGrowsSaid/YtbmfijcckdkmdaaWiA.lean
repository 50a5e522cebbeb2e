/-
  Arrays of 260 numbers by value; the reference's bits.
-/
import Derived.Test.YtbmfijcckdkmdaaWi1
import Derived.Great.Walk
import Derived.Great.BuildSlice
import Derived.Deep.MidRow
import Derived.Deep.RegionHeld
import Derived.Deep.Cut
import Derived.WalkLawsBesides
namespace Go.Proofs.Ytbmfijcckdkmdaa.Wi
set_option maxRecDepth 100000
open Go.RowKit Go.Proofs.Ytbmfijcckdkmdaa.Wd

/-- numbers as cells -/
def iv (l : List Nat) : List Value := l.map fun (x : Nat) => Value.int .i64 (x : Int)
/-- an array of them -/
def arr (l : List Nat) : Value := .agg (iv l).toArray
def zeros : List Nat := List.replicate 260 0
theorem iv_length (l : List Nat) : (iv l).length = l.length := by simp [iv]
theorem iv_cell (l : List Nat) (i : Nat) (h : i < l.length) : (iv l)[i]? = some (.int .i64 ((l.getD i 0 : Nat) : Int)) := by simp [iv, h]
theorem iv_set (l : List Nat) (i x : Nat) : (iv l).set i (.int .i64 (x : Int)) = iv (l.set i x) := by simp [iv, List.map_set]
theorem iv_one (l : List Nat) : ∀ u ∈ iv l, u.oneCell' = true := by
  intro u hu
  obtain ⟨_, _, rfl⟩ := List.mem_map.1 hu
  rfl
theorem size45 : (Try.prog.info? 59).map (·.size) = some 260 := by kernel_rfl
theorem zero45 (u : World) : (zeroValue 59).run Try.prog u = .ok (arr zeros) u := by kernel_rfl
theorem size45_of {l : List Nat} (h : l.length = 260) : (Try.prog.info? 59).map (·.size) = some (iv l).toArray.size := by rw [size45]; simp [iv, h]
/-- 'var x [260]int' -/
theorem run_alloc45 (ρ : Operand → Value) (o : Oper) (ho : o.op = .alloc 59) (w : World) : (execOp ρ o).run Try.prog w = .ok (.value (.pointer (some ⟨w.heap.size, 0, none⟩))) (w.alloc (.cells (iv zeros).toArray 59)) := by
  unfold execOp
  simp only [ho, Sem.run_bind, Instr.alloc, zero45, Result.andThen_ok, newVar, newRow, run_newObj_alloc, Sem.run_pure]
  rfl
theorem wpList_alloc45 {ops : Array Oper} {rest : List Oper} {o : Oper} {a : Act} {w : World} {Q : Exit → Act → World → Prop} (hg : o.guard = none) (ho : o.op = .alloc 59) (dst : Option Tmp) (hdst : o.dst = dst) (g : Nat) (hgs : g = w.heap.size)
    (h : ∀ w', Row w' g 59 (iv zeros) → Below w.heap.size w w' → w'.heap.size = g + 1 → wpList Try.prog ops Q rest (a.put dst (.pointer (some ⟨g, 0, none⟩))) w') : wpList Try.prog ops Q (o :: rest) a w := by
  subst hgs
  exact Great.wpList_allocTo hg dst hdst _ _ (run_alloc45 _ _ ho w) (h _ (Row.new w _ _) ((Below.refl _ _).alloc (Nat.le_refl _) _) (World.size_alloc _ _))
/-- an array's variable -/
theorem wpList_box45 {ops : Array Oper} {rest : List Oper} {o : Oper} {a : Act} {w : World} {Q : Exit → Act → World → Prop} (hg : o.guard = none) (x : Operand) (ho : o.op = .box 59 x) (l : List Nat) (hx : a.eval x = arr l) (dst : Option Tmp) (hdst : o.dst = dst) (g : Nat) (hgs : g = w.heap.size)
    (h : ∀ w', Row w' g 59 (iv l) → Below w.heap.size w w' → w'.heap.size = g + 1 → wpList Try.prog ops Q rest (a.put dst (.pointer (some ⟨g, 0, none⟩))) w') : wpList Try.prog ops Q (o :: rest) a w := by
  subst hgs
  exact Great.wpList_boxTo hg 59 x ho dst hdst _ rfl (iv l).toArray (by rw [hx]; rfl) (h _ (Row.new w _ _) ((Below.refl _ _).alloc (Nat.le_refl _) _) (World.size_alloc _ _))
theorem wpList_load45 {ops : Array Oper} {rest : List Oper} {o : Oper} {a : Act} {w : World} {Q : Exit → Act → World → Prop} (hg : o.guard = none) (x : Operand) (ho : o.op = .load 59 x) (g : Nat) (hx : a.eval x = .pointer (some ⟨g, 0, none⟩)) (l : List Nat) (hr : Row w g 59 (iv l)) (hl : l.length = 260) (dst : Option Tmp) (hdst : o.dst = dst)
    (h : wpList Try.prog ops Q rest (a.put dst (arr l)) w) : wpList Try.prog ops Q (o :: rest) a w := by
  subst hdst
  exact wpList_load_row hg 59 x ho g hx 59 (iv l).toArray (0, 0) _ hr Try.underlying59 rfl (size45_of hl) h
theorem wpList_store45 {ops : Array Oper} {rest : List Oper} {o : Oper} {a : Act} {w : World} {Q : Exit → Act → World → Prop} (hg : o.guard = none) (x y : Operand) (ho : o.op = .store 59 x y) (hd : o.dst = none) (g : Nat) (hx : a.eval x = .pointer (some ⟨g, 0, none⟩)) (l old : List Nat) (hy : a.eval y = arr l) (hr : Row w g 59 (iv old)) (ho2 : old.length = 260) (hl : l.length = 260)
    (h : ∀ w', Row w' g 59 (iv l) → w.grownBy w' (some g) → w'.heap.size = w.heap.size → wpList Try.prog ops Q rest a w') : wpList Try.prog ops Q (o :: rest) a w := by
  refine wpList_store_rowTo hg 59 x y ho hd g (iv l).toArray hx hy 59 (iv old).toArray hr (size45_of hl) (by simp [iv, hl, ho2]) (by rw [Array.all_eq_true']; intro v hv; exact iv_one l v (by simpa using hv)) (h _ ?_ (grown_setRow _ _ _) (by simp [World.setRow]))
  show _ = _
  simpa using setRow_heap w g _ (iv l).toArray 59 _ hr
/-- a result that is an array -/
theorem results45 {fn : Func} {p : Tmp} (h : fn.results = #[.cell p 59]) (tmps : Array Value) (w : World) (g : Nat) (l : List Nat) (hp : tmps.getD p undef = .pointer (some ⟨g, 0, none⟩)) (hr : Row w g 59 (iv l)) (hl : l.length = 260) :
    (results fn tmps).run Try.prog w = .ok (arr l) w :=
  results_cell_row h tmps w g 59 (iv l).toArray (0, 0) _ hp hr Try.underlying59 rfl (size45_of hl)

/-- a number's 260 bits, the lowest first -/
def bitsN (n : Nat) : List Nat := (List.range 260).map fun j => n / 2 ^ j % 2
theorem bitsN_len (n : Nat) : (bitsN n).length = 260 := by simp [bitsN]
theorem bitsN_get (n j : Nat) (h : j < 260) : (bitsN n).getD j 0 = n / 2 ^ j % 2 := by simp [bitsN, h]
end Go.Proofs.Ytbmfijcckdkmdaa.Wi
