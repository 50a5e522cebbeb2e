/-
  Decode.
-/
import Derived.Test.YtnojkoefdigcnaaPgE
namespace Go.Proofs.Ytnojkoefdigcnaa.Pg
set_option maxRecDepth 100000
open Go.RowKit Go.Proofs.Ytnojkoefdigcnaa.Wd Go.Proofs.Ytnojkoefdigcnaa.Oct Go.Proofs.Ytnojkoefdigcnaa.Dsk Go.Proofs.Ytnojkoefdigcnaa.Rec Go.Proofs.Ytnojkoefdigcnaa.Sum Go.Proofs.Ytnojkoefdigcnaa.Sm

theorem res_cell_tmp {P : Program} {fn : Func} {p q : Tmp} {ty : TypeId} (h : fn.results = #[.cell p ty, .tmp q]) (tmps : Array Value) (w : World) (a : Addr) (v u : Value) (hp : tmps.getD p undef = .pointer (some a)) (hl : (loadVar ty a).run P w = .ok v w) (hq : tmps.getD q undef = u) :
    (results fn tmps).run P w = .ok (.tuple #[v, u]) w := by
  simp only [results, h]
  simp only [Array.getD_eq_getD_getElem?] at *
  simp [Sem.run_bind, Result.andThen, hq]
  rw [hp, show (asAddr (.pointer (some a))).run P w = .ok a w from rfl]
  simp only []
  rw [hl]
/-- the cells of no page -/
def zcs : List Value := [.int .i64 0, .int .u64 0, .slice none 0 0, .slice none 0 0, .slice none 0 0, .slice none 0 0]
/-- may a page with those slots be? -/
def okM (num : Int) (sl : Nat → List UInt8) : Bool := okN num (fun k => (sl k).length)
theorem okM_eq {w : World} {B : Nat} {num : Int} {sl : Nat → List UInt8} {s : PS} (h : PgAt w B sl s) : okN num s.n = okM num sl := by
  unfold okM okN
  simp only [h.lens 0 (by omega), h.lens 1 (by omega), h.lens 2 (by omega), h.lens 3 (by omega)]
def none_ : Nat → List UInt8 := fun _ => []
/-- what Decode tells: the error, the page -/
structure DP where
  err : Int
  num : Int
  lsn : Nat
  sl : Nat → List UInt8
def badP (e : Int) : DP := ⟨e, 0, 0, none_⟩
def good (number : Int) (l : List UInt8) : Bool := okM (rdNum l : Int) (rdS l) && decide ((rdNum l : Int) = number) && decide (pageB (rdNum l : Int) (rdLsn l) (rdS l) = l)
def decM (number : Int) (l : List UInt8) : DP :=
  if 0 ≤ number ∧ number < 32 then
    if l.length = 256 then
      if l.all (· == 0) = true then ⟨0, number, 0, none_⟩
      else if good number l = true then ⟨0, (rdNum l : Int), rdLsn l, rdS l⟩
      else badP 160
    else badP 160
  else badP 2
/-- what Decode leaves -/
def DecP (w : World) (d : DP) (e : Ending) (w' : World) : Prop := ∃ s, e = .returned (.tuple #[.agg (pcs d.num d.lsn s).toArray, .int .i64 d.err]) ∧ PO w' w.heap.size d.sl s ∧ Below w.heap.size w w'

/-- what Decode has made first -/
structure D0 (w : World) (number : Int) (A : Option Addr) (n c : Nat) (W : World) : Prop where
  r2 : Row W w.heap.size 3 [.int .i64 number]
  r3 : Row W (w.heap.size + 1) 31 [.slice A n c]
  r4 : Row W (w.heap.size + 1 + 1) 73 (pcs 0 0 zs)
  hb : Below w.heap.size w W
  sz : w.heap.size + 1 + 1 + 1 ≤ W.heap.size
theorem D0.then {w : World} {number : Int} {A : Option Addr} {n c : Nat} {W W' : World} (h : D0 w number A n c W) (hb : Below W.heap.size W W') : D0 w number A n c W' := by
  have := h.sz
  exact ⟨h.r2.below hb (by omega), h.r3.below hb (by omega), h.r4.below hb (by omega), h.hb.trans (hb.mono h.hb.size), Nat.le_trans h.sz hb.size⟩
theorem D0.new (w : World) (number : Int) (A : Option Addr) (n c : Nat) : D0 w number A n c (((w.alloc (.cells #[.int .i64 number] 3)).alloc (.cells #[.slice A n c] 31)).alloc (.cells (pcs 0 0 zs).toArray 73)) := by
  refine ⟨((Row.new w 3 [.int .i64 number]).alloc _).alloc _, ?_, ?_, (((Below.refl _ _).alloc (Nat.le_refl _) _).alloc (by simp) _).alloc (by simp; omega) _, by simp⟩
  · have := (Row.new (w.alloc (.cells #[.int .i64 number] 3)) 31 [.slice A n c]).alloc (.cells (pcs 0 0 zs).toArray 73)
    rwa [World.size_alloc] at this
  · have := Row.new ((w.alloc (.cells #[.int .i64 number] 3)).alloc (.cells #[.slice A n c] 31)) 73 (pcs 0 0 zs)
    rwa [World.size_alloc, World.size_alloc] at this

end Go.Proofs.Ytnojkoefdigcnaa.Pg
