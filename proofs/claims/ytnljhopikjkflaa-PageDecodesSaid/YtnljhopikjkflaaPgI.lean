/-
  The reference's Copy; short.
-/
import Derived.Test.YtnljhopikjkflaaPgH
namespace Go.Proofs.Ytnljhopikjkflaa.Pg
set_option maxRecDepth 100000
open Go.RowKit Go.Proofs.Ytnljhopikjkflaa.Wd Go.Proofs.Ytnljhopikjkflaa.Oct Go.Proofs.Ytnljhopikjkflaa.Dsk Go.Proofs.Ytnljhopikjkflaa.Rec Go.Proofs.Ytnljhopikjkflaa.Sum Go.Proofs.Ytnljhopikjkflaa.Sm

/-- a page in a box, and a result's variable -/
structure Cp (w : World) (num : Int) (lsn : Nat) (k : Nat) (sl : Nat → List UInt8) (s : PS) (W : World) : Prop where
  r1 : Row W w.heap.size 48 (pcs num lsn s)
  r2 : Row W (w.heap.size + 1) 48 zcs
  own : ∀ j, j < k → Own W w.heap.size (.slice (s.A j) (s.n j) (s.c j)) (sl j)
  hb : Below w.heap.size w W
  sz : w.heap.size + 1 + 1 ≤ W.heap.size
section
variable {w W W' : World} {num : Int} {lsn : Nat} {k : Nat} {sl : Nat → List UInt8} {s : PS}
theorem Cp.new (w : World) (num : Int) (lsn : Nat) (sl : Nat → List UInt8) (s : PS) : Cp w num lsn 0 sl s ((w.alloc (.cells (pcs num lsn s).toArray 48)).alloc (.cells zcs.toArray 48)) := by
  refine ⟨(Row.new w _ _).alloc _, ?_, fun j hj => by omega, ((Below.refl _ _).alloc (Nat.le_refl _) _).alloc (by simp) _, by simp⟩
  have := Row.new (w.alloc (.cells (pcs num lsn s).toArray 48)) 48 zcs
  rwa [World.size_alloc] at this
theorem Cp.then (h : Cp w num lsn k sl s W) (hb : Below W.heap.size W W') : Cp w num lsn k sl s W' :=
  ⟨h.r1.below hb (by have := h.sz; omega), h.r2.below hb (by have := h.sz; omega), fun j hj => (h.own j hj).below hb, h.hb.trans (hb.mono h.hb.size), Nat.le_trans h.sz hb.size⟩
theorem Cp.set (h : Cp w num lsn k sl s W) (hk : k < 4) (A : Option Addr) (n c : Nat) (hv : Own W w.heap.size (.slice A n c) (sl k)) : Cp w num lsn (k + 1) sl (s.set k A n c) (W.setCell ⟨w.heap.size, 2 + k, none⟩ (.slice A n c)) := by
  have hgr := grown_store W w.heap.size (2 + k) (.slice A n c)
  refine ⟨?_, h.r2.far (p := ⟨w.heap.size, 2 + k, none⟩) (by show w.heap.size + 1 ≠ w.heap.size; omega) _, fun j hj => ?_, h.hb.setCell (p := ⟨w.heap.size, 2 + k, none⟩) (Nat.le_refl _) _, by simpa [World.setCell] using h.sz⟩
  · have := h.r1.store (2 + k) (.slice A n c)
    rwa [pcs_set hk] at this
  · by_cases hjk : j = k
    · subst hjk
      simp only [PS.set, upd_at]
      exact hv.kept hgr (own_ne hv h.r1 (by decide))
    · simp only [PS.set, upd_not _ _ hjk]
      exact (h.own j (by omega)).kept hgr (own_ne (h.own j (by omega)) h.r1 (by decide))
/-- a slot is set that need not be one's own -/
theorem Cp.set0 (h : Cp w num lsn 0 sl s W) (hk : k < 4) (A : Option Addr) (n c : Nat) : Cp w num lsn 0 sl (s.set k A n c) (W.setCell ⟨w.heap.size, 2 + k, none⟩ (.slice A n c)) := by
  refine ⟨?_, h.r2.far (p := ⟨w.heap.size, 2 + k, none⟩) (by show w.heap.size + 1 ≠ w.heap.size; omega) _, fun j hj => by omega, h.hb.setCell (p := ⟨w.heap.size, 2 + k, none⟩) (Nat.le_refl _) _, by simpa [World.setCell] using h.sz⟩
  have := h.r1.store (2 + k) (.slice A n c)
  rwa [pcs_set hk] at this
end

def shortS (sl : Nat → List UInt8) : Nat → List UInt8 := fun k => (sl k).take 53
theorem Bs.pre {w : World} {B : Nat} {A : Option Addr} {l : List UInt8} (h : Bs w B A l) (k : Nat) : Bs w B A (l.take k) := fun hp => by
  have hp' : 0 < l.length := by rw [List.length_take] at hp; omega
  obtain ⟨b, o, e, hlt, hc⟩ := h hp'
  refine ⟨b, o, e, hlt, fun i hi => ?_⟩
  rw [List.length_take] at hi
  rw [hc i (by omega)]
  simp [List.getD_eq_getElem?_getD, List.getElem?_take, show i < k from by omega]
theorem Sl.pre {w : World} {B : Nat} {A : Option Addr} {n c : Nat} {l : List UInt8} (h : Sl w B A n c l) (k m : Nat) (hm : m = min k n) : Sl w B A m c (l.take k) :=
  ⟨by rw [List.length_take, h.len, hm], by have := h.cap; omega, h.most, h.nil, Bs.pre h.bs k⟩
end Go.Proofs.Ytnljhopikjkflaa.Pg
