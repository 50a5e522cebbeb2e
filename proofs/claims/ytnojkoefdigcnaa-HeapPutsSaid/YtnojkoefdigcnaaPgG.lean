/-
  Pages held against one another: Same, the reference's Same, bytes.Equal.
-/
import Derived.Test.YtnojkoefdigcnaaPgP
import Derived.OrdersHeld
import Derived.Laws.BytesArg
import Derived.WideShapes
namespace Go.Proofs.Ytnojkoefdigcnaa.Pg
set_option maxRecDepth 100000
open Go.RowKit Go.Proofs.Ytnojkoefdigcnaa.Wd Go.Proofs.Ytnojkoefdigcnaa.Oct Go.Proofs.Ytnojkoefdigcnaa.Dsk Go.Proofs.Ytnojkoefdigcnaa.Rec Go.Proofs.Ytnojkoefdigcnaa.Sum Go.Proofs.Ytnojkoefdigcnaa.Sm

def bstr (l : List UInt8) : ByteArray := strOfNums (l.map fun b => (b.toNat : Int))
theorem bstr_list (l : List UInt8) : (bstr l).toList = l := by
  rw [ByteArray.toList_eq, bstr, strOfNums_data, List.map_map]
  conv => rhs; rw [← List.map_id l]
  refine List.map_congr_left fun b _ => ?_
  simp
theorem bstr_inj {a b : List UInt8} : bstr a = bstr b ↔ a = b := ⟨fun h => by rw [← bstr_list a, h, bstr_list], fun h => by rw [h]⟩
theorem conv_zero {P : Program} (w : World) (src e : TypeId) (hs : P.underlying src = some (.slice e)) (he : P.underlying e = some (.int .u8)) (p : Option Addr) (c : Nat) (dst : TypeId) (hd : P.underlying dst = some .string) :
    (convert src dst (.slice p 0 c)).run P w = .ok (.string (bstr [])) w := by
  rw [run_convert_bytes_string w src dst e _ 0 c hs he hd]
  cases p <;> simp [Conv.bytesToString, loadCells]
  all_goals rfl
theorem conv_any (w : World) (B : Nat) (A : Option Addr) (n c : Nat) (l : List UInt8) (hl : l.length = n) (h : Bs w B A l) :
    (convert 31 9 (.slice A n c)).run Try.prog w = .ok (.string (bstr l)) w := by
  rcases Nat.eq_zero_or_pos n with hn | hn
  · subst hn
    obtain rfl : l = [] := List.eq_nil_of_length_eq_zero hl
    exact conv_zero w 31 5 Try.underlying31 Try.underlying5 A c 9 Try.underlying9
  · obtain ⟨b, o, rfl, _, hc⟩ := h (by omega)
    refine run_convert_bytes_arg w 31 5 Try.underlying31 Try.underlying5 b o n c (l.map fun b => (b.toNat : Int)) (by simpa using hl) (fun i hi => ?_) 9 Try.underlying9
    rw [hc i (by omega)]
    have hi' : i < l.length := by omega
    simp [hi']
theorem bytesEq_any (A1 A2 : Option Addr) (n1 c1 n2 c2 : Nat) (l1 l2 : List UInt8) (B1 B2 : Nat) (w : World) (h1 : l1.length = n1) (h2 : l2.length = n2) (b1 : Bs w B1 A1 l1) (b2 : Bs w B2 A2 l2) :
    Calls Try.prog 12 #[.slice A1 n1 c1, .slice A2 n2 c2] w fun e w' => e = .returned (.bool (decide (l1 = l2))) ∧ w = w' := by
  have k1 := conv_any w B1 A1 n1 c1 l1 h1 b1
  have k2 := conv_any w B2 A2 n2 c2 l2 h2 b2
  clear h1 h2 b1 b2
  have HI := Lib.hid (bstr_inj (a := l1) (b := l2))
  go_enter Try.func12, Try.ntmps12
  go_wp2
  go_ret
  refine ⟨ret_bool ?_, rfl⟩
  rw [Bool.eq_iff_iff, decide_eq_true_eq, ← HI.out]
  simp
  rw [bstr_list, bstr_list, HI.out]
/-- the four slots are the same -/
def eq4 (f g : Nat → List UInt8) : Bool := decide (f 0 = g 0) && decide (f 1 = g 1) && decide (f 2 = g 2) && decide (f 3 = g 3)
theorem eq4_iff {f g : Nat → List UInt8} : eq4 f g = true ↔ ∀ k, k < 4 → f k = g k := by
  unfold eq4
  simp only [Bool.and_eq_true, decide_eq_true_eq]
  refine ⟨fun h k hk => ?_, fun h => ⟨⟨⟨h 0 (by omega), h 1 (by omega)⟩, h 2 (by omega)⟩, h 3 (by omega)⟩⟩
  match k, hk with
  | 0, _ => exact h.1.1.1
  | 1, _ => exact h.1.1.2
  | 2, _ => exact h.1.2
  | 3, _ => exact h.2
def sameM (n1 : Int) (l1 : Nat) (f : Nat → List UInt8) (n2 : Int) (l2 : Nat) (g : Nat → List UInt8) : Bool := decide (n1 = n2) && decide (l1 = l2) && eq4 f g
/-- two pages in boxes of their own -/
structure Bx2 (w : World) (n1 : Int) (l1 : Nat) (s1 : PS) (n2 : Int) (l2 : Nat) (s2 : PS) (w' : World) : Prop where
  ra : Row w' w.heap.size 73 (pcs n1 l1 s1)
  rb : Row w' (w.heap.size + 1) 73 (pcs n2 l2 s2)
  hb : Below w.heap.size w w'
  sz : w.heap.size + 1 + 1 ≤ w'.heap.size
theorem boxed2 (w : World) (n1 : Int) (l1 : Nat) (s1 : PS) (n2 : Int) (l2 : Nat) (s2 : PS) : Bx2 w n1 l1 s1 n2 l2 s2 ((w.alloc (.cells (pcs n1 l1 s1).toArray 73)).alloc (.cells (pcs n2 l2 s2).toArray 73)) := by
  refine ⟨(Row.new w _ _).alloc _, ?_, ((Below.refl _ _).alloc (Nat.le_refl _) _).alloc (by simp) _, by simp⟩
  have := Row.new (w.alloc (.cells (pcs n1 l1 s1).toArray 73)) 73 (pcs n2 l2 s2)
  rwa [World.size_alloc] at this
theorem Bx2.then {w w1 w2 : World} {n1 n2 : Int} {l1 l2 : Nat} {s1 s2 : PS} (h : Bx2 w n1 l1 s1 n2 l2 s2 w1) (hb : Below w1.heap.size w1 w2) : Bx2 w n1 l1 s1 n2 l2 s2 w2 :=
  ⟨h.ra.below hb (by have := h.sz; omega), h.rb.below hb (by have := h.sz; omega), h.hb.trans (hb.mono h.hb.size), Nat.le_trans h.sz hb.size⟩
end Go.Proofs.Ytnojkoefdigcnaa.Pg
