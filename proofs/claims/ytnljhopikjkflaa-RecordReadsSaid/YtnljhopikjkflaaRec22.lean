/-
  Reading from a place on is reading what stands from there on (pure).
-/
import Derived.Test.YtnljhopikjkflaaRec21
import Derived.Test.YtnljhopikjkflaaRecQ
import Derived.Test.YtnljhopikjkflaaRec15
import Derived.Test.YtnljhopikjkflaaRecP
namespace Go.Proofs.Ytnljhopikjkflaa.Rec
set_option maxRecDepth 100000
open Go.RowKit Go.Proofs.Ytnljhopikjkflaa.Wd Go.Proofs.Ytnljhopikjkflaa.Oct Go.Proofs.Ytnljhopikjkflaa.Dsk

def sh (a : Nat) (q : Nat × Int) : Nat × Int := (a + q.1, q.2)
theorem step_shift (l : List UInt8) (a p : Nat) (e k : Int) : Oct.step l (a + p) e k = ((Oct.step (l.drop a) p e k).1, a + (Oct.step (l.drop a) p e k).2.1, (Oct.step (l.drop a) p e k).2.2) := by
  unfold Oct.step
  rw [List.length_drop, List.drop_drop, show l.length - a - p = l.length - (a + p) by omega]
  by_cases h1 : e ≠ 0
  · simp only [if_pos h1]
  · simp only [if_neg h1]
    by_cases h2 : k < 0
    · simp only [if_pos h2]
    · simp only [if_neg h2]
      by_cases h3 : ((l.length - (a + p) : Nat) : Int) < k
      · simp only [if_pos h3]
      · simp only [if_neg h3]
        rw [Nat.add_assoc]
theorem rn_shift (k : Int) (l : List UInt8) (a : Nat) (q : Nat × Int) : rn k l (sh a q) = ((rn k (l.drop a) q).1, sh a (rn k (l.drop a) q).2) := by
  unfold rn sh
  rw [step_shift]
theorem rb_shift (l : List UInt8) (a : Nat) (q : Nat × Int) : rb l (sh a q) = ((rb (l.drop a) q).1, sh a (rb (l.drop a) q).2) := by
  unfold rb
  rw [rn_shift]
  unfold sh
  rw [step_shift]
theorem pl_shift (J : Bool) (l : List UInt8) (a : Nat) (q : Nat × Int) : pl J l (sh a q) = ((pl J (l.drop a) q).1, sh a (pl J (l.drop a) q).2) := by
  unfold pl
  cases J
  · rfl
  · exact rn_shift 1 l a q
theorem it_shift (J : Bool) (l : List UInt8) (a : Nat) (q : Nat × Int) : it J l (sh a q) = ((it J (l.drop a) q).1, sh a (it J (l.drop a) q).2) := by
  unfold it
  cases J
  · rfl
  · exact rb_shift l a q
theorem nx_shift (J : Bool) (l : List UInt8) (a : Nat) (q : Nat × Int) : nx J l (sh a q) = ((nx J (l.drop a) q).1, sh a (nx J (l.drop a) q).2) := by
  unfold nx
  cases J
  · rfl
  · exact rn_shift 8 l a q
theorem fields_shift (l : List UInt8) (J2 J4 J8 J16 : Bool) (a : Nat) (q : Nat × Int) : fieldsM l J2 J4 J8 J16 (sh a q) = ((fieldsM (l.drop a) J2 J4 J8 J16 q).1, sh a (fieldsM (l.drop a) J2 J4 J8 J16 q).2) := by
  unfold fieldsM
  simp only [rn_shift, pl_shift, it_shift, nx_shift]
theorem recM_shift (l : List UInt8) (a : Nat) : recM l a = ((recM (l.drop a) 0).1, (recM (l.drop a) 0).2.1, sh a (recM (l.drop a) 0).2.2) := by
  unfold recM
  rw [show ((a, 0) : Nat × Int) = sh a (0, 0) from rfl]
  simp only [rn_shift, fields_shift]
  split
  · rename_i h
    have h' : (rn 1 (l.drop a) (0, 0)).2.2 = 0 ∧ countedM ((rn 1 (l.drop a) (0, 0)).1 : Int) = 0 := h
    rw [if_pos h']
  · rename_i h
    have h' : ¬ ((rn 1 (l.drop a) (0, 0)).2.2 = 0 ∧ countedM ((rn 1 (l.drop a) (0, 0)).1 : Int) = 0) := h
    rw [if_neg h']
    split
    · rename_i h2
      have h2' : (fieldsM (l.drop a) (hasB (countedM ((rn 1 (l.drop a) (0, 0)).1 : Int)) 2) (hasB (countedM ((rn 1 (l.drop a) (0, 0)).1 : Int)) 4) (hasB (countedM ((rn 1 (l.drop a) (0, 0)).1 : Int)) 8) (hasB (countedM ((rn 1 (l.drop a) (0, 0)).1 : Int)) 16) (rn 1 (l.drop a) (0, 0)).2).2.2 ≠ 0 := h2
      rw [if_pos h2']
      rfl
    · rename_i h2
      have h2' : ¬ (fieldsM (l.drop a) (hasB (countedM ((rn 1 (l.drop a) (0, 0)).1 : Int)) 2) (hasB (countedM ((rn 1 (l.drop a) (0, 0)).1 : Int)) 4) (hasB (countedM ((rn 1 (l.drop a) (0, 0)).1 : Int)) 8) (hasB (countedM ((rn 1 (l.drop a) (0, 0)).1 : Int)) 16) (rn 1 (l.drop a) (0, 0)).2).2.2 ≠ 0 := h2
      rw [if_neg h2']
      split <;> rfl
/-- the bytes of rows, read -/
theorem rdE_back {rs : List RM} {n : Nat} (hok : ∀ r ∈ rs, okM r = true) (hu : ∀ r ∈ rs, U4 r) : ∀ i, i ≤ rs.length → rdE (rowB n rs) i = (0, (rowB n (rs.take i)).length, rs.take i)
  | 0, _ => by
    show ((0 : Int), 2, ([] : List RM)) = _
    simp [rowB, hi_length]
  | i + 1, hi' => by
    have ih := rdE_back (n := n) hok hu i (by omega)
    obtain ⟨r, hr⟩ : ∃ r, rs[i]? = some r := ⟨_, List.getElem?_eq_getElem (by omega)⟩
    have hm : r ∈ rs := List.mem_of_getElem? hr
    have hts : rs.take (i + 1) = rs.take i ++ [r] := by
      rw [List.take_succ_eq_append_getElem (by omega), (List.getElem?_eq_some_iff.1 hr).2]
    obtain ⟨b, hb⟩ : ∃ b, rowB n rs = rowB n (rs.take i) ++ (bytesM r ++ b) := by
      have e : rs.take i ++ r :: rs.drop (i + 1) = rs := by
        rw [← (List.getElem?_eq_some_iff.1 hr).2, ← List.drop_eq_getElem_cons (by omega), List.take_append_drop]
      refine ⟨((rs.drop (i + 1)).map bytesM).flatten, ?_⟩
      have h3 : (rs.map bytesM).flatten = ((rs.take i ++ r :: rs.drop (i + 1)).map bytesM).flatten := by rw [e]
      unfold rowB
      rw [h3]
      simp
    have h0 := recM_back r b (hok r hm) (hu r hm).u1 (hu r hm).u2 (hu r hm).u3 (hu r hm).u4
    have hs := recM_shift (rowB n rs) (rowB n (rs.take i)).length
    rw [hb, List.drop_left, h0] at hs
    rw [← hb] at hs
    have := rdE_next ih (by rw [hs])
    rw [this, hs, hts, rowB_snoc, List.length_append]
    rfl
end Go.Proofs.Ytnljhopikjkflaa.Rec
