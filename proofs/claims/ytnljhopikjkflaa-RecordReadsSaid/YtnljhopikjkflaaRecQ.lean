/-
  What is read of bytes, by their places. No program here.
-/
import Derived.Test.YtnljhopikjkflaaRecP
namespace Go.Proofs.Ytnljhopikjkflaa.Rec
set_option maxRecDepth 100000
open Go.RowKit Go.Proofs.Ytnljhopikjkflaa.Wd Go.Proofs.Ytnljhopikjkflaa.Oct

def by_ (l : List UInt8) (i : Nat) : Nat := (l.getD i 0).toNat
def n8 (l : List UInt8) (i : Nat) : Nat := num ((l.drop i).take 8)
def sl (l : List UInt8) (i n : Nat) : List UInt8 := (l.drop i).take n
theorem step_ok (l : List UInt8) (at_ k : Nat) (h : at_ + k ≤ l.length) : Oct.step l at_ 0 (k : Int) = ((l.drop at_).take k, at_ + k, 0) := by
  unfold Oct.step
  rw [if_neg (by simp), if_neg (by omega), if_neg (by omega)]
  simp
theorem step_no (l : List UInt8) (at_ k : Nat) (h : l.length < at_ + k) (hk : 0 < k) : Oct.step l at_ 0 (k : Int) = ([], at_, 7) := by
  unfold Oct.step
  rw [if_neg (by simp), if_neg (by omega), if_pos (by omega)]
theorem rn_err {k : Int} {l : List UInt8} {q : Nat × Int} (h : q.2 = 7) : (rn k l q).2.2 = 7 := by
  unfold rn
  rw [step_err l _ _ _ (by omega)]
  exact h
theorem rb_err {l : List UInt8} {q : Nat × Int} (h : q.2 = 7) : (rb l q).2.2 = 7 := by
  have h1 := rn_err (k := 1) (l := l) h
  unfold rb
  rw [step_err l _ _ _ (by omega)]
  exact h1
theorem pl_err {J : Bool} {l : List UInt8} {q : Nat × Int} (h : q.2 = 7) : (pl J l q).2.2 = 7 := by cases J; exact h; exact rn_err h
theorem it_err {J : Bool} {l : List UInt8} {q : Nat × Int} (h : q.2 = 7) : (it J l q).2.2 = 7 := by cases J; exact h; exact rb_err h
theorem nx_err {J : Bool} {l : List UInt8} {q : Nat × Int} (h : q.2 = 7) : (nx J l q).2.2 = 7 := by cases J; exact h; exact rn_err h
theorem rn8_ok (l : List UInt8) (at_ : Nat) (h : at_ + 8 ≤ l.length) : rn 8 l (at_, 0) = (n8 l at_, (at_ + 8, 0)) := by
  unfold rn
  have := step_ok l at_ 8 h
  simp only at this ⊢
  rw [show ((8 : Nat) : Int) = 8 from rfl] at this
  rw [this]
  rfl
theorem rn8_no (l : List UInt8) (at_ : Nat) (h : l.length < at_ + 8) : (rn 8 l (at_, 0)).2.2 = 7 := by
  unfold rn
  have := step_no l at_ 8 h (by omega)
  rw [show ((8 : Nat) : Int) = 8 from rfl] at this
  simp only
  rw [this]
theorem num_one (l : List UInt8) (at_ : Nat) (h : at_ < l.length) : num ((l.drop at_).take 1) = by_ l at_ := by
  have e : (l.drop at_).take 1 = [l[at_]] := by rw [List.drop_eq_getElem_cons h]; rfl
  rw [e]
  simp [num, by_, h]
theorem rn1_ok (l : List UInt8) (at_ : Nat) (h : at_ < l.length) : rn 1 l (at_, 0) = (by_ l at_, (at_ + 1, 0)) := by
  unfold rn
  have := step_ok l at_ 1 (by omega)
  rw [show ((1 : Nat) : Int) = 1 from rfl] at this
  simp only
  rw [this]
  simp only [num_one l at_ h]
theorem rn1_no (l : List UInt8) (at_ : Nat) (h : l.length ≤ at_) : rn 1 l (at_, 0) = (0, (at_, 7)) := by
  unfold rn
  have := step_no l at_ 1 (by omega) (by omega)
  rw [show ((1 : Nat) : Int) = 1 from rfl] at this
  simp only
  rw [this]
  rfl
theorem rb_ok (l : List UInt8) (at_ : Nat) (h : at_ < l.length) (h2 : at_ + 1 + by_ l at_ ≤ l.length) : rb l (at_, 0) = (sl l (at_ + 1) (by_ l at_), (at_ + 1 + by_ l at_, 0)) := by
  unfold rb
  rw [rn1_ok l at_ h]
  simp only
  rw [step_ok l (at_ + 1) (by_ l at_) h2]
  rfl
theorem rb_no1 (l : List UInt8) (at_ : Nat) (h : l.length ≤ at_) : (rb l (at_, 0)).2.2 = 7 := by
  unfold rb
  rw [rn1_no l at_ h]
  simp only
  rw [step_err l _ _ _ (by decide)]
theorem rb_no2 (l : List UInt8) (at_ : Nat) (h : at_ < l.length) (h2 : l.length < at_ + 1 + by_ l at_) : (rb l (at_, 0)).2.2 = 7 := by
  unfold rb
  rw [rn1_ok l at_ h]
  simp only
  rw [step_no l (at_ + 1) (by_ l at_) h2 (by omega)]
/-- no byte -/
theorem recM_nil (l : List UInt8) (h : l.length = 0) : (recM l 0).1 = 7 := by
  unfold recM
  simp only [rn1_no l 0 (by omega)]
  rw [if_neg (by simp)]
  have := fields_err (l := l) (J2 := hasB (countedM ((0 : Nat) : Int)) 2) (J4 := hasB (countedM ((0 : Nat) : Int)) 4) (J8 := hasB (countedM ((0 : Nat) : Int)) 8) (J16 := hasB (countedM ((0 : Nat) : Int)) 16) (p := (0, 7)) rfl
  rw [if_pos (by rw [this]; decide)]
  exact this
/-- no kind -/
theorem recM_kind (l : List UInt8) (h : 0 < l.length) (hk : by_ l 0 < 1 ∨ 4 < by_ l 0) : (recM l 0).1 = 150 := by
  unfold recM
  simp only [rn1_ok l 0 h]
  have hC : countedM (by_ l 0 : Int) = 0 := (counted_nought _).2 (by omega)
  simp [hC]
theorem recM_short (l : List UInt8) (C : Nat) (J2 J4 J8 J16 : Bool) (h : 0 < l.length) (hC : countedM (by_ l 0 : Int) = C) (hC0 : C ≠ 0) (h2 : hasB C 2 = J2) (h4 : hasB C 4 = J4) (h8 : hasB C 8 = J8) (h16 : hasB C 16 = J16) (hF : (fieldsM l J2 J4 J8 J16 (1, 0)).2.2 = 7) : (recM l 0).1 = 7 := by
  rw [recM_of l _ C J2 J4 J8 J16 _ _ (rn1_ok l 0 h) hC h2 h4 h8 h16 rfl]
  simp only [Nat.zero_add]
  rw [if_neg (fun hh => hC0 hh.2), if_pos (by rw [hF]; decide)]
  exact hF
theorem recM_whole (l : List UInt8) (C : Nat) (J2 J4 J8 J16 : Bool) (R : RM) (at_ : Nat) (h : 0 < l.length) (hC : countedM (by_ l 0 : Int) = C) (hC0 : C ≠ 0) (h2 : hasB C 2 = J2) (h4 : hasB C 4 = J4) (h8 : hasB C 8 = J8) (h16 : hasB C 16 = J16) (hF : fieldsM l J2 J4 J8 J16 (1, 0) = (R, (at_, 0))) :
    recM l 0 = if okM (kinded R (by_ l 0)) = true then (0, kinded R (by_ l 0), (at_, 0)) else (150, zeroR, (at_, 0)) := by
  rw [recM_of l _ C J2 J4 J8 J16 _ _ (rn1_ok l 0 h) hC h2 h4 h8 h16 (by simpa using hF)]
  simp only [Nat.zero_add]
  rw [if_neg (fun hh => hC0 hh.2), if_neg (by simp)]
/-- the three numbers -/
theorem three (l : List UInt8) (h : 25 ≤ l.length) : rn 8 l (1, 0) = (n8 l 1, (9, 0)) ∧ rn 8 l (9, 0) = (n8 l 9, (17, 0)) ∧ rn 8 l (17, 0) = (n8 l 17, (25, 0)) := ⟨rn8_ok l 1 (by omega), rn8_ok l 9 (by omega), rn8_ok l 17 (by omega)⟩
theorem short25 (l : List UInt8) (h : l.length < 25) (J2 J4 J8 J16 : Bool) : (fieldsM l J2 J4 J8 J16 (1, 0)).2.2 = 7 := by
  unfold fieldsM
  simp only
  refine nx_err (it_err (it_err (pl_err (pl_err ?_))))
  by_cases h1 : l.length < 9
  · exact rn_err (rn_err (rn8_no l 1 (by omega)))
  rw [rn8_ok l 1 (by omega)]
  by_cases h2 : l.length < 17
  · exact rn_err (rn8_no l 9 (by omega))
  simp only [Nat.reduceAdd]
  rw [rn8_ok l 9 (by omega)]
  exact rn8_no l 17 (by omega)

theorem pl_ok (l : List UInt8) (at_ : Nat) (h : at_ < l.length) : pl true l (at_, 0) = (by_ l at_, (at_ + 1, 0)) := rn1_ok l at_ h
theorem pl_no (l : List UInt8) (at_ : Nat) (h : l.length ≤ at_) : (pl true l (at_, 0)).2.2 = 7 := by
  show (rn 1 l (at_, 0)).2.2 = 7
  rw [rn1_no l at_ h]
/-- the places -/
theorem short28 (l : List UInt8) (h : 25 ≤ l.length) (h2 : l.length < 28) (J4 J16 : Bool) : (fieldsM l true J4 true J16 (1, 0)).2.2 = 7 := by
  obtain ⟨e1, e2, e3⟩ := three l h
  unfold fieldsM
  simp only [e1, e2, e3]
  by_cases h3 : l.length ≤ 25
  · exact nx_err (it_err (it_err (pl_err (pl_no l 25 h3))))
  rw [pl_ok l 25 (by omega)]
  by_cases h4 : l.length ≤ 26
  · exact nx_err (it_err (it_err (pl_no l 26 h4)))
  simp only [Nat.reduceAdd]
  rw [pl_ok l 26 (by omega)]
  refine nx_err ?_
  cases J4
  · exact rb_no1 l 27 (by omega)
  · exact it_err (rb_no1 l 27 (by omega))
theorem one_old (l : List UInt8) (h : 28 ≤ l.length) (h2 : l.length < 29 + by_ l 27) : (fieldsM l true true true false (1, 0)).2.2 = 7 := by
  obtain ⟨e1, e2, e3⟩ := three l (by omega)
  unfold fieldsM
  simp only [e1, e2, e3, pl_ok l 25 (by omega), Nat.reduceAdd, pl_ok l 26 (by omega)]
  refine nx_err ?_
  by_cases h3 : l.length < 28 + by_ l 27
  · exact it_err (rb_no2 l 27 (by omega) (by omega))
  · show (rb l (rb l (27, 0)).2).2.2 = 7
    rw [rb_ok l 27 (by omega) (by omega)]
    exact rb_no1 l _ (by omega)
theorem one_new (l : List UInt8) (h : 29 + by_ l 27 ≤ l.length) (h2 : l.length < 29 + by_ l 27 + by_ l (28 + by_ l 27)) : (fieldsM l true true true false (1, 0)).2.2 = 7 := by
  obtain ⟨e1, e2, e3⟩ := three l (by omega)
  unfold fieldsM
  simp only [e1, e2, e3, pl_ok l 25 (by omega), Nat.reduceAdd, pl_ok l 26 (by omega)]
  refine nx_err ?_
  show (rb l (rb l (27, 0)).2).2.2 = 7
  rw [rb_ok l 27 (by omega) (by omega)]
  exact rb_no2 l (28 + by_ l 27) (by omega) (by omega)
theorem one_whole (l : List UInt8) (h : 29 + by_ l 27 + by_ l (28 + by_ l 27) ≤ l.length) : fieldsM l true true true false (1, 0) =
    (⟨n8 l 1, 0, n8 l 9, n8 l 17, (by_ l 25 : Int), (by_ l 26 : Int), sl l 28 (by_ l 27), sl l (29 + by_ l 27) (by_ l (28 + by_ l 27)), 0⟩, (29 + by_ l 27 + by_ l (28 + by_ l 27), 0)) := by
  obtain ⟨e1, e2, e3⟩ := three l (by omega)
  unfold fieldsM
  simp only [e1, e2, e3, pl_ok l 25 (by omega), Nat.reduceAdd, pl_ok l 26 (by omega)]
  have h1 : it true l (27, 0) = (sl l 28 (by_ l 27), (28 + by_ l 27, 0)) := rb_ok l 27 (by omega) (by omega)
  have h2 : it true l (28 + by_ l 27, 0) = (sl l (28 + by_ l 27 + 1) (by_ l (28 + by_ l 27)), (28 + by_ l 27 + 1 + by_ l (28 + by_ l 27), 0)) := rb_ok l (28 + by_ l 27) (by omega) (by omega)
  rw [h1]
  simp only
  rw [h2]
  simp only [nx, Bool.false_eq_true, if_false]
  rw [show 28 + by_ l 27 + 1 = 29 + by_ l 27 from by omega]
theorem two_new (l : List UInt8) (h : 28 ≤ l.length) (h2 : l.length < 28 + by_ l 27) : (fieldsM l true false true true (1, 0)).2.2 = 7 := by
  obtain ⟨e1, e2, e3⟩ := three l (by omega)
  unfold fieldsM
  simp only [e1, e2, e3, pl_ok l 25 (by omega), Nat.reduceAdd, pl_ok l 26 (by omega)]
  exact nx_err (rb_no2 l 27 (by omega) (by omega))
theorem two_next (l : List UInt8) (h : 28 + by_ l 27 ≤ l.length) (h2 : l.length < 36 + by_ l 27) : (fieldsM l true false true true (1, 0)).2.2 = 7 := by
  obtain ⟨e1, e2, e3⟩ := three l (by omega)
  unfold fieldsM
  simp only [e1, e2, e3, pl_ok l 25 (by omega), Nat.reduceAdd, pl_ok l 26 (by omega)]
  show (rn 8 l (rb l (27, 0)).2).2.2 = 7
  rw [rb_ok l 27 (by omega) (by omega)]
  exact rn8_no l _ (by omega)
theorem two_whole (l : List UInt8) (h : 36 + by_ l 27 ≤ l.length) : fieldsM l true false true true (1, 0) =
    (⟨n8 l 1, 0, n8 l 9, n8 l 17, (by_ l 25 : Int), (by_ l 26 : Int), [], sl l 28 (by_ l 27), n8 l (28 + by_ l 27)⟩, (36 + by_ l 27, 0)) := by
  obtain ⟨e1, e2, e3⟩ := three l (by omega)
  unfold fieldsM
  simp only [e1, e2, e3, pl_ok l 25 (by omega), Nat.reduceAdd, pl_ok l 26 (by omega)]
  have h1 : it true l (27, 0) = (sl l 28 (by_ l 27), (28 + by_ l 27, 0)) := rb_ok l 27 (by omega) (by omega)
  have h2 : nx true l (28 + by_ l 27, 0) = (n8 l (28 + by_ l 27), (28 + by_ l 27 + 8, 0)) := rn8_ok l _ (by omega)
  simp only [it, Bool.false_eq_true, if_false] at h1 ⊢
  rw [h1]
  simp only
  rw [h2]
  rw [show 28 + by_ l 27 + 8 = 36 + by_ l 27 from by omega]
theorem no_more (l : List UInt8) (h : 25 ≤ l.length) : fieldsM l false false false false (1, 0) = (⟨n8 l 1, 0, n8 l 9, n8 l 17, 0, 0, [], [], 0⟩, (25, 0)) := by
  obtain ⟨e1, e2, e3⟩ := three l (by omega)
  unfold fieldsM
  simp only [e1, e2, e3, pl, it, nx, Bool.false_eq_true, if_false]
  rfl
end Go.Proofs.Ytnljhopikjkflaa.Rec
