/-
  The two Sames.
-/
import Derived.Test.YtnljhopikjkflaaRec2
namespace Go.Proofs.Ytnljhopikjkflaa.Rec
set_option maxRecDepth 100000
open Go.RowKit Go.Proofs.Ytnljhopikjkflaa.Wd Go.Proofs.Ytnljhopikjkflaa.Oct Go.Proofs.Ytnljhopikjkflaa.Dsk

/-- field by field the same -/
def sameB (a b : RM) : Bool := decide (a.lsn = b.lsn ∧ a.kind = b.kind ∧ a.txn = b.txn ∧ a.back = b.back ∧ a.page = b.page ∧ a.slot = b.slot ∧ a.next = b.next ∧ a.old = b.old ∧ a.new = b.new)
theorem same_iff (a b : RM) : sameB a b = true ↔ a = b := by
  cases a; cases b
  simp only [sameB, decide_eq_true_eq, RM.mk.injEq]
  constructor
  · rintro ⟨h1, h2, h3, h4, h5, h6, h7, h8, h9⟩; exact ⟨h1, h2, h3, h4, h5, h6, h8, h9, h7⟩
  · rintro ⟨h1, h2, h3, h4, h5, h6, h8, h9, h7⟩; exact ⟨h1, h2, h3, h4, h5, h6, h7, h8, h9⟩
set_option maxHeartbeats 4000000 in
theorem same_rec (r z : RM) (s y : RS) (B : Nat) (w : World) (h : RecAt w B r s) (hz : RecAt w B z y) (hB : B ≤ w.heap.size) : Calls Try.prog 12 #[.agg (rcs r s).toArray, .agg (rcs z y).toArray] w fun e w' => e = .returned (.bool (sameB r z)) ∧ Below w.heap.size w w' := by
  have HA := Lib.hid h
  have HZ := Lib.hid hz
  clear h hz
  unfold rcs sameB at *
  obtain ⟨lsn, kind, txn, back, page, slot, old, new, next⟩ := r
  obtain ⟨Ao, no, co, An, nn, cn⟩ := s
  obtain ⟨zlsn, zkind, ztxn, zback, zpage, zslot, zold, znew, znext⟩ := z
  obtain ⟨zAo, zno, zco, zAn, znn, zcn⟩ := y
  dsimp only at *
  generalize hVO : decide (old = zold) = VO
  generalize hVN : decide (new = znew) = VN
  have HVO := Lib.hid hVO
  have HVN := Lib.hid hVN
  clear hVO hVN
  go_enter Try.func12, Try.ntmps12
  go_wp2_with fail
  all_goals try (go_ret; have q1' := HVO.out; have q2' := HVN.out; clear HVO HVN; refine ⟨ret_bool ?_, (Below.refl _ _).alloc (Nat.le_refl _) _ |>.alloc (by simp) _⟩; first
                 | (refine (decide_eq_false ?_).symm; rintro ⟨h1, h2, h3, h4, h5, h6, h7, h8, h9⟩; first | omega | (simp_all; done))
                 | (rw [Bool.eq_iff_iff, decide_eq_true_iff]; simp_all; done)
                 | (rw [Bool.eq_iff_iff, decide_eq_true_iff]; simp_all; omega)
                 | (cases VO <;> cases VN <;> simp only [decide_eq_true_eq, decide_eq_false_iff_not] at q1' q2' <;> first | contradiction | (refine (decide_eq_false ?_).symm; rintro ⟨h1, h2, h3, h4, h5, h6, h7, h8, h9⟩; first | omega | exact q1' h8 | exact q2' h9) | (refine (decide_eq_true ?_).symm; exact ⟨by omega, by omega, by omega, by omega, by omega, by omega, by omega, q1', q2'⟩)))
  refine (equal_n Ao zAo old zold co zco no zno _ HA.out.lo HZ.out.lo (by have := HA.out.mo; simp only at this; omega) B B ((HA.out.bo.alloc hB _).alloc (by simp; omega) _) ((HZ.out.bo.alloc hB _).alloc (by simp; omega) _)).mono ?_
  rintro e w' ⟨rfl, rfl⟩
  rw [HVO.out]
  go_wp2_with fail
  all_goals try (go_ret; have q1' := HVO.out; have q2' := HVN.out; clear HVO HVN; refine ⟨ret_bool ?_, (Below.refl _ _).alloc (Nat.le_refl _) _ |>.alloc (by simp) _⟩; first
                 | (refine (decide_eq_false ?_).symm; rintro ⟨h1, h2, h3, h4, h5, h6, h7, h8, h9⟩; first | omega | (simp_all; done))
                 | (rw [Bool.eq_iff_iff, decide_eq_true_iff]; simp_all; done)
                 | (rw [Bool.eq_iff_iff, decide_eq_true_iff]; simp_all; omega)
                 | (cases VO <;> cases VN <;> simp only [decide_eq_true_eq, decide_eq_false_iff_not] at q1' q2' <;> first | contradiction | (refine (decide_eq_false ?_).symm; rintro ⟨h1, h2, h3, h4, h5, h6, h7, h8, h9⟩; first | omega | exact q1' h8 | exact q2' h9) | (refine (decide_eq_true ?_).symm; exact ⟨by omega, by omega, by omega, by omega, by omega, by omega, by omega, q1', q2'⟩)))
  refine (equal_n An zAn new znew cn zcn nn znn _ HA.out.ln HZ.out.ln (by have := HA.out.mn; simp only at this; omega) B B ((HA.out.bn.alloc hB _).alloc (by simp; omega) _) ((HZ.out.bn.alloc hB _).alloc (by simp; omega) _)).mono ?_
  rintro e w' ⟨rfl, rfl⟩
  rw [HVN.out]
  go_wp2
  all_goals (go_ret; have q1' := HVO.out; have q2' := HVN.out; clear HVO HVN; refine ⟨ret_bool ?_, (Below.refl _ _).alloc (Nat.le_refl _) _ |>.alloc (by simp) _⟩; first
                 | (refine (decide_eq_false ?_).symm; rintro ⟨h1, h2, h3, h4, h5, h6, h7, h8, h9⟩; first | omega | (simp_all; done))
                 | (rw [Bool.eq_iff_iff, decide_eq_true_iff]; simp_all; done)
                 | (rw [Bool.eq_iff_iff, decide_eq_true_iff]; simp_all; omega)
                 | (cases VO <;> cases VN <;> simp only [decide_eq_true_eq, decide_eq_false_iff_not] at q1' q2' <;> first | contradiction | (refine (decide_eq_false ?_).symm; rintro ⟨h1, h2, h3, h4, h5, h6, h7, h8, h9⟩; first | omega | exact q1' h8 | exact q2' h9) | (refine (decide_eq_true ?_).symm; exact ⟨by omega, by omega, by omega, by omega, by omega, by omega, by omega, q1', q2'⟩)))
set_option maxHeartbeats 4000000 in
theorem same_ref (r z : RM) (s y : RS) (B : Nat) (w : World) (h : RecAt w B r s) (hz : RecAt w B z y) (hB : B ≤ w.heap.size) : Calls Try.prog 14 #[.agg (rcs r s).toArray, .agg (rcs z y).toArray] w fun e w' => e = .returned (.bool (sameB r z)) ∧ Below w.heap.size w w' := by
  have HA := Lib.hid h
  have HZ := Lib.hid hz
  clear h hz
  unfold rcs sameB at *
  obtain ⟨lsn, kind, txn, back, page, slot, old, new, next⟩ := r
  obtain ⟨Ao, no, co, An, nn, cn⟩ := s
  obtain ⟨zlsn, zkind, ztxn, zback, zpage, zslot, zold, znew, znext⟩ := z
  obtain ⟨zAo, zno, zco, zAn, znn, zcn⟩ := y
  dsimp only at *
  generalize hVO : decide (old = zold) = VO
  generalize hVN : decide (new = znew) = VN
  have HVO := Lib.hid hVO
  have HVN := Lib.hid hVN
  clear hVO hVN
  go_enter Try.func14, Try.ntmps14
  go_wp2_with fail
  all_goals try (go_ret; have q1' := HVO.out; have q2' := HVN.out; clear HVO HVN; refine ⟨ret_bool ?_, (Below.refl _ _).alloc (Nat.le_refl _) _ |>.alloc (by simp) _⟩; first
                 | (refine (decide_eq_false ?_).symm; rintro ⟨h1, h2, h3, h4, h5, h6, h7, h8, h9⟩; first | omega | (simp_all; done))
                 | (rw [Bool.eq_iff_iff, decide_eq_true_iff]; simp_all; done)
                 | (rw [Bool.eq_iff_iff, decide_eq_true_iff]; simp_all; omega)
                 | (cases VO <;> cases VN <;> simp only [decide_eq_true_eq, decide_eq_false_iff_not] at q1' q2' <;> first | contradiction | (refine (decide_eq_false ?_).symm; rintro ⟨h1, h2, h3, h4, h5, h6, h7, h8, h9⟩; first | omega | exact q1' h8 | exact q2' h9) | (refine (decide_eq_true ?_).symm; exact ⟨by omega, by omega, by omega, by omega, by omega, by omega, by omega, q1', q2'⟩)))
  refine (same_n Ao zAo old zold co zco no zno _ HA.out.lo HZ.out.lo (by have := HA.out.mo; simp only at this; omega) B B ((HA.out.bo.alloc hB _).alloc (by simp; omega) _) ((HZ.out.bo.alloc hB _).alloc (by simp; omega) _)).mono ?_
  rintro e w' ⟨rfl, q1, rfl⟩
  rw [HVO.out]
  go_wp2_with fail
  all_goals try (go_ret; have q1' := HVO.out; have q2' := HVN.out; clear HVO HVN; refine ⟨ret_bool ?_, below_still ((Below.refl _ _).alloc (Nat.le_refl _) _ |>.alloc (by simp) _) ⟨q1, rfl⟩⟩; first
                 | (refine (decide_eq_false ?_).symm; rintro ⟨h1, h2, h3, h4, h5, h6, h7, h8, h9⟩; first | omega | (simp_all; done))
                 | (rw [Bool.eq_iff_iff, decide_eq_true_iff]; simp_all; done)
                 | (rw [Bool.eq_iff_iff, decide_eq_true_iff]; simp_all; omega)
                 | (cases VO <;> cases VN <;> simp only [decide_eq_true_eq, decide_eq_false_iff_not] at q1' q2' <;> first | contradiction | (refine (decide_eq_false ?_).symm; rintro ⟨h1, h2, h3, h4, h5, h6, h7, h8, h9⟩; first | omega | exact q1' h8 | exact q2' h9) | (refine (decide_eq_true ?_).symm; exact ⟨by omega, by omega, by omega, by omega, by omega, by omega, by omega, q1', q2'⟩)))
  refine (same_n An zAn new znew cn zcn nn znn _ HA.out.ln HZ.out.ln (by have := HA.out.mn; simp only at this; omega) B B (((HA.out.bn.alloc hB _).alloc (by simp; omega) _).drewN q1) (((HZ.out.bn.alloc hB _).alloc (by simp; omega) _).drewN q1)).mono ?_
  rintro e w' ⟨rfl, q2, rfl⟩
  rw [HVN.out]
  go_wp2
  all_goals (go_ret; have q1' := HVO.out; have q2' := HVN.out; clear HVO HVN; refine ⟨ret_bool ?_, below_still ((Below.refl _ _).alloc (Nat.le_refl _) _ |>.alloc (by simp) _) ⟨_, rfl⟩⟩; first
                 | (refine (decide_eq_false ?_).symm; rintro ⟨h1, h2, h3, h4, h5, h6, h7, h8, h9⟩; first | omega | (simp_all; done))
                 | (rw [Bool.eq_iff_iff, decide_eq_true_iff]; simp_all; done)
                 | (rw [Bool.eq_iff_iff, decide_eq_true_iff]; simp_all; omega)
                 | (cases VO <;> cases VN <;> simp only [decide_eq_true_eq, decide_eq_false_iff_not] at q1' q2' <;> first | contradiction | (refine (decide_eq_false ?_).symm; rintro ⟨h1, h2, h3, h4, h5, h6, h7, h8, h9⟩; first | omega | exact q1' h8 | exact q2' h9) | (refine (decide_eq_true ?_).symm; exact ⟨by omega, by omega, by omega, by omega, by omega, by omega, by omega, q1', q2'⟩)))
end Go.Proofs.Ytnljhopikjkflaa.Rec
