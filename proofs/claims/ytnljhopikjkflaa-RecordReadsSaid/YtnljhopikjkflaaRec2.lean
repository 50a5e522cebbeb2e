/-
  Check, the reference's Right, the two Sames.
-/
import Derived.Test.YtnljhopikjkflaaRec1
namespace Go.Proofs.Ytnljhopikjkflaa.Rec
set_option maxRecDepth 100000
open Go.RowKit Go.Proofs.Ytnljhopikjkflaa.Wd Go.Proofs.Ytnljhopikjkflaa.Oct Go.Proofs.Ytnljhopikjkflaa.Dsk

theorem check_any (r : RM) (s : RS) (B : Nat) (w : World) (h : RecAt w B r s) (hB : B ≤ w.heap.size) : Calls Try.prog 54 #[.agg (rcs r s).toArray] w fun e w' => e = .returned (.int .i64 (if okM r then 0 else 150)) ∧ Below w.heap.size w w' := by
  obtain ⟨K, hKe⟩ : ∃ K, K = okM r := ⟨_, rfl⟩
  have HM := fun (w : World) (h : RecAt w B r s) (hB : B ≤ w.heap.size) => mayBe_any r s B w h hB
  simp only [← hKe] at HM ⊢
  have HHM := Lib.hid HM
  clear HM hKe
  have HA := Lib.hid h
  clear h
  unfold rcs at *
  obtain ⟨lsn, kind, txn, back, page, slot, old, new, next⟩ := r
  obtain ⟨Ao, no, co, An, nn, cn⟩ := s
  dsimp only at *
  go_enter Try.func54, Try.ntmps54
  have hbel : Below w.heap.size w (w.alloc (.cells #[.int .u64 (lsn : Int), .int .i64 kind, .int .u64 (txn : Int), .int .u64 (back : Int), .int .i64 page, .int .i64 slot, .slice Ao no co, .slice An nn cn, .int .u64 (next : Int)] 34)) := (Below.refl _ _).alloc (Nat.le_refl _) _
  have HA1 := Lib.hid (HA.out.alloc hB (.cells #[.int .u64 (lsn : Int), .int .i64 kind, .int .u64 (txn : Int), .int .u64 (back : Int), .int .i64 page, .int .i64 slot, .slice Ao no co, .slice An nn cn, .int .u64 (next : Int)] 34))
  go_wp2_with fail
  refine ((HHM.out) _ HA1.out (by simp; omega)).mono ?_
  rintro e w1 ⟨rfl, hb1⟩
  go_wp2
  all_goals (go_ret; cases K <;> first | contradiction | exact ⟨rfl, hbel.trans (hb1.mono (by simp))⟩)

set_option maxHeartbeats 2000000 in
theorem right_any (r : RM) (s : RS) (B : Nat) (w : World) (h : RecAt w B r s) (hB : B ≤ w.heap.size) : Calls Try.prog 34 #[.agg (rcs r s).toArray] w fun e w' => e = .returned (.bool (okM r)) ∧ Below w.heap.size w w' := by
  have HOI := Lib.hid (ok_iff r)
  have HOA := Lib.hid (ok_arith r)
  have HON := Lib.hid (ok_ne r)
  have HOF := Lib.hid (ok_of r)
  have HLO := Lib.hid h.lo
  have HLN := Lib.hid h.ln
  obtain ⟨K, hKe⟩ : ∃ K, K = okM r := ⟨_, rfl⟩
  rw [← hKe] at HOA HON HOF HOI ⊢
  clear hKe
  have HA := Lib.hid h
  clear h
  unfold rcs at *
  obtain ⟨lsn, kind, txn, back, page, slot, old, new, next⟩ := r
  obtain ⟨Ao, no, co, An, nn, cn⟩ := s
  dsimp only at *
  go_enter Try.func34, Try.ntmps34
  go_wp2_with fail
  all_goals try (go_ret; have q4 := HLO.out; have q3 := HLN.out; have q6 := HOA.out; have q8 := HOI.out; have q5 := HON.out; have q9 := HOF.out; clear HLO HLN HOA HOI HON HOF; refine ⟨ret_bool ?_, (Below.refl _ _).alloc (Nat.le_refl _) _⟩; ((try simp only [beq_iff_eq] at *); (try simp only [beq_eq_false_iff_ne] at *); (try simp only [bne_iff_ne] at *); (try simp only [ne_eq] at *); (try simp only [decide_eq_true_eq] at *); (try simp only [decide_eq_false_iff_not] at *); (try simp only [Bool.not_eq_true] at *); (try simp only [Bool.not_eq_false] at *); (try simp only [Bool.not_eq_eq_eq_not] at *); (try simp only [Bool.not_true] at *); (try simp only [Bool.not_false] at *); (try simp only [Bool.not_eq_true'] at *); (try simp only [Bool.not_eq_false'] at *); (try simp only [reduceCtorEq] at *); (try simp only [false_iff] at *); (try simp only [true_iff] at *); (try simp only [iff_true] at *); (try simp only [iff_false] at *); (try simp only [not_true_eq_false] at *); (try simp only [not_false_eq_true] at *)); cases K; · rfl
                 exfalso; have q7 := q6 rfl; omega)
  all_goals try (go_ret; have q4 := HLO.out; have q3 := HLN.out; have q6 := HOA.out; have q8 := HOI.out; have q5 := HON.out; have q9 := HOF.out; clear HLO HLN HOA HOI HON HOF; refine ⟨ret_bool ?_, (Below.refl _ _).alloc (Nat.le_refl _) _⟩; ((try simp only [beq_iff_eq] at *); (try simp only [beq_eq_false_iff_ne] at *); (try simp only [bne_iff_ne] at *); (try simp only [ne_eq] at *); (try simp only [decide_eq_true_eq] at *); (try simp only [decide_eq_false_iff_not] at *); (try simp only [Bool.not_eq_true] at *); (try simp only [Bool.not_eq_false] at *); (try simp only [Bool.not_eq_eq_eq_not] at *); (try simp only [Bool.not_true] at *); (try simp only [Bool.not_false] at *); (try simp only [Bool.not_eq_true'] at *); (try simp only [Bool.not_eq_false'] at *); (try simp only [reduceCtorEq] at *); (try simp only [false_iff] at *); (try simp only [true_iff] at *); (try simp only [iff_true] at *); (try simp only [iff_false] at *); (try simp only [not_true_eq_false] at *); (try simp only [not_false_eq_true] at *)); rw [Bool.eq_iff_iff, q8 (by omega)]; simp only [beq_iff_eq, decide_eq_true_eq, reduceCtorEq, false_iff, true_iff]; omega)
  refine (same_n Ao An old new co cn no nn _ HLO.out HLN.out (by have := HA.out.mo; simp only at this; omega) B B (HA.out.bo.alloc hB _) (HA.out.bn.alloc hB _)).mono ?_
  rintro e w' ⟨rfl, q, rfl⟩
  go_wp2
  go_ret
  have q4 := HLO.out; have q3 := HLN.out; have q6 := HOA.out; have q8 := HOI.out; have q5 := HON.out; have q9 := HOF.out; clear HLO HLN HOA HOI HON HOF
  refine ⟨ret_bool ?_, below_still ((Below.refl _ _).alloc (Nat.le_refl _) _) ⟨q, rfl⟩⟩
  (try simp only [beq_iff_eq] at *); (try simp only [beq_eq_false_iff_ne] at *); (try simp only [bne_iff_ne] at *); (try simp only [ne_eq] at *); (try simp only [decide_eq_true_eq] at *); (try simp only [decide_eq_false_iff_not] at *); (try simp only [Bool.not_eq_true] at *); (try simp only [Bool.not_eq_false] at *); (try simp only [Bool.not_eq_eq_eq_not] at *); (try simp only [Bool.not_true] at *); (try simp only [Bool.not_false] at *); (try simp only [Bool.not_eq_true'] at *); (try simp only [Bool.not_eq_false'] at *); (try simp only [reduceCtorEq] at *); (try simp only [false_iff] at *); (try simp only [true_iff] at *); (try simp only [iff_true] at *); (try simp only [iff_false] at *); (try simp only [not_true_eq_false] at *); (try simp only [not_false_eq_true] at *)
  by_cases hne : old = new
  · cases K
    · simpa using hne
    · exact (q5 rfl (by omega) hne).elim
  · rw [q9 (by omega) (by omega) ⟨fun _ => ⟨by omega, hne⟩, by omega, by omega⟩]
    simpa using hne
end Go.Proofs.Ytnljhopikjkflaa.Rec
