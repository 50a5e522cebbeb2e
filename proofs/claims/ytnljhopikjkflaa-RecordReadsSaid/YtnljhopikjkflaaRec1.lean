/-
  A record in memory; the calls that only look at one.
-/
import Derived.Test.YtnljhopikjkflaaRec0
import Derived.Test.YtnljhopikjkflaaRecW
namespace Go.Proofs.Ytnljhopikjkflaa.Rec
set_option maxRecDepth 100000
open Go.RowKit Go.Proofs.Ytnljhopikjkflaa.Wd Go.Proofs.Ytnljhopikjkflaa.Oct Go.Proofs.Ytnljhopikjkflaa.Dsk

/-- the slices s, below block B, read the bytes of r -/
structure RecAt (w : World) (B : Nat) (r : RM) (s : RS) : Prop where
  lo : r.old.length = s.no
  ln : r.new.length = s.nn
  mo : s.no ≤ 140737488351232
  mn : s.nn ≤ 140737488351232
  bo : Bs w B s.Ao r.old
  bn : Bs w B s.An r.new
  ao : s.Ao = none → s.co = 0
  an : s.An = none → s.cn = 0
theorem RecAt.below {w w' : World} {B : Nat} {r : RM} {s : RS} (h : RecAt w B r s) (hb : Below B w w') : RecAt w' B r s := ⟨h.lo, h.ln, h.mo, h.mn, h.bo.below hb, h.bn.below hb, h.ao, h.an⟩
theorem RecAt.more {w : World} {B B' : Nat} {r : RM} {s : RS} (h : RecAt w B r s) (hb : B ≤ B') : RecAt w B' r s := ⟨h.lo, h.ln, h.mo, h.mn, h.bo.more hb, h.bn.more hb, h.ao, h.an⟩
theorem RecAt.alloc {w : World} {B : Nat} {r : RM} {s : RS} (h : RecAt w B r s) (hb : B ≤ w.heap.size) (o : Obj) : RecAt (w.alloc o) B r s := ⟨h.lo, h.ln, h.mo, h.mn, h.bo.alloc hb o, h.bn.alloc hb o, h.ao, h.an⟩
/-- a record's cells -/
def rcs (r : RM) (s : RS) : List Value := [.int .u64 (r.lsn : Int), .int .i64 r.kind, .int .u64 (r.txn : Int), .int .u64 (r.back : Int), .int .i64 r.page, .int .i64 r.slot, .slice s.Ao s.no s.co, .slice s.An s.nn s.cn, .int .u64 (r.next : Int)]
theorem rcs_one {r : RM} {s : RS} : ∀ v ∈ rcs r s, v.oneCell' = true := by
  intro v hv
  simp only [rcs, List.mem_cons, List.not_mem_nil, or_false] at hv
  rcases hv with rfl | rfl | rfl | rfl | rfl | rfl | rfl | rfl | rfl <;> rfl
theorem rec_info : (Try.prog.info? 34).map (·.size) = some 9 := by kernel_rfl
theorem ok_arith (r : RM) (h : okM r = true) : (1 ≤ r.kind ∧ r.kind ≤ 4 ∧ r.lsn ≠ 0 ∧ r.txn ≠ 0 ∧ r.back < r.lsn ∧ r.next ≤ r.back) ∧ (0 ≤ r.page ∧ r.page ≤ 31 ∧ 0 ≤ r.slot ∧ r.slot ≤ 3 ∧ r.old.length ≤ 52 ∧ r.new.length ≤ 52) ∧
    ((r.kind = 1 → r.next = 0) ∧ (r.kind = 2 → r.old.length = 0) ∧ (2 < r.kind → r.page = 0 ∧ r.slot = 0 ∧ r.old.length = 0 ∧ r.new.length = 0 ∧ r.next = 0)) :=
  ⟨(ok_parts r h).1, (ok_parts r h).2.1, fun k => ((ok_parts r h).2.2.1 k).1, (ok_parts r h).2.2.2⟩
theorem ok_iff (r : RM) (hk : ¬ r.kind = 1) : okM r = true ↔ ((1 ≤ r.kind ∧ r.kind ≤ 4 ∧ r.lsn ≠ 0 ∧ r.txn ≠ 0 ∧ r.back < r.lsn ∧ r.next ≤ r.back) ∧ (0 ≤ r.page ∧ r.page ≤ 31 ∧ 0 ≤ r.slot ∧ r.slot ≤ 3 ∧ r.old.length ≤ 52 ∧ r.new.length ≤ 52) ∧
    ((r.kind = 2 → r.old.length = 0) ∧ (2 < r.kind → r.page = 0 ∧ r.slot = 0 ∧ r.old.length = 0 ∧ r.new.length = 0 ∧ r.next = 0))) :=
  ⟨fun h => ⟨(ok_parts r h).1, (ok_parts r h).2.1, (ok_parts r h).2.2.2⟩, fun h => ok_of r h.1 h.2.1 ⟨fun k => absurd k hk, h.2.2⟩⟩
theorem ok_ne (r : RM) (h : okM r = true) (hk : r.kind = 1) (e : r.old = r.new) : False := ((ok_parts r h).2.2.1 hk).2 e

set_option maxHeartbeats 1000000 in
theorem mayBe_any (r : RM) (s : RS) (B : Nat) (w : World) (h : RecAt w B r s) (hB : B ≤ w.heap.size) : Calls Try.prog 61 #[.agg (rcs r s).toArray] w fun e w' => e = .returned (.bool (okM r)) ∧ Below w.heap.size w w' := by
  have HF := fun (w : World) => filled_any r s w h.lo h.ln
  have HC := Lib.hid (fun (w : World) => counted_any r.kind w)
  have HN := Lib.hid (counted_nought r.kind)
  have HHF := Lib.hid (has_filled r)
  have HHB := Lib.hid (has_before r.kind)
  have HOA := Lib.hid (ok_arith r)
  have HON := Lib.hid (ok_ne r)
  have HOF := Lib.hid (ok_of r)
  have HLO := Lib.hid h.lo
  have HLN := Lib.hid h.ln
  obtain ⟨F, hFe⟩ : ∃ F, F = filledM r := ⟨_, rfl⟩
  obtain ⟨C, hCe⟩ : ∃ C, C = countedM r.kind := ⟨_, rfl⟩
  obtain ⟨K, hKe⟩ : ∃ K, K = okM r := ⟨_, rfl⟩
  obtain ⟨J, hJ⟩ : ∃ J, J = hasB C F := ⟨_, rfl⟩
  obtain ⟨J4, hJ4⟩ : ∃ J4, J4 = hasB C 4 := ⟨_, rfl⟩
  have HK := Lib.hid hKe
  rw [← hKe] at HOA HON HOF ⊢
  rw [← hFe, ← hCe, ← hJ] at HHF
  simp only [← hFe] at HF
  rw [← hCe] at HC HN HHB
  rw [← hJ4] at HHB
  have HJ : Hid (∀ w, Calls Try.prog 59 #[.int .u8 (C : Int), .int .u8 (F : Int)] w fun e w' => e = .returned (.bool J) ∧ w = w') := fun w => by rw [hJ]; exact has_any C F w
  have HJ4 : Hid (∀ w, Calls Try.prog 59 #[.int .u8 (C : Int), .int .u8 4] w fun e w' => e = .returned (.bool J4) ∧ w = w') := fun w => by rw [hJ4]; exact has_any C 4 w
  clear hFe hCe hKe hJ hJ4 HK
  have HHF' := Lib.hid HF
  clear HF
  have HA := Lib.hid h
  clear h
  unfold rcs at *
  obtain ⟨lsn, kind, txn, back, page, slot, old, new, next⟩ := r
  obtain ⟨Ao, no, co, An, nn, cn⟩ := s
  dsimp only at *
  go_enter Try.func61, Try.ntmps61
  go_wp2_with fail
  refine ((HC.out) _).mono ?_
  rintro e w' ⟨rfl, rfl⟩
  go_wp2_with fail
  all_goals try (go_ret; have q1 := HN.out; have q2 := HHF.out; have q3 := HHB.out.symm; have q4 := HLO.out; have q5 := HLN.out; have q6 := HOA.out; clear HN HHF HHB HLO HLN HOA HON HOF; refine ⟨ret_bool ?_, (Below.refl _ _).alloc (Nat.le_refl _) _⟩; cases K; · rfl
                 exfalso; have q7 := q6 rfl; clear q6; cases J <;> ((try simp only [beq_iff_eq] at *); (try simp only [beq_eq_false_iff_ne] at *); (try simp only [bne_iff_ne] at *); (try simp only [ne_eq] at *); (try simp only [decide_eq_true_eq] at *); (try simp only [decide_eq_false_iff_not] at *); (try simp only [Bool.not_eq_true] at *); (try simp only [Bool.not_eq_false] at *); (try simp only [Bool.not_eq_eq_eq_not] at *); (try simp only [Bool.not_true] at *); (try simp only [Bool.not_false] at *); (try simp only [Bool.not_eq_true'] at *); (try simp only [Bool.not_eq_false'] at *); (try simp only [reduceCtorEq] at *); (try simp only [false_iff] at *); (try simp only [true_iff] at *); (try simp only [iff_true] at *); (try simp only [iff_false] at *); (try simp only [not_true_eq_false] at *); (try simp only [not_false_eq_true] at *)) <;> omega)
  refine ((HHF'.out) _).mono ?_
  rintro e w1 ⟨rfl, hb1⟩
  go_wp2_with fail
  refine ((HJ.out) _).mono ?_
  rintro e w' ⟨rfl, rfl⟩
  have hr0 : Row (w.alloc (.cells #[.int .u64 (lsn : Int), .int .i64 kind, .int .u64 (txn : Int), .int .u64 (back : Int), .int .i64 page, .int .i64 slot, .slice Ao no co, .slice An nn cn, .int .u64 (next : Int)] 34)) w.heap.size 34 [.int .u64 (lsn : Int), .int .i64 kind, .int .u64 (txn : Int), .int .u64 (back : Int), .int .i64 page, .int .i64 slot, .slice Ao no co, .slice An nn cn, .int .u64 (next : Int)] := Row.new w _ _
  have hr1 : Row w1 w.heap.size 34 [.int .u64 (lsn : Int), .int .i64 kind, .int .u64 (txn : Int), .int .u64 (back : Int), .int .i64 page, .int .i64 slot, .slice Ao no co, .slice An nn cn, .int .u64 (next : Int)] := hr0.below hb1 (by simp)
  have hbel : Below w.heap.size w w1 := ((Below.refl _ _).alloc (Nat.le_refl _) _).trans (hb1.mono (by simp))
  clear hb1 hr0
  have HA1 := Lib.hid (HA.out.below (hbel.mono hB))
  have hc0 : w1.cell? ⟨w.heap.size, 0, none⟩ = some (.int .u64 (lsn : Int)) := hr1.cell 0
  have hc1 : w1.cell? ⟨w.heap.size, 1, none⟩ = some (.int .i64 kind) := hr1.cell 1
  have hc2 : w1.cell? ⟨w.heap.size, 2, none⟩ = some (.int .u64 (txn : Int)) := hr1.cell 2
  have hc3 : w1.cell? ⟨w.heap.size, 3, none⟩ = some (.int .u64 (back : Int)) := hr1.cell 3
  have hc4 : w1.cell? ⟨w.heap.size, 4, none⟩ = some (.int .i64 page) := hr1.cell 4
  have hc5 : w1.cell? ⟨w.heap.size, 5, none⟩ = some (.int .i64 slot) := hr1.cell 5
  have hc6 : w1.cell? ⟨w.heap.size, 6, none⟩ = some (.slice Ao no co) := hr1.cell 6
  have hc7 : w1.cell? ⟨w.heap.size, 7, none⟩ = some (.slice An nn cn) := hr1.cell 7
  have hc8 : w1.cell? ⟨w.heap.size, 8, none⟩ = some (.int .u64 (next : Int)) := hr1.cell 8
  clear hr1
  go_wp2_with fail
  all_goals try (go_ret; have q1 := HN.out; have q2 := HHF.out; have q3 := HHB.out.symm; have q4 := HLO.out; have q5 := HLN.out; have q6 := HOA.out; clear HN HHF HHB HLO HLN HOA HON HOF; refine ⟨ret_bool ?_, hbel⟩; cases K; · rfl
                 exfalso; have q7 := q6 rfl; clear q6; cases J <;> ((try simp only [beq_iff_eq] at *); (try simp only [beq_eq_false_iff_ne] at *); (try simp only [bne_iff_ne] at *); (try simp only [ne_eq] at *); (try simp only [decide_eq_true_eq] at *); (try simp only [decide_eq_false_iff_not] at *); (try simp only [Bool.not_eq_true] at *); (try simp only [Bool.not_eq_false] at *); (try simp only [Bool.not_eq_eq_eq_not] at *); (try simp only [Bool.not_true] at *); (try simp only [Bool.not_false] at *); (try simp only [Bool.not_eq_true'] at *); (try simp only [Bool.not_eq_false'] at *); (try simp only [reduceCtorEq] at *); (try simp only [false_iff] at *); (try simp only [true_iff] at *); (try simp only [iff_true] at *); (try simp only [iff_false] at *); (try simp only [not_true_eq_false] at *); (try simp only [not_false_eq_true] at *)) <;> omega)
  refine ((HJ4.out) _).mono ?_
  rintro e w' ⟨rfl, rfl⟩
  go_wp2_with fail
  · refine (equal_n Ao An old new co cn no nn w1 HLO.out HLN.out (by have := HA1.out.mo; simp only at this; omega) B B HA1.out.bo HA1.out.bn).mono ?_
    rintro e w' ⟨rfl, rfl⟩
    go_wp2_with fail
    go_ret
    have q1 := HN.out; have q2 := HHF.out; have q3 := HHB.out.symm; have q4 := HLO.out; have q5 := HLN.out; have q6 := HOF.out; have q7 := HON.out; clear HN HHF HHB HLO HLN HOA HON HOF
    refine ⟨ret_bool ?_, hbel⟩
    cases J
    · (try simp only [beq_iff_eq] at *); (try simp only [beq_eq_false_iff_ne] at *); (try simp only [bne_iff_ne] at *); (try simp only [ne_eq] at *); (try simp only [decide_eq_true_eq] at *); (try simp only [decide_eq_false_iff_not] at *); (try simp only [Bool.not_eq_true] at *); (try simp only [Bool.not_eq_false] at *); (try simp only [Bool.not_eq_eq_eq_not] at *); (try simp only [Bool.not_true] at *); (try simp only [Bool.not_false] at *); (try simp only [Bool.not_eq_true'] at *); (try simp only [Bool.not_eq_false'] at *); (try simp only [reduceCtorEq] at *); (try simp only [false_iff] at *); (try simp only [true_iff] at *); (try simp only [iff_true] at *); (try simp only [iff_false] at *); (try simp only [not_true_eq_false] at *); (try simp only [not_false_eq_true] at *)
    cases J4
    · (try simp only [beq_iff_eq] at *); (try simp only [beq_eq_false_iff_ne] at *); (try simp only [bne_iff_ne] at *); (try simp only [ne_eq] at *); (try simp only [decide_eq_true_eq] at *); (try simp only [decide_eq_false_iff_not] at *); (try simp only [Bool.not_eq_true] at *); (try simp only [Bool.not_eq_false] at *); (try simp only [Bool.not_eq_eq_eq_not] at *); (try simp only [Bool.not_true] at *); (try simp only [Bool.not_false] at *); (try simp only [Bool.not_eq_true'] at *); (try simp only [Bool.not_eq_false'] at *); (try simp only [reduceCtorEq] at *); (try simp only [false_iff] at *); (try simp only [true_iff] at *); (try simp only [iff_true] at *); (try simp only [iff_false] at *); (try simp only [not_true_eq_false] at *); (try simp only [not_false_eq_true] at *)
    (try simp only [beq_iff_eq] at *); (try simp only [beq_eq_false_iff_ne] at *); (try simp only [bne_iff_ne] at *); (try simp only [ne_eq] at *); (try simp only [decide_eq_true_eq] at *); (try simp only [decide_eq_false_iff_not] at *); (try simp only [Bool.not_eq_true] at *); (try simp only [Bool.not_eq_false] at *); (try simp only [Bool.not_eq_eq_eq_not] at *); (try simp only [Bool.not_true] at *); (try simp only [Bool.not_false] at *); (try simp only [Bool.not_eq_true'] at *); (try simp only [Bool.not_eq_false'] at *); (try simp only [reduceCtorEq] at *); (try simp only [false_iff] at *); (try simp only [true_iff] at *); (try simp only [iff_true] at *); (try simp only [iff_false] at *); (try simp only [not_true_eq_false] at *); (try simp only [not_false_eq_true] at *)
    by_cases hne : old = new
    · cases K
      · simpa using hne
      · exact (q7 rfl (by omega) hne).elim
    · rw [q6 (by omega) (by omega) ⟨fun _ => ⟨by omega, hne⟩, by omega, by omega⟩]
      simpa using hne
  · go_ret
    have q1 := HN.out; have q2 := HHF.out; have q3 := HHB.out.symm; have q4 := HLO.out; have q5 := HLN.out; have q6 := HOF.out; have q7 := HON.out; clear HN HHF HHB HLO HLN HOA HON HOF
    refine ⟨ret_bool ?_, hbel⟩
    cases J
    · (try simp only [beq_iff_eq] at *); (try simp only [beq_eq_false_iff_ne] at *); (try simp only [bne_iff_ne] at *); (try simp only [ne_eq] at *); (try simp only [decide_eq_true_eq] at *); (try simp only [decide_eq_false_iff_not] at *); (try simp only [Bool.not_eq_true] at *); (try simp only [Bool.not_eq_false] at *); (try simp only [Bool.not_eq_eq_eq_not] at *); (try simp only [Bool.not_true] at *); (try simp only [Bool.not_false] at *); (try simp only [Bool.not_eq_true'] at *); (try simp only [Bool.not_eq_false'] at *); (try simp only [reduceCtorEq] at *); (try simp only [false_iff] at *); (try simp only [true_iff] at *); (try simp only [iff_true] at *); (try simp only [iff_false] at *); (try simp only [not_true_eq_false] at *); (try simp only [not_false_eq_true] at *)
    cases J4
    · (try simp only [beq_iff_eq] at *); (try simp only [beq_eq_false_iff_ne] at *); (try simp only [bne_iff_ne] at *); (try simp only [ne_eq] at *); (try simp only [decide_eq_true_eq] at *); (try simp only [decide_eq_false_iff_not] at *); (try simp only [Bool.not_eq_true] at *); (try simp only [Bool.not_eq_false] at *); (try simp only [Bool.not_eq_eq_eq_not] at *); (try simp only [Bool.not_true] at *); (try simp only [Bool.not_false] at *); (try simp only [Bool.not_eq_true'] at *); (try simp only [Bool.not_eq_false'] at *); (try simp only [reduceCtorEq] at *); (try simp only [false_iff] at *); (try simp only [true_iff] at *); (try simp only [iff_true] at *); (try simp only [iff_false] at *); (try simp only [not_true_eq_false] at *); (try simp only [not_false_eq_true] at *)
      rw [q6 (by omega) (by omega) ⟨fun _ => by omega, by omega, by omega⟩]
    · (try simp only [beq_iff_eq] at *); (try simp only [beq_eq_false_iff_ne] at *); (try simp only [bne_iff_ne] at *); (try simp only [ne_eq] at *); (try simp only [decide_eq_true_eq] at *); (try simp only [decide_eq_false_iff_not] at *); (try simp only [Bool.not_eq_true] at *); (try simp only [Bool.not_eq_false] at *); (try simp only [Bool.not_eq_eq_eq_not] at *); (try simp only [Bool.not_true] at *); (try simp only [Bool.not_false] at *); (try simp only [Bool.not_eq_true'] at *); (try simp only [Bool.not_eq_false'] at *); (try simp only [reduceCtorEq] at *); (try simp only [false_iff] at *); (try simp only [true_iff] at *); (try simp only [iff_true] at *); (try simp only [iff_false] at *); (try simp only [not_true_eq_false] at *); (try simp only [not_false_eq_true] at *)
end Go.Proofs.Ytnljhopikjkflaa.Rec
