/-
  Rows of records in memory; large.
-/
import Derived.Test.YtnljhopikjkflaaRec11
namespace Go.Proofs.Ytnljhopikjkflaa.Rec
set_option maxRecDepth 100000
open Go.RowKit Go.Proofs.Ytnljhopikjkflaa.Wd Go.Proofs.Ytnljhopikjkflaa.Oct Go.Proofs.Ytnljhopikjkflaa.Dsk

/-- The address A, with as many records as xs has, reads xs; it and all that they hold lie below block B. -/
def Rl (w : World) (B : Nat) (A : Option Addr) (xs : List (RM × RS)) : Prop :=
  (0 < xs.length → ∃ b o, A = some ⟨b, o, none⟩ ∧ b < B ∧ ∀ i x, xs[i]? = some x → w.rangeAt b (o + i * 9) (rcs x.1 x.2)) ∧ ∀ x ∈ xs, RecAt w B x.1 x.2
theorem Rl.below {w w' : World} {B : Nat} {A : Option Addr} {xs : List (RM × RS)} (h : Rl w B A xs) (hb : Below B w w') : Rl w' B A xs :=
  ⟨fun hp => by
    obtain ⟨b, o, e, hlt, hc⟩ := h.1 hp
    exact ⟨b, o, e, hlt, fun i x hx j v hj => (hb.cell (p := ⟨b, o + i * 9 + j, none⟩) hlt).trans (hc i x hx j v hj)⟩, fun x hx => (h.2 x hx).below hb⟩
theorem Rl.more {w : World} {B B' : Nat} {A : Option Addr} {xs : List (RM × RS)} (h : Rl w B A xs) (hb : B ≤ B') : Rl w B' A xs :=
  ⟨fun hp => by
    obtain ⟨b, o, e, hlt, hc⟩ := h.1 hp
    exact ⟨b, o, e, by omega, hc⟩, fun x hx => (h.2 x hx).more hb⟩
/-- one record that was laid in a block of its own -/
theorem Rl.one {w : World} {B g : Nat} {t : TypeId} {r : RM} {s : RS} (h : Row w g t (rcs r s)) (hg : g < B) (hr : RecAt w B r s) : Rl w B (some ⟨g, 0, none⟩) [(r, s)] :=
  ⟨fun _ => ⟨g, 0, rfl, hg, fun i x hx => by
    match i, hx with
    | 0, hx => cases hx; exact Row.all h⟩, fun x hx => by simp only [List.mem_singleton] at hx; subst hx; exact hr⟩
/-- more than is gone through -/
def bigR (r : RM) : Bool := decide (1000 < r.old.length) || decide (1000 < r.new.length)
def largeM (rs : List RM) : Bool := decide (200 < rs.length) || rs.any bigR

set_option maxHeartbeats 2000000 in
theorem large_any (A : Option Addr) (n c : Nat) (xs : List (RM × RS)) (w : World) (hn : xs.length = n) (hR : Rl w w.heap.size A xs) :
    Calls Try.prog 8 #[.slice A n c] w fun e w' => e = .returned (.bool (largeM (xs.map (·.1)))) ∧ Below w.heap.size w w' := by
  have HN := Lib.hid hn
  have HR := Lib.hid hR
  have HM : Hid (∀ b, (b = true ↔ (200 < xs.length ∨ ∃ x ∈ xs, 1000 < x.2.no ∨ 1000 < x.2.nn)) → b = largeM (xs.map (·.1))) := fun b hb => by
    rw [Bool.eq_iff_iff, hb]
    simp only [largeM, bigR, Bool.or_eq_true, decide_eq_true_eq, List.length_map, List.any_map, List.any_eq_true, Function.comp]
    constructor
    · rintro (h | ⟨x, hx, h⟩)
      · exact .inl h
      · exact .inr ⟨x, hx, by rw [(hR.2 x hx).lo, (hR.2 x hx).ln]; exact h⟩
    · rintro (h | ⟨x, hx, h⟩)
      · exact .inl h
      · exact .inr ⟨x, hx, by rw [(hR.2 x hx).lo, (hR.2 x hx).ln] at h; exact h⟩
  generalize largeM (xs.map (·.1)) = M at HM ⊢
  clear hR hn
  go_enter Try.func8, Try.ntmps8
  by_cases h200 : 200 < n
  · go_wp2
    go_ret
    exact ⟨ret_bool (HM.out true (by simp only [true_iff]; exact .inl (by rw [HN.out]; exact h200))), Below.refl _ _⟩
  go_wp2
  go_loopw [10] (fun t10 wr => ∃ k : Nat, k ≤ n ∧ t10 = .int .i64 k ∧ Below w.heap.size w wr ∧ Hid (∀ j x, j < k → xs[j]? = some x → ¬ (1000 < x.2.no ∨ 1000 < x.2.nn))) (fun t10 _ => n - (intOf t10).toNat)
  case atStart => exact ⟨0, by omega, rfl, Below.refl _ _, fun j x hj => by omega⟩
  case round =>
    obtain ⟨k, hk, rfl, hbel, hseen⟩ := hrel
    by_cases hlt : k < n
    · obtain ⟨x, hx⟩ : ∃ x, xs[k]? = some x := ⟨_, List.getElem?_eq_getElem (by rw [HN.out]; exact hlt)⟩
      have HX := Lib.hid hx
      obtain ⟨b, o, rfl, hblt, hc⟩ := HR.out.1 (by rw [HN.out]; omega)
      have HC : Hid (wr.rangeAt b (o + k * 9) [.int .u64 (x.1.lsn : Int), .int .i64 x.1.kind, .int .u64 (x.1.txn : Int), .int .u64 (x.1.back : Int), .int .i64 x.1.page, .int .i64 x.1.slot, .slice x.2.Ao x.2.no x.2.co, .slice x.2.An x.2.nn x.2.cn, .int .u64 (x.1.next : Int)]) := fun j v hj => (hbel.cell (p := ⟨b, o + k * 9 + j, none⟩) hblt).trans (hc k x hx j v hj)
      have HI := Lib.hid (show (Try.prog.info? 34).map (·.size) = some ([.int .u64 (x.1.lsn : Int), .int .i64 x.1.kind, .int .u64 (x.1.txn : Int), .int .u64 (x.1.back : Int), .int .i64 x.1.page, .int .i64 x.1.slot, .slice x.2.Ao x.2.no x.2.co, .slice x.2.An x.2.nn x.2.cn, .int .u64 (x.1.next : Int)] : List Value).length from rec_info)
      clear hc hx
      go_wp2_with (with_reducible refine wpList_load_row (op := ⟨some 13, _, _, _, _, _⟩) ?_ 34 (.tmp 12) ?_ b (o + k * 9) ?_ [.int .u64 (x.1.lsn : Int), .int .i64 x.1.kind, .int .u64 (x.1.txn : Int), .int .u64 (x.1.back : Int), .int .i64 x.1.page, .int .i64 x.1.slot, .slice x.2.Ao x.2.no x.2.co, .slice x.2.An x.2.nn x.2.cn, .int .u64 (x.1.next : Int)] _ HC.out Try.underlying34 ?_ HI.out ?_)
      all_goals try (first | rfl | (simp; done))
      · go_ret
        exact ⟨ret_bool (HM.out true (by simp only [true_iff]; exact .inr ⟨x, List.mem_of_getElem? HX.out, by omega⟩)), hbel.alloc hbel.size _⟩
      · go_roundw
        case rel =>
          refine ⟨k + 1, by omega, by go_num, hbel.alloc hbel.size _, fun j y hj hy => ?_⟩
          by_cases hjk : j < k
          · exact hseen.out j y hjk hy
          · obtain rfl : j = k := by omega
            rw [HX.out] at hy
            cases hy
            omega
        case measure => simp [intOf]; omega
      · go_ret
        exact ⟨ret_bool (HM.out true (by simp only [true_iff]; exact .inr ⟨x, List.mem_of_getElem? HX.out, by omega⟩)), hbel.alloc hbel.size _⟩
    · obtain rfl : k = n := by omega
      go_wp2
      go_ret
      refine ⟨ret_bool (HM.out false ?_), hbel⟩
      simp only [Bool.false_eq_true, false_iff, not_or, not_exists, not_and]
      refine ⟨by rw [HN.out]; exact h200, fun x hx => ?_⟩
      obtain ⟨j, hj⟩ := List.mem_iff_getElem?.1 hx
      have := hseen.out j x (by rw [← HN.out]; exact (List.getElem?_eq_some_iff.1 hj).1) hj
      omega
end Go.Proofs.Ytnljhopikjkflaa.Rec
