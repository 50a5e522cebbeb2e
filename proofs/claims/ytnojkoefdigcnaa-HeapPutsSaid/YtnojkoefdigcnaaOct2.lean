/-
  The contracts of the octet functions that make bytes.
-/
import Derived.Test.YtnojkoefdigcnaaRows
import Derived.Test.YtnojkoefdigcnaaWords
import Derived.Deep.QuietTactic
import Derived.BigQuiet
namespace Go.Proofs.Ytnojkoefdigcnaa.Oct
set_option maxRecDepth 100000
open Go.RowKit Go.Proofs.Ytnojkoefdigcnaa.Wd

theorem info5 : (Try.prog.info? 5).map (fun i => (i.zero, i.size, i.bytes)) = some (some (.int .u8 0), 1, 1) := by kernel_rfl

theorem size5 : (Try.prog.info? 5).map (·.size) = some 1 := by kernel_rfl

set_option maxHeartbeats 400000 in
theorem put_any (A : Option Addr) (l : List UInt8) (c n k : Nat) (x : Nat) (w : World) (h1 : n = l.length) (hm : n ≤ 140737488355328) (hk : 0 < k) (hk8 : k ≤ 8) (r : Bs w w.heap.size A l) :
    Calls Try.prog 52 #[.slice A n c, .int .u64 (x : Int), .int .i64 (k : Int)] w fun e w' =>
      ∃ g, e = .returned (.slice (some ⟨g, 0, none⟩) (n + k) (n + k)) ∧ w.heap.size ≤ g ∧ Row w' g 5 (bv (l ++ hi k x)) ∧ Below w.heap.size w w' := by
  have hmk : ∀ u : World, (Instr.makeSlice 31 (.int .i64 ((n : Int) + (k : Int))) (.int .i64 ((n : Int) + (k : Int)))).run Try.prog u = .ok (.slice (some ⟨u.heap.size, 0, none⟩) (n + k) (n + k)) (u.alloc (.cells (madeCells #[.int .u8 0] (n + k)) 5)) := fun u => by
    have := run_make_row' (P := Try.prog) 31 5 (.int .u8 0) 1 Try.underlying31 info5 rfl .i64 .i64 (n + k) (by omega) (by omega) u
    simpa using this
  have H1 := Lib.hid h1; clear h1
  go_enter Try.func52, Try.ntmps52
  go_wp2_with (refine wpList_copy_bs (o := ⟨some 16, _, _, _, _, _⟩) rfl (.tmp 14) (.tmp 15) 31 31 rfl 5 Try.underlying31 size5 w.heap.size 0 (n + k) (n + k) A l n c (by rfl) (by rfl) (by exact H1.out.symm) (List.replicate (n + k) (.int .u8 0)) 5 (by exact Row.made w _ _ _) w.heap.size (by exact r.alloc (Nat.le_refl _) _) (by omega) (by simp) ?_; intro w2 hr2 hg2)
  have hb2 : Below w.heap.size w w2 := ((Below.refl _ _).alloc (Nat.le_refl _) _).grown hg2 (by simp) (fun k hk => by simp at hk; omega)
  clear hg2
  go_loopw [1, 8] (fun x1 i wr => ∃ (j y : Nat) (q : Int), j ≤ k ∧ i = .int .i64 q ∧ x1 = .int .u64 (y : Int) ∧ Hid (q = (n : Int) + k - 1 - j) ∧ Hid (y = x / 256 ^ j) ∧ Row wr w.heap.size 5 (bv (l ++ List.replicate (k - j) 0 ++ hi j x)) ∧ Below w.heap.size w wr) (fun _ i _ => (intOf i + 1).toNat)
  case atStart =>
    refine ⟨0, x, (n : Int) + k - 1, by omega, rfl, rfl, (show _ = _ by simp), (show _ = _ by simp), ?_, hb2⟩
    have : splice (List.replicate (n + k) (Value.int .u8 0)) 0 (bv l) = bv (l ++ List.replicate (k - 0) 0 ++ hi 0 x) := by
      simp only [splice, hi, List.append_nil, bv_append, List.take_zero, List.nil_append, Nat.zero_add, bv_length, ← H1.out, Nat.sub_zero, ← bv_zero]
      rw [List.drop_replicate, Nat.add_sub_cancel_left]
    rw [← this]; exact hr2
  case round =>
    obtain ⟨j, y, q, hj, rfl, rfl, hq, hy, hrow, hbel⟩ := hrel
    clear hr2 hb2
    by_cases hlt : j < k
    · obtain ⟨p, hp⟩ : ∃ p : Nat, q = (p : Int) := ⟨q.toNat, by have := hq.out; omega⟩
      subst hp
      have hp1 : n ≤ p := by have := hq.out; omega
      have hp2 : p < n + k := by have := hq.out; omega
      have hpe : Hid (p = n + (k - j - 1)) := (show _ = _ by have := hq.out; omega)
      clear hq
      have hcell : wr.cell? ⟨w.heap.size, p, none⟩ = some (.int .u8 0) := by
        rw [hrow.cell, hpe.out]
        have e1 : (l ++ List.replicate (k - j) 0 ++ hi j x)[n + (k - j - 1)]? = some (0 : UInt8) := by
          rw [List.append_assoc, List.getElem?_append_right (by rw [← H1.out]; omega), ← H1.out, Nat.add_sub_cancel_left, List.getElem?_append_left (by simp; omega)]
          rw [List.getElem?_replicate, if_pos (by omega)]
        rw [show (bv (l ++ List.replicate (k - j) 0 ++ hi j x))[n + (k - j - 1)]? = ((l ++ List.replicate (k - j) 0 ++ hi j x)[n + (k - j - 1)]?).map (fun b => Value.int .u8 (b.toNat : Int)) from by simp only [bv, List.getElem?_map], e1]; rfl
      have hfr := hrow.frozen p
      go_wp2
      go_roundw
      case rel =>
        refine ⟨j + 1, y / 256, (p : Int) - 1, by omega, rfl, by simp, ?_, ?_, ?_, hbel.setCell (Nat.le_refl _) _⟩
        · show _ = _
          have := hpe.out; omega
        · show _ = _
          rw [hy.out, Nat.div_div_eq_div_mul, Nat.pow_succ]
        · have h3 := hrow.store p (.int .u8 ((y : Int) % 256))
          rw [bv_set, hpe.out, H1.out, show k - j = k - j - 1 + 1 from by omega, Nat.add_sub_cancel, set_mid, hy.out] at h3
          rw [hpe.out, H1.out, show k - (j + 1) = k - j - 1 from by omega, hy.out]
          exact h3
      case measure => simp [intOf]
    · obtain rfl : j = k := by omega
      have hq2 : q < (n : Int) := by have := hq.out; omega
      have hrow2 : Row wr w.heap.size 5 (bv (l ++ hi j x)) := by simpa using hrow
      clear hq
      go_wp2
      go_ret
      exact ⟨_, rfl, Nat.le_refl _, hrow2, hbel⟩

/-- what a function that makes a new row of bytes leaves -/
def Made (w : World) (l : List UInt8) (e : Ending) (w' : World) : Prop :=
  ∃ g n, e = .returned (.slice (some ⟨g, 0, none⟩) n n) ∧ Hid (l.length = n) ∧ w.heap.size ≤ g ∧ Row w' g 5 (bv l) ∧ Below w.heap.size w w'

theorem put_made (A : Option Addr) (l : List UInt8) (c n k : Nat) (x : Nat) (w : World) (h1 : n = l.length) (hm : n ≤ 140737488355328) (hk : 0 < k) (hk8 : k ≤ 8) (r : Bs w w.heap.size A l) :
    Calls Try.prog 52 #[.slice A n c, .int .u64 (x : Int), .int .i64 (k : Int)] w (Made w (l ++ hi k x)) := by
  refine (put_any A l c n k x w h1 hm hk hk8 r).mono ?_
  rintro e w' ⟨g, rfl, hg, hr, hb⟩
  exact ⟨g, n + k, rfl, (show _ = _ by rw [List.length_append, hi_length, h1]), hg, hr, hb⟩

theorem put32_any (A : Option Addr) (l : List UInt8) (c n : Nat) (x : Nat) (w : World) (h1 : n = l.length) (hm : n ≤ 140737488355328) (hx : (x : Int) < 4294967296) (r : Bs w w.heap.size A l) :
    Calls Try.prog 31 #[.slice A n c, .int .u32 (x : Int)] w (Made w (l ++ hi 4 x)) := by
  have HC := put_made A l c n 4 x w h1 hm (by omega) (by omega) r
  rw [show ((4 : Nat) : Int) = 4 from rfl] at HC
  have H := Lib.hid HC
  clear HC h1
  go_enter Try.func31, Try.ntmps31
  go_wp2_with fail
  refine (H.out).mono ?_
  rintro e w' ⟨g, m, rfl, hl, hq⟩
  go_wp2
  go_ret
  exact ⟨g, m, rfl, hl, hq⟩

theorem put64_any (A : Option Addr) (l : List UInt8) (c n : Nat) (x : Nat) (w : World) (h1 : n = l.length) (hm : n ≤ 140737488355328) (r : Bs w w.heap.size A l) :
    Calls Try.prog 33 #[.slice A n c, .int .u64 (x : Int)] w (Made w (l ++ hi 8 x)) := by
  have HC := put_made A l c n 8 x w h1 hm (by omega) (by omega) r
  rw [show ((8 : Nat) : Int) = 8 from rfl] at HC
  have H := Lib.hid HC
  clear HC h1
  go_enter Try.func33, Try.ntmps33
  go_wp2_with fail
  refine (H.out).mono ?_
  rintro e w' ⟨g, m, rfl, hl, hq⟩
  go_wp2
  go_ret
  exact ⟨g, m, rfl, hl, hq⟩

end Go.Proofs.Ytnojkoefdigcnaa.Oct
