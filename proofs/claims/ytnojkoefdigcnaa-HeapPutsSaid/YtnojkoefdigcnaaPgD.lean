/-
  Free; a page is read out of bytes.
-/
import Derived.Test.YtnojkoefdigcnaaPgC
namespace Go.Proofs.Ytnojkoefdigcnaa.Pg
set_option maxRecDepth 100000
open Go.RowKit Go.Proofs.Ytnojkoefdigcnaa.Wd Go.Proofs.Ytnojkoefdigcnaa.Oct Go.Proofs.Ytnojkoefdigcnaa.Dsk Go.Proofs.Ytnojkoefdigcnaa.Rec Go.Proofs.Ytnojkoefdigcnaa.Sum Go.Proofs.Ytnojkoefdigcnaa.Sm

/-- the first slot that is free -/
def freeN (ok : Bool) (n : Nat → Nat) : Int := if ok = true then (if n 0 = 0 then 0 else if n 1 = 0 then 1 else if n 2 = 0 then 2 else if n 3 = 0 then 3 else -1) else -1
theorem free_at {n : Nat → Nat} {k : Nat} (hk : k < 4) (h : ∀ j, j < k → n j ≠ 0) (h0 : n k = 0) : freeN true n = (k : Int) := by
  unfold freeN
  match k, hk, h, h0 with
  | 0, _, h, h0 => simp [h0]
  | 1, _, h, h0 => simp [h0, h 0 (by omega)]
  | 2, _, h, h0 => simp [h0, h 0 (by omega), h 1 (by omega)]
  | 3, _, h, h0 => simp [h0, h 0 (by omega), h 1 (by omega), h 2 (by omega)]
theorem free_no {n : Nat → Nat} (h : ∀ j, j < 4 → n j ≠ 0) : freeN true n = -1 := by
  unfold freeN
  simp [h 0 (by omega), h 1 (by omega), h 2 (by omega), h 3 (by omega)]

set_option maxHeartbeats 1000000 in
theorem free_any (num : Int) (lsn : Nat) (s : PS) (w : World) : Calls Try.prog 42 #[.agg (pcs num lsn s).toArray] w fun e w' => e = .returned (.int .i64 (freeN (okN num s.n) s.n)) ∧ Below w.heap.size w w' := by
  have HCH := Lib.hid (fun (W : World) => check_any num lsn s W)
  have HIX := Lib.hid (idx_any s)
  have HFA := Lib.hid (fun k hk h h0 => free_at (n := s.n) (k := k) hk h h0)
  have HFN := Lib.hid (fun h => free_no (n := s.n) h)
  generalize okN num s.n = K at HCH ⊢
  obtain ⟨F, hF⟩ : ∃ F, F = freeN K s.n := ⟨_, rfl⟩
  rw [← hF]
  have HF := Lib.hid hF
  clear hF
  unfold scs at HIX
  unfold pcs at HCH ⊢
  go_enter Try.func42, Try.ntmps42
  go_upto_region 1 with fail
  have HB := Lib.hid (boxed w num lsn s)
  unfold pcs at HB
  generalize w.alloc (.cells #[.int .i64 num, .int .u64 (lsn : Int), .slice (s.A 0) (s.n 0) (s.c 0), .slice (s.A 1) (s.n 1) (s.c 1), .slice (s.A 2) (s.n 2) (s.c 2), .slice (s.A 3) (s.n 3) (s.c 3)] 73) = w1 at HB ⊢
  have ha0 : w1.cell? ⟨w.heap.size, 0, none⟩ = some (.int .i64 num) := HB.out.row.cell 0
  have ha1 : w1.cell? ⟨w.heap.size, 1, none⟩ = some (.int .u64 (lsn : Int)) := HB.out.row.cell 1
  have ha2 : w1.cell? ⟨w.heap.size, 2, none⟩ = some (.slice (s.A 0) (s.n 0) (s.c 0)) := HB.out.row.cell 2
  have ha3 : w1.cell? ⟨w.heap.size, 3, none⟩ = some (.slice (s.A 1) (s.n 1) (s.c 1)) := HB.out.row.cell 3
  have ha4 : w1.cell? ⟨w.heap.size, 4, none⟩ = some (.slice (s.A 2) (s.n 2) (s.c 2)) := HB.out.row.cell 4
  have ha5 : w1.cell? ⟨w.heap.size, 5, none⟩ = some (.slice (s.A 3) (s.n 3) (s.c 3)) := HB.out.row.cell 5
  go_wp2_with fail
  refine (HCH.out _).mono ?_
  rintro e w2 ⟨rfl, hb2⟩
  have HB2 := Lib.hid (HB.out.then hb2)
  clear ha0 ha1 ha2 ha3 ha4 ha5
  clear hb2 HB HCH
  cases K
  · rw [show errP false = 160 from rfl]
    go_wp2
    go_ret
    exact ⟨ret_int (by rw [HF.out]; rfl), HB2.out.hb⟩
  · rw [show errP true = 0 from rfl]
    have ha2 : w2.cell? ⟨w.heap.size, 2, none⟩ = some (.slice (s.A 0) (s.n 0) (s.c 0)) := HB2.out.row.cell 2
    have ha3 : w2.cell? ⟨w.heap.size, 3, none⟩ = some (.slice (s.A 1) (s.n 1) (s.c 1)) := HB2.out.row.cell 3
    have ha4 : w2.cell? ⟨w.heap.size, 4, none⟩ = some (.slice (s.A 2) (s.n 2) (s.c 2)) := HB2.out.row.cell 4
    have ha5 : w2.cell? ⟨w.heap.size, 5, none⟩ = some (.slice (s.A 3) (s.n 3) (s.c 3)) := HB2.out.row.cell 5
    go_wp2_with fail
    clear ha2 ha3 ha4 ha5
    go_loopw [2, 10] (fun r i wr => ∃ k : Nat, k ≤ 4 ∧ i = .int .i64 (k : Int) ∧ r = .int .i64 0 ∧ Hid ((∀ j, j < k → s.n j ≠ 0) ∧ w2 = wr)) (fun _ i _ => 4 - (intOf i).toNat)
    case atStart => exact ⟨0, by omega, rfl, rfl, ⟨fun j h => by omega, rfl⟩⟩
    case round =>
      obtain ⟨k, hk, rfl, rfl, HI⟩ := hrel
      obtain rfl := HI.out.2
      have HJ := Lib.hid HI.out.1
      clear HI
      by_cases hlt : k < 4
      · have h1 : (k : Int) < 4 := by omega
        have hix := HIX.out k hlt
        by_cases hz : s.n k = 0
        · have hzb : ((s.n k : Int) == 0) = true := by simp [hz]
          have HZ := Lib.hid hz
          clear hz
          go_wp2
          go_ret
          exact ⟨ret_int (by rw [HF.out, HFA.out k hlt HJ.out HZ.out]), HB2.out.hb⟩
        · have hzb : ((s.n k : Int) == 0) = false := by simp [hz]
          have HZ : Hid ((∀ j, j < k + 1 → s.n j ≠ 0) ∧ w2 = w2) := Lib.hid ⟨fun j hj => by
            rcases Nat.lt_succ_iff_lt_or_eq.1 hj with h | h
            · exact HJ.out j h
            · rw [h]; exact hz, rfl⟩
          clear hz
          go_wp2
          go_roundw
          case rel => exact ⟨k + 1, by omega, by go_num, rfl, ⟨HZ.out.1, by trivial⟩⟩
          case measure => simp [intOf]; omega
      · have h1 : ¬ (k : Int) < 4 := by omega
        go_wp2
        go_ret
        exact ⟨ret_int (by rw [HF.out, HFN.out (fun j hj => HJ.out j (by omega))]), HB2.out.hb⟩

set_option maxHeartbeats 1000000 in
theorem right_any (num : Int) (lsn : Nat) (s : PS) (w : World) : Calls Try.prog 41 #[.agg (pcs num lsn s).toArray] w fun e w' => e = .returned (.bool (okN num s.n)) ∧ Below w.heap.size w w' := by
  have HIX := Lib.hid (idx_any s)
  have HOK := Lib.hid (okN_iff (num := num) (n := s.n))
  generalize okN num s.n = K at HOK ⊢
  unfold scs at HIX
  unfold pcs
  go_enter Try.func41, Try.ntmps41
  go_upto_region 1 with fail
  have HB := Lib.hid (boxed w num lsn s)
  unfold pcs at HB
  generalize w.alloc (.cells #[.int .i64 num, .int .u64 (lsn : Int), .slice (s.A 0) (s.n 0) (s.c 0), .slice (s.A 1) (s.n 1) (s.c 1), .slice (s.A 2) (s.n 2) (s.c 2), .slice (s.A 3) (s.n 3) (s.c 3)] 73) = w1 at HB ⊢
  have ha2 : w1.cell? ⟨w.heap.size, 2, none⟩ = some (.slice (s.A 0) (s.n 0) (s.c 0)) := HB.out.row.cell 2
  have ha3 : w1.cell? ⟨w.heap.size, 3, none⟩ = some (.slice (s.A 1) (s.n 1) (s.c 1)) := HB.out.row.cell 3
  have ha4 : w1.cell? ⟨w.heap.size, 4, none⟩ = some (.slice (s.A 2) (s.n 2) (s.c 2)) := HB.out.row.cell 4
  have ha5 : w1.cell? ⟨w.heap.size, 5, none⟩ = some (.slice (s.A 3) (s.n 3) (s.c 3)) := HB.out.row.cell 5
  go_wp2_with fail
  clear ha2 ha3 ha4 ha5
  go_loopw [2, 7] (fun r i wr => ∃ k : Nat, k ≤ 4 ∧ i = .int .i64 (k : Int) ∧ r = .bool false ∧ Hid ((∀ j, j < k → s.n j ≤ 52) ∧ w1 = wr)) (fun _ i _ => 4 - (intOf i).toNat)
  case atStart => exact ⟨0, by omega, rfl, rfl, ⟨fun j h => by omega, rfl⟩⟩
  case round =>
    obtain ⟨k, hk, rfl, rfl, HI⟩ := hrel
    obtain rfl := HI.out.2
    have HJ := Lib.hid HI.out.1
    clear HI
    by_cases hlt : k < 4
    · have h1 : (k : Int) < 4 := by omega
      have hix := HIX.out k hlt
      by_cases hz : 52 < s.n k
      · go_wp2
        go_ret
        exact ⟨ret_bool (by
          cases K
          · rfl
          · have := (HOK.out.1 rfl).2 k hlt
            omega), HB.out.hb⟩
      · have HZ : Hid ((∀ j, j < k + 1 → s.n j ≤ 52) ∧ w1 = w1) := Lib.hid ⟨fun j hj => by
          rcases Nat.lt_succ_iff_lt_or_eq.1 hj with h | h
          · exact HJ.out j h
          · rw [h]; omega, rfl⟩
        go_wp2
        go_roundw
        case rel => exact ⟨k + 1, by omega, by go_num, rfl, ⟨HZ.out.1, by trivial⟩⟩
        case measure => simp [intOf]; omega
    · have h1 : ¬ (k : Int) < 4 := by omega
      have ha0 : w1.cell? ⟨w.heap.size, 0, none⟩ = some (.int .i64 num) := HB.out.row.cell 0
      have hall : ∀ j, j < 4 → s.n j ≤ 52 := fun j hj => HJ.out j (by omega)
      have HALL := Lib.hid hall
      clear hall
      by_cases h0 : 0 ≤ num
      · by_cases h2 : num < 32
        · go_wp2
          go_ret
          exact ⟨ret_bool (by rw [HOK.out.2 ⟨⟨h0, h2⟩, HALL.out⟩]; try simp [h2]), HB.out.hb⟩
        · go_wp2
          go_ret
          exact ⟨ret_bool (by
            cases K
            · first | rfl | (simp; omega)
            · have := (HOK.out.1 rfl).1.2
              omega), HB.out.hb⟩
      · go_wp2
        go_ret
        exact ⟨ret_bool (by
          cases K
          · first | rfl | (simp; omega)
          · have := (HOK.out.1 rfl).1.1
            omega), HB.out.hb⟩

end Go.Proofs.Ytnojkoefdigcnaa.Pg
