/-
  The contract of the reference's Both.
-/
import Derived.Test.YtnljhopikjkflaaOct2
namespace Go.Proofs.Ytnljhopikjkflaa.Oct
open Go.RowKit Go.Proofs.Ytnljhopikjkflaa.Wd

set_option maxHeartbeats 400000 in
theorem both_any (A1 A2 : Option Addr) (l1 l2 : List UInt8) (c1 c2 n1 n2 : Nat) (w : World) (h1 : l1.length = n1) (h2 : l2.length = n2) (hm : n1 + n2 ≤ 140737488355336)
    (r1 : Bs w w.heap.size A1 l1) (r2 : Bs w w.heap.size A2 l2) :
    Calls Try.prog 36 #[.slice A1 n1 c1, .slice A2 n2 c2] w (Made w (l1 ++ l2)) := by
  obtain ⟨i0, hi, hz0, hz1, hz2⟩ := info_parts info5
  have H1 := Lib.hid h1; clear h1
  have H2 := Lib.hid h2; clear h2
  go_enter Try.func36, Try.ntmps36
  go_wp2_with (at_make; refine wpList_make_own _ rfl _ _ 25 rfl w.heap.size 5 i0 (.int .u8 0) 1 Try.underlying25 hi hz0 hz1 .i64 .i64 ((n1 : Int) + (n2 : Int)) (n1 + n2) rfl rfl (by omega) (by rw [hz2]; omega) (by unfold maxLen; omega) (Nat.le_refl _) ?_; intro w1 hown1 hg1)
  have hb1 : Below w.heap.size w w1 := (Below.refl _ _).grown hg1 (Nat.le_refl _) (fun k hk => by cases hk)
  have hs1 : w.heap.size < w1.heap.size := (hown1.lt _ rfl).2
  clear hg1
  go_loopw [5, 6] (fun v i wr => ∃ k : Nat, k ≤ n1 ∧ i = .int .i64 k ∧ v = .slice (some ⟨w.heap.size, 0, none⟩) k (n1 + n2) ∧ wr.ownsRow w.heap.size 5 1 (.slice (some ⟨w.heap.size, 0, none⟩) k (n1 + n2)) k (bv (l1.take k)) ∧ Below w.heap.size w wr) (fun _ i _ => n1 - (intOf i).toNat)
  case atStart => exact ⟨0, by omega, rfl, rfl, by simpa [bv] using hown1, hb1⟩
  case round =>
    obtain ⟨k, hk, rfl, rfl, hown, hbel⟩ := hrel
    clear hown1 hb1 hs1
    by_cases hlt : k < n1
    · have hk' : k < l1.length := by rw [H1.out]; exact hlt
      obtain ⟨b1, o1, rfl, hbb, hc1⟩ := r1 (by omega)
      have hx1 : wr.cell? ⟨b1, o1 + k, none⟩ = some (.int .u8 ((l1.getD k 0).toNat : Int)) := (hbel.cell (p := ⟨b1, o1 + k, none⟩) hbb).trans (hc1 k hk')
      have HT := Lib.hid (bv_take l1 k hk')
      clear hc1
      generalize l1.getD k 0 = x at hx1 HT
      have hbs := hbel.size
      go_wp2_with (at_builtin; refine wpList_append_fits _ rfl (.tmp 20) (.tmp 25) 25 rfl w.heap.size 5 i0 1 Try.underlying25 hi hz1 w.heap.size k (n1 + n2) (bv (l1.take k)) rfl (hown.alloc _) ⟨wr.heap.size, 0, none⟩ 1 1 [.int .u8 (x.toNat : Int)] rfl rfl (by exact cells_one _ _ _) (by exact one_cell _) (by omega) ?_; intro w2 hown2 hg2)
      go_roundw
      case rel =>
        refine ⟨k + 1, by omega, by go_num, rfl, ?_, (hbel.alloc hbs _).grown hg2 (by simp; omega) (fun j hj => by simp at hj; omega)⟩
        rw [← HT.out]; exact hown2
      case measure => simp [intOf]; omega
    · obtain rfl : k = n1 := by omega
      have hown' : wr.ownsRow w.heap.size 5 1 (.slice (some ⟨w.heap.size, 0, none⟩) k (k + n2)) k (bv l1) := by rwa [List.take_of_length_le (by rw [H1.out]; exact Nat.le_refl _)] at hown
      clear hown
      obtain ⟨wo, rfl⟩ : ∃ wo : World, wo = wr := ⟨_, rfl⟩
      go_wp2
      go_loopw [5, 7] (fun v i wr => ∃ j : Nat, j ≤ n2 ∧ i = .int .i64 j ∧ v = .slice (some ⟨w.heap.size, 0, none⟩) (k + j) (k + n2) ∧ wr.ownsRow w.heap.size 5 1 (.slice (some ⟨w.heap.size, 0, none⟩) (k + j) (k + n2)) (k + j) (bv (l1 ++ l2.take j)) ∧ Below w.heap.size w wr) (fun _ i _ => n2 - (intOf i).toNat)
      case atStart => exact ⟨0, by omega, rfl, rfl, by simpa [bv] using hown', hbel⟩
      case round =>
        obtain ⟨j, hj, rfl, rfl, hown, hbel2⟩ := hrel
        clear hown' hbel
        by_cases hlt2 : j < n2
        · have hk' : j < l2.length := by rw [H2.out]; exact hlt2
          obtain ⟨b1, o1, rfl, hbb, hc1⟩ := r2 (by omega)
          have hx1 : wr.cell? ⟨b1, o1 + j, none⟩ = some (.int .u8 ((l2.getD j 0).toNat : Int)) := (hbel2.cell (p := ⟨b1, o1 + j, none⟩) hbb).trans (hc1 j hk')
          have HT := Lib.hid (bv_take l2 j hk')
          clear hc1
          generalize l2.getD j 0 = x at hx1 HT
          have hbs := hbel2.size
          go_wp2_with (at_builtin; refine wpList_append_fits _ rfl (.tmp 33) (.tmp 38) 25 rfl w.heap.size 5 i0 1 Try.underlying25 hi hz1 w.heap.size (k + j) (k + n2) (bv (l1 ++ l2.take j)) rfl (hown.alloc _) ⟨wr.heap.size, 0, none⟩ 1 1 [.int .u8 (x.toNat : Int)] rfl rfl (by exact cells_one _ _ _) (by exact one_cell _) (by omega) ?_; intro w2 hown2 hg2)
          go_roundw
          case rel =>
            refine ⟨j + 1, by omega, by go_num, rfl, ?_, (hbel2.alloc hbs _).grown hg2 (by simp; omega) (fun j hj => by simp at hj; omega)⟩
            rw [bv_append, ← HT.out, ← List.append_assoc, ← bv_append]; exact hown2
          case measure => simp [intOf]; omega
        · obtain rfl : j = n2 := by omega
          have hrow : Row wr w.heap.size 5 (bv (l1 ++ l2)) := by
            rw [List.take_of_length_le (by rw [H2.out]; exact Nat.le_refl _)] at hown
            exact Row.of_own hown
          clear hown
          go_wp2
          go_ret
          exact ⟨_, _, rfl, (show _ = _ by rw [List.length_append, H1.out, H2.out]), Nat.le_refl _, hrow, hbel2⟩
end Go.Proofs.Ytnljhopikjkflaa.Oct
