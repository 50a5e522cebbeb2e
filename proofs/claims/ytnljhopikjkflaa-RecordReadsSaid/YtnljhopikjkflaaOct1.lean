/-
  The contracts of the octet functions that only read bytes.
-/
import Derived.Test.YtnljhopikjkflaaRows
import Derived.Test.YtnljhopikjkflaaWords
import Derived.Deep.QuietTactic
import Derived.BigQuiet
namespace Go.Proofs.Ytnljhopikjkflaa.Oct
set_option maxRecDepth 100000
open Go.RowKit Go.Proofs.Ytnljhopikjkflaa.Wd

theorem equal_len (A1 A2 : Option Addr) (l1 l2 : List UInt8) (c1 c2 : Nat) (w : World) (hne : l1.length ≠ l2.length) :
    Calls Try.prog 21 #[.slice A1 l1.length c1, .slice A2 l2.length c2] w fun e w' => e = .returned (.bool (decide (l1 = l2))) ∧ w = w' := by
  have hb' : (((l1.length : Int) != (l2.length : Int))) = true := by simp; omega
  have hd : decide (l1 = l2) = false := by simp; intro e; exact hne (by rw [e])
  rw [hd]
  clear hd
  go_enter Try.func21, Try.ntmps21
  go_wp2
  go_ret
  exact ⟨rfl, rfl⟩

theorem equal_same (A1 A2 : Option Addr) (l1 l2 : List UInt8) (c1 c2 n : Nat) (w : World) (h1 : n = l1.length) (h2 : n = l2.length) (hm : n ≤ maxLen) (B1 B2 : Nat) (r1 : Bs w B1 A1 l1) (r2 : Bs w B2 A2 l2) :
    Calls Try.prog 21 #[.slice A1 n c1, .slice A2 n c2] w fun e w' => e = .returned (.bool (decide (l1 = l2))) ∧ w = w' := by
  unfold maxLen at hm
  have H1 := Lib.hid h1; clear h1
  have H2 := Lib.hid h2; clear h2
  go_enter Try.func21, Try.ntmps21
  go_wp2
  go_loop [5, 15] (fun t i => ∃ k : Nat, ∃ o : UInt8, k ≤ n ∧ i = .int .i64 k ∧ t = .int .u8 (o.toNat : Int) ∧ Hid (o = 0 ↔ l1.take k = l2.take k)) (fun _ i => n - (intOf i).toNat)
  case atStart => exact ⟨0, 0, by omega, rfl, rfl, (show _ ↔ _ by simp)⟩
  case round =>
    obtain ⟨k, o, hk, rfl, rfl, hr⟩ := hrel
    by_cases hlt : k < n
    · obtain ⟨b1, o1, rfl, hb1, hc1⟩ := r1 (by rw [← H1.out]; omega)
      obtain ⟨b2, o2, rfl, hb2, hc2⟩ := r2 (by rw [← H2.out]; omega)
      have hx1 := hc1 k (by rw [← H1.out]; omega)
      have hx2 := hc2 k (by rw [← H2.out]; omega)
      clear hc1 hc2
      generalize hg1 : l1.getD k 0 = x1 at hx1
      generalize hg2 : l2.getD k 0 = x2 at hx2
      have HG : Hid (l1.getD k 0 = l2.getD k 0 ↔ x1 = x2) := (show _ ↔ _ by rw [hg1, hg2])
      clear hg1 hg2
      go_wp2
      go_round
      case rel =>
        refine ⟨k + 1, o ||| (x1 ^^^ x2), by omega, by go_num, by rw [u8_xor_v, u8_or_v], ?_⟩
        show _ ↔ _
        rw [u8_or_eq0, u8_xor_eq0, take_succ_eq (by rw [← H1.out]; exact hlt) (by rw [← H2.out]; exact hlt), HG.out, hr.out]
      case measure => simp [intOf]; omega
    · obtain rfl : k = n := by omega
      have HR : Hid ((o = 0) ↔ l1 = l2) := (show _ ↔ _ by rw [hr.out, List.take_of_length_le (by rw [← H1.out]; exact Nat.le_refl _), List.take_of_length_le (by rw [← H2.out]; exact Nat.le_refl _)])
      clear hr
      go_wp2
      go_ret
      exact ⟨ret_bool (by rw [u8_beq0]; exact decide_eq_decide.2 HR.out), rfl⟩

theorem equal_any (A1 A2 : Option Addr) (l1 l2 : List UInt8) (c1 c2 : Nat) (w : World) (hm : l1.length ≤ maxLen) (B1 B2 : Nat) (r1 : Bs w B1 A1 l1) (r2 : Bs w B2 A2 l2) :
    Calls Try.prog 21 #[.slice A1 l1.length c1, .slice A2 l2.length c2] w fun e w' => e = .returned (.bool (decide (l1 = l2))) ∧ w = w' := by
  by_cases h : l1.length = l2.length
  · have := equal_same A1 A2 l1 l2 c1 c2 l1.length w rfl h hm B1 B2 r1 r2
    rwa [h] at this ⊢
  · exact equal_len A1 A2 l1 l2 c1 c2 w h

theorem zero_any (A : Option Addr) (l : List UInt8) (c n : Nat) (w : World) (h1 : n = l.length) (hm : n ≤ maxLen) (B : Nat) (r : Bs w B A l) :
    Calls Try.prog 48 #[.slice A n c] w fun e w' => e = .returned (.bool (l.all (· == 0))) ∧ w = w' := by
  unfold maxLen at hm
  have H1 := Lib.hid h1; clear h1
  go_enter Try.func48, Try.ntmps48
  go_wp2
  go_loop [3, 8] (fun t i => ∃ k : Nat, ∃ o : UInt8, k ≤ n ∧ i = .int .i64 k ∧ t = .int .u8 (o.toNat : Int) ∧ Hid ((o == 0) = (l.take k).all (· == 0))) (fun _ i => n - (intOf i).toNat)
  case atStart => exact ⟨0, 0, by omega, rfl, rfl, (show _ = _ by simp)⟩
  case round =>
    obtain ⟨k, o, hk, rfl, rfl, hr⟩ := hrel
    by_cases hlt : k < n
    · obtain ⟨b1, o1, rfl, hb1, hc1⟩ := r (by rw [← H1.out]; omega)
      have hx1 := hc1 k (by rw [← H1.out]; omega)
      clear hc1
      generalize hg1 : l.getD k 0 = x1 at hx1
      have HG : Hid (l.getD k 0 = x1) := hg1
      clear hg1
      go_wp2
      go_round
      case rel =>
        refine ⟨k + 1, o ||| x1, by omega, by go_num, by rw [u8_or_v], ?_⟩
        show _ = _
        have hk' : k < l.length := by rw [← H1.out]; exact hlt
        rw [List.take_succ_eq_append_getElem hk', List.all_append, ← hr.out, Bool.eq_iff_iff]
        have := HG.out
        rw [List.getD_eq_getElem?_getD, List.getElem?_eq_getElem hk', Option.getD_some] at this
        simp [this]
      case measure => simp [intOf]; omega
    · obtain rfl : k = n := by omega
      have HR : Hid ((o == 0) = l.all (· == 0)) := (show _ = _ by rw [hr.out, List.take_of_length_le (by rw [← H1.out]; exact Nat.le_refl _)])
      clear hr
      go_wp2
      go_ret
      exact ⟨ret_bool (by rw [u8_beq0, ← HR.out]; rfl), rfl⟩

theorem same_len (A1 A2 : Option Addr) (l1 l2 : List UInt8) (c1 c2 : Nat) (w : World) (hne : l1.length ≠ l2.length) :
    Calls Try.prog 16 #[.slice A1 l1.length c1, .slice A2 l2.length c2] w fun e w' => e = .returned (.bool (decide (l1 = l2))) ∧ Still w w' := by
  have hb' : (((l1.length : Int) != (l2.length : Int))) = true := by simp; omega
  have hd : decide (l1 = l2) = false := by simp; intro e; exact hne (by rw [e])
  rw [hd]
  clear hd
  go_enter Try.func16, Try.ntmps16
  go_wp2
  go_ret
  exact ⟨rfl, Still.refl _⟩

theorem same_same (A1 A2 : Option Addr) (l1 l2 : List UInt8) (c1 c2 n : Nat) (w : World) (h1 : n = l1.length) (h2 : n = l2.length) (hm : n ≤ maxLen) (B1 B2 : Nat) (r1 : Bs w B1 A1 l1) (r2 : Bs w B2 A2 l2) :
    Calls Try.prog 16 #[.slice A1 n c1, .slice A2 n c2] w fun e w' => e = .returned (.bool (decide (l1 = l2))) ∧ Still w w' := by
  unfold maxLen at hm
  have H1 := Lib.hid h1; clear h1
  have H2 := Lib.hid h2; clear h2
  go_enter Try.func16, Try.ntmps16
  go_wp2
  go_loopw [5] (fun i wr => ∃ k : Nat, k ≤ n ∧ i = .int .i64 k ∧ Still w wr ∧ Hid (l1.take k = l2.take k)) (fun i _ => n - (intOf i).toNat)
  case atStart => exact ⟨0, by omega, rfl, Still.refl _, (show _ = _ by simp)⟩
  case round =>
    obtain ⟨k, hk, rfl, ⟨m, rfl⟩, hr⟩ := hrel
    by_cases hlt : k < n
    · obtain ⟨b1, o1, rfl, hb1, hc1⟩ := r1 (by rw [← H1.out]; omega)
      obtain ⟨b2, o2, rfl, hb2, hc2⟩ := r2 (by rw [← H2.out]; omega)
      have hx1 := hc1 k (by rw [← H1.out]; omega)
      have hx2 := hc2 k (by rw [← H2.out]; omega)
      clear hc1 hc2
      generalize hg1 : l1.getD k 0 = x1 at hx1
      generalize hg2 : l2.getD k 0 = x2 at hx2
      have HG : Hid (l1.getD k 0 = l2.getD k 0 ↔ x1 = x2) := (show _ ↔ _ by rw [hg1, hg2])
      clear hg1 hg2
      by_cases hx : x1 = x2
      · subst hx
        have hxx : (((x1.toNat : Int) != (x1.toNat : Int))) = false := by simp
        go_wp2
        go_quiet (fail)
        go_wp2
        go_roundw
        case rel =>
          refine ⟨k + 1, by omega, by go_num, ⟨_, rfl⟩, ?_⟩
          show _ = _
          rw [take_succ_eq (by rw [← H1.out]; exact hlt) (by rw [← H2.out]; exact hlt)]
          exact ⟨hr.out, HG.out.2 (by simp)⟩
        case measure => simp [intOf]; omega
      · have hxx : (((x1.toNat : Int) != (x2.toNat : Int))) = true := by simp; intro h; exact hx (UInt8.toNat_inj.1 (by omega))
        have HD : Hid (decide (l1 = l2) = false) := (show _ = _ by
          simp; rintro rfl; exact hx (HG.out.1 rfl))
        go_wp2
        go_quiet (fail)
        go_wp2
        go_ret
        exact ⟨ret_bool HD.out.symm, (show Still _ _ from ⟨m + _, by first | rfl | (rw [World.drewN_drewN])⟩)⟩
    · obtain rfl : k = n := by omega
      have HR : Hid (decide (l1 = l2) = true) := (show _ = _ by
        have := hr.out
        rw [List.take_of_length_le (by rw [← H1.out]; exact Nat.le_refl _), List.take_of_length_le (by rw [← H2.out]; exact Nat.le_refl _)] at this
        simp [this])
      clear hr
      go_wp2
      go_ret
      exact ⟨ret_bool HR.out.symm, ⟨m, rfl⟩⟩

theorem same_any (A1 A2 : Option Addr) (l1 l2 : List UInt8) (c1 c2 : Nat) (w : World) (hm : l1.length ≤ maxLen) (B1 B2 : Nat) (r1 : Bs w B1 A1 l1) (r2 : Bs w B2 A2 l2) :
    Calls Try.prog 16 #[.slice A1 l1.length c1, .slice A2 l2.length c2] w fun e w' => e = .returned (.bool (decide (l1 = l2))) ∧ Still w w' := by
  by_cases h : l1.length = l2.length
  · have := same_same A1 A2 l1 l2 c1 c2 l1.length w rfl h hm B1 B2 r1 r2
    rwa [h] at this ⊢
  · exact same_len A1 A2 l1 l2 c1 c2 w h

end Go.Proofs.Ytnljhopikjkflaa.Oct
