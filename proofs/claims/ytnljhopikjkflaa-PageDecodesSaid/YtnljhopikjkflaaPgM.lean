/-
  The reference's noughts, and its number of bytes.
-/
import Derived.Test.YtnljhopikjkflaaPgI
import Derived.Test.YtnljhopikjkflaaPgF
namespace Go.Proofs.Ytnljhopikjkflaa.Pg
set_option maxRecDepth 100000
open Go.RowKit Go.Proofs.Ytnljhopikjkflaa.Wd Go.Proofs.Ytnljhopikjkflaa.Oct Go.Proofs.Ytnljhopikjkflaa.Dsk Go.Proofs.Ytnljhopikjkflaa.Rec Go.Proofs.Ytnljhopikjkflaa.Sum Go.Proofs.Ytnljhopikjkflaa.Sm

theorem all_take_succ (l : List UInt8) (k : Nat) (hk : k < l.length) : (l.take (k + 1)).all (· == 0) = ((l.take k).all (· == 0) && (l.getD k 0 == 0)) := by
  rw [List.take_succ_eq_append_getElem hk, List.all_append]
  simp [List.getD_eq_getElem?_getD, hk]
theorem all_of_take (l : List UInt8) (k : Nat) (hk : k < l.length) (h : (l.getD k 0 == 0) = false) : l.all (· == 0) = false := by
  cases hz : l.all (· == 0)
  · rfl
  · exfalso
    have := List.all_eq_true.1 hz (l.getD k 0) (by rw [List.getD_eq_getElem?_getD, List.getElem?_eq_getElem hk]; exact List.getElem_mem hk)
    rw [h] at this
    cases this
set_option maxHeartbeats 1000000 in
theorem noughts_any (A : Option Addr) (n c B : Nat) (l : List UInt8) (w : World) (hl : l.length = n) (hn : n ≤ 1000) (hb : Bs w B A l) :
    Calls Try.prog 51 #[.slice A n c] w fun e w' => e = .returned (.bool (l.all (· == 0) && decide (n = 256))) ∧ w = w' := by
  have HL := Lib.hid hl
  have HB := Lib.hid hb
  clear hl hb
  go_enter Try.func51, Try.ntmps51
  go_wp2_with fail
  go_loopw [7] (fun t wr => ∃ k : Nat, k ≤ n ∧ t = .int .i64 (k : Int) ∧ wr = w ∧ Hid ((l.take k).all (· == 0) = true)) (fun t _ => n - (intOf t).toNat)
  case atStart => exact ⟨0, by omega, rfl, rfl, (show _ = _ by simp)⟩
  case round =>
    obtain ⟨k, hk, rfl, rfl, HA⟩ := hrel
    by_cases hlt : k < n
    · have h1 : (k : Int) < (n : Int) := by omega
      have h0 : 0 ≤ (k : Int) := by omega
      obtain ⟨b, o, rfl, -, hc⟩ := HB.out (by rw [HL.out]; omega)
      have hx := hc k (by rw [HL.out]; exact hlt)
      have HS := Lib.hid (all_take_succ l k (by rw [HL.out]; exact hlt))
      have HF := Lib.hid (all_of_take l k (by rw [HL.out]; exact hlt))
      clear hc
      generalize l.getD k 0 = u at hx HS HF
      by_cases hu : u = 0
      · subst hu
        rw [show (((0 : UInt8).toNat : Nat) : Int) = 0 from rfl] at hx
        have HN : Hid ((l.take (k + 1)).all (· == 0) = true) := (show _ = _ by rw [HS.out, HA.out]; rfl)
        go_wp2
        go_roundw
        case rel => exact ⟨k + 1, by omega, by go_num, by trivial, HN⟩
        case measure => simp [intOf]; omega
      · have hu0 : ¬ ((u.toNat : Nat) : Int) = 0 := fun e => hu (by
          have : u.toNat = 0 := by omega
          exact UInt8.toNat.inj (by rw [this]; rfl))
        have HG : Hid (l.all (· == 0) = false) := HF.out (by simpa using hu)
        go_wp2
        go_ret
        exact ⟨by rw [HG.out]; rfl, rfl⟩
    · obtain rfl : k = n := by omega
      have hA := HA.out
      rw [List.take_of_length_le (by rw [HL.out]; exact Nat.le_refl _)] at hA
      have HG := Lib.hid hA
      clear hA HA
      go_wp2
      go_ret
      refine ⟨?_, rfl⟩
      rw [HG.out]
      by_cases h : k = 256
      · subst h; rfl
      · have h2 : ¬ (k : Int) = 256 := by omega
        simp [h, h2]
set_option maxHeartbeats 1000000 in
theorem rnum_any (A : Option Addr) (n c B : Nat) (l : List UInt8) (w : World) (hl : l.length = n) (hn : n ≤ 8) (hb : Bs w B A l) :
    Calls Try.prog 52 #[.slice A n c] w fun e w' => e = .returned (.int .u64 (num l : Int)) ∧ w = w' := by
  have HL := Lib.hid hl
  have HB := Lib.hid hb
  clear hl hb
  go_enter Try.func52, Try.ntmps52
  go_wp2_with fail
  go_loopw [3, 8] (fun t3 t8 wr => ∃ k : Nat, k ≤ n ∧ t8 = .int .i64 (k : Int) ∧ t3 = .int .u64 (num (l.take k) : Int) ∧ wr = w) (fun _ t _ => n - (intOf t).toNat)
  case atStart => exact ⟨0, by omega, rfl, rfl, rfl⟩
  case round =>
    obtain ⟨k, hk, rfl, rfl, rfl⟩ := hrel
    by_cases hlt : k < n
    · have h1 : (k : Int) < (n : Int) := by omega
      have h0 : 0 ≤ (k : Int) := by omega
      obtain ⟨b, o, rfl, -, hc⟩ := HB.out (by rw [HL.out]; omega)
      have hx := hc k (by rw [HL.out]; exact hlt)
      have HS : Hid (num (l.take (k + 1)) = num (l.take k) * 256 + (l.getD k 0).toNat) := (show _ = _ by
        rw [List.take_succ_eq_append_getElem (by rw [HL.out]; exact hlt), num_snoc]
        simp [List.getD_eq_getElem?_getD, show k < l.length by rw [HL.out]; exact hlt])
      have HX : Hid (num (l.take k) < 256 ^ 7) := (show _ < _ from Nat.lt_of_lt_of_le (num_lt _) (Nat.pow_le_pow_right (by omega) (by rw [List.length_take, HL.out]; omega)))
      clear hc
      generalize l.getD k 0 = u at hx HS
      generalize num (l.take k) = x at HS HX ⊢
      have hx7 := HX.out
      have hu := u.toNat_lt
      have hw1 : IntKind.u64.wrap ((x : Int) * 256) = (x : Int) * 256 := by simp [IntKind.wrap, IntKind.signed, IntKind.bits]; omega
      have hw2 : IntKind.u64.wrap ((u.toNat : Nat) : Int) = ((u.toNat : Nat) : Int) := by simp [IntKind.wrap, IntKind.signed, IntKind.bits]; omega
      have hw3 : IntKind.u64.wrap ((x : Int) * 256 + ((u.toNat : Nat) : Int)) = ((x * 256 + u.toNat : Nat) : Int) := by simp [IntKind.wrap, IntKind.signed, IntKind.bits]; omega
      clear hx7 hu
      generalize u.toNat = y at *
      go_wp2
      go_roundw
      case rel => exact ⟨k + 1, by omega, by go_num, by rw [HS.out]; exact congrArg _ (by omega), by trivial⟩
      case measure => simp [intOf]; omega
    · obtain rfl : k = n := by omega
      have hA : l.take k = l := List.take_of_length_le (by rw [HL.out]; exact Nat.le_refl _)
      rw [hA]
      clear hA
      go_wp2
      go_ret
      exact ⟨rfl, rfl⟩
end Go.Proofs.Ytnljhopikjkflaa.Pg
