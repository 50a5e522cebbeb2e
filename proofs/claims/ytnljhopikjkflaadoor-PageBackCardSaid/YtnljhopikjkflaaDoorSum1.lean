/-
  The contracts of the sums' steps, and of sums of bytes.
-/
import Derived.Test.YtnljhopikjkflaaDoorOct2
import Derived.Test.YtnljhopikjkflaaDoorSumM
namespace Go.Proofs.YtnljhopikjkflaaDoor.Sum
set_option maxRecDepth 100000
open Go.RowKit Go.Proofs.YtnljhopikjkflaaDoor.Wd Go.Proofs.YtnljhopikjkflaaDoor.Oct Go.Proofs.YtnljhopikjkflaaDoor.Sm

theorem ones2 : ones 2 = 65535 := by decide
theorem ones4 : ones 4 = 4294967295 := by decide

theorem step32_any (s : Nat) (c : UInt8) (w : World) (hs : s < 4294967296) :
    Calls Tryd.prog 55 #[.int .u32 (s : Int), .int .u8 (c.toNat : Int), .int .u32 2197175160] w fun e w' => e = .returned (.int .u32 ((stp 2197175160 s c : Nat) : Int)) ∧ w = w' := by
  have hc : c.toNat < 256 := c.toNat_lt
  have hx := u32_xor_nat s c.toNat hs (by omega)
  have hxl : s ^^^ c.toNat < 4294967296 := Nat.xor_lt_two_pow (n := 32) hs (by omega)
  have hst : Hid (halves 2197175160 8 (s ^^^ c.toNat) = stp 2197175160 s c) := (show _ = _ from rfl)
  generalize hq : s ^^^ c.toNat = q at hx hxl hst
  clear hq
  have hwr : IntKind.u32.wrap (c.toNat : Int) = (c.toNat : Int) := by rw [IntKind.wrap_u32]; omega
  have HX := Lib.hid hx
  clear hx
  go_enter Tryd.func55, Tryd.ntmps55
  go_wp2
  clear hwr
  go_loop [0, 12] (fun x i => ∃ k y : Nat, k ≤ 8 ∧ y < 4294967296 ∧ i = .int .i64 k ∧ x = .int .u32 (y : Int) ∧ Hid (halves 2197175160 (8 - k) y = stp 2197175160 s c)) (fun _ i => 8 - (intOf i).toNat)
  case atStart => exact ⟨0, q, by omega, hxl, rfl, by simp only [HX.out], hst⟩
  case round =>
    obtain ⟨k, y, hk, hy, rfl, rfl, hr⟩ := hrel
    by_cases hlt : k < 8
    · have ha := u32_and_nat y 1 hy (by omega)
      rw [Nat.and_one_is_mod] at ha
      rw [show 8 - k = 8 - (k + 1) + 1 from by omega, halves] at hr
      by_cases hodd : y % 2 = 1
      · rw [hodd] at ha
        have h1 : bits .and .u32 (y : Int) 1 = 1 := ha
        clear ha
        go_wp2
        go_round
        case rel =>
          have e := u32_xor_nat (y / 2) 2197175160 (by omega) (by omega)
          refine ⟨k + 1, half 2197175160 y, by omega, half_lt (k := 32) (by decide) hy, by go_num, ?_, hr⟩
          rw [half_odd hodd, ← e]
          simp
        case measure => simp [intOf]; omega
      · have h0 : y % 2 = 0 := by omega
        rw [h0] at ha
        have h1 : bits .and .u32 (y : Int) 1 = 0 := ha
        clear ha hodd
        go_wp2
        go_round
        case rel =>
          refine ⟨k + 1, half 2197175160 y, by omega, half_lt (k := 32) (by decide) hy, by go_num, ?_, hr⟩
          rw [half_even h0]
          simp
        case measure => simp [intOf]; omega
    · obtain rfl : k = 8 := by omega
      go_wp2
      go_ret
      exact ⟨by rw [← hr.out]; rfl, rfl⟩

theorem sum32_any (A : Option Addr) (l : List UInt8) (c n : Nat) (w : World) (h1 : l.length = n) (hm : n ≤ maxLen) (B : Nat) (r : Bs w B A l) :
    Calls Tryd.prog 50 #[.slice A n c, .int .u32 2197175160] w fun e w' => e = .returned (.int .u32 ((sm 2197175160 4 l : Nat) : Int)) ∧ w = w' := by
  unfold maxLen at hm
  have H1 := Lib.hid h1; clear h1
  go_enter Tryd.func50, Tryd.ntmps50
  go_wp2
  go_loop [5, 12] (fun x i => ∃ k y : Nat, k ≤ n ∧ y < 4294967296 ∧ i = .int .i64 k ∧ x = .int .u32 (y : Int) ∧ Hid (tot 2197175160 (ones 4) (l.take k) = y)) (fun _ i => n - (intOf i).toNat)
  case atStart => exact ⟨0, ones 4, by omega, by decide, rfl, by simp [ones4]; try rfl, (show _ = _ by simp [tot])⟩
  case round =>
    obtain ⟨k, y, hk, hy, rfl, rfl, hr⟩ := hrel
    by_cases hlt : k < n
    · have hk' : k < l.length := by rw [H1.out]; exact hlt
      obtain ⟨b1, o1, rfl, hb1, hc1⟩ := r (by omega)
      have hx1 := hc1 k hk'
      have HT := Lib.hid (tot_take 2197175160 (ones 4) l k hk')
      clear hc1
      generalize l.getD k 0 = x at hx1 HT
      have HS := Lib.hid (step32_any y x w hy)
      go_wp2_with fail
      refine (HS.out).mono ?_
      rintro e w1 ⟨rfl, rfl⟩
      have hlt2 : stp 2197175160 y x < 4294967296 := stp_lt (k := 32) (by decide) (by omega) hy x
      have HQ : Hid (tot 2197175160 (ones 4) (l.take (k + 1)) = stp 2197175160 y x) := (show _ = _ by rw [← HT.out, hr.out])
      clear HT HS
      generalize stp 2197175160 y x = z at hlt2 HQ
      go_wp2
      go_round
      case rel => exact ⟨k + 1, z, by omega, hlt2, by go_num, rfl, HQ⟩
      case measure => simp [intOf]; omega
    · obtain rfl : k = n := by omega
      have HR : Hid (tot 2197175160 (ones 4) l = y) := (show _ = _ by rw [← hr.out, List.take_of_length_le (by rw [H1.out]; exact Nat.le_refl _)])
      clear hr
      go_wp2
      go_ret
      refine ⟨ret_int ?_, rfl⟩
      have hx := u32_xor_nat (ones 4) y (by decide) hy
      rw [show IntKind.u32.max = ((ones 4 : Nat) : Int) from by decide, hx, Nat.xor_comm, ← HR.out]
      rfl

theorem Sum32_any (A : Option Addr) (l : List UInt8) (c n : Nat) (w : World) (h1 : l.length = n) (hm : n ≤ maxLen) (B : Nat) (r : Bs w B A l) :
    Calls Tryd.prog 37 #[.slice A n c] w fun e w' => e = .returned (.int .u32 ((sm 2197175160 4 l : Nat) : Int)) ∧ w = w' := by
  have HC := Lib.hid (sum32_any A l c n w h1 hm B r)
  clear h1
  go_enter Tryd.func37, Tryd.ntmps37
  go_wp2_with fail
  refine (HC.out).mono ?_
  rintro e w1 ⟨rfl, rfl⟩
  go_wp2
  go_ret
  exact ⟨rfl, rfl⟩
end Go.Proofs.YtnljhopikjkflaaDoor.Sum
