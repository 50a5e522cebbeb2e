/-
  The contracts of the statements' own calls and of the reference.
-/
import Derived.Test.YtnljhopikjkflaaSum2
import Derived.Test.YtnljhopikjkflaaOct3
import Derived.Lib.SlBytesConst
namespace Go.Proofs.Ytnljhopikjkflaa.Sum
open Go.RowKit Go.Proofs.Ytnljhopikjkflaa.Wd Go.Proofs.Ytnljhopikjkflaa.Oct Go.Proofs.Ytnljhopikjkflaa.Sm

def nine : List UInt8 := [49, 50, 51, 52, 53, 54, 55, 56, 57]
theorem lit_bs2 (w : World) (l : List UInt8) (t : TypeId) (fr : Nat × Nat) : Bs (w.alloc (.cells (bv l).toArray t fr)) (w.heap.size + 1) (some ⟨w.heap.size, 0, none⟩) l := fun _ =>
  ⟨w.heap.size, 0, rfl, by omega, fun i hi => by rw [Nat.zero_add, cell_of_row _ w.heap.size i _ t fr (heap_alloc_new w _)]; simp [bv, hi]⟩
theorem ref16_any (A : Option Addr) (l : List UInt8) (c n : Nat) (w : World) (h1 : l.length = n) (hm : n ≤ maxLen) (B : Nat) (r : Bs w B A l) :
    Calls Try.prog 71 #[.slice A n c, .int .i64 16] w fun e w' => e = .returned (.int .u64 ((sm 33800 2 l : Nat) : Int)) ∧ w = w' := by
  unfold maxLen at hm
  have H1 := Lib.hid h1; clear h1
  go_enter Try.func71, Try.ntmps71
  go_wp2
  go_loop [7, 8, 9] (fun x i _ => ∃ k y : Nat, k ≤ n ∧ y < 65536 ∧ i = .int .i64 k ∧ x = .int .u64 (y : Int) ∧ Hid (tot 33800 (ones 2) (l.take k) = y)) (fun _ i _ => n - (intOf i).toNat)
  case atStart => exact ⟨0, ones 2, by omega, by decide, rfl, by simp [ones2], (show _ = _ by simp [tot])⟩
  case round =>
    obtain ⟨k, y, hk, hy, rfl, rfl, hr⟩ := hrel
    by_cases hlt : k < n
    · have hk' : k < l.length := by rw [H1.out]; exact hlt
      obtain ⟨b1, o1, rfl, hb1, hc1⟩ := r (by omega)
      have hx1 := hc1 k hk'
      have HT := Lib.hid (tot_take 33800 (ones 2) l k hk')
      clear hc1
      generalize l.getD k 0 = x at hx1 HT
      have hxl : x.toNat < 256 := x.toNat_lt
      have hx := u64_xor_nat y x.toNat (by omega) (by omega)
      have hq0 : y ^^^ x.toNat < 65536 := Nat.xor_lt_two_pow (n := 16) hy (by omega)
      have HS : Hid (halves 33800 8 (y ^^^ x.toNat) = stp 33800 y x) := (show _ = _ from rfl)
      generalize y ^^^ x.toNat = q at hx hq0 HS
      have HQ : Hid (tot 33800 (ones 2) (l.take (k + 1)) = stp 33800 y x) := (show _ = _ by rw [← HT.out, hr.out])
      clear HT
      have hwr : IntKind.u64.wrap (x.toNat : Int) = (x.toNat : Int) := by rw [IntKind.wrap_u64]; omega
      generalize hxn : x.toNat = xn at hx1 hx hwr hxl
      clear hxn
      go_wp2
      clear hwr hx
      go_loop [7, 9] (fun z j => ∃ m v : Nat, m ≤ 8 ∧ v < 65536 ∧ j = .int .i64 m ∧ z = .int .u64 (v : Int) ∧ Hid (halves 33800 (8 - m) v = stp 33800 y x)) (fun _ j => 8 - (intOf j).toNat)
      case atStart => exact ⟨0, q, by omega, hq0, rfl, rfl, HS⟩
      case round =>
        obtain ⟨m, v, hm8, hv, rfl, rfl, hs⟩ := hrel
        by_cases hlt8 : m < 8
        · rw [show 8 - m = 8 - (m + 1) + 1 from by omega, halves] at hs
          by_cases hodd : v % 2 = 1
          · have e := u64_xor_nat (v / 2) 33800 (by omega) (by omega)
            have ho : ((v : Int) % 2 == 1) = true := by simp; omega
            have hv1 : 0 ≤ (v : Int) - 1 := by omega
            go_wp2
            go_round
            case rel =>
              refine ⟨m + 1, half 33800 v, by omega, half_lt (k := 16) (by decide) hv, by go_num, ?_, hs⟩
              rw [half_odd hodd, ← e]
              congr 2
              omega
            case measure => simp [intOf]; omega
          · have h0 : v % 2 = 0 := by omega
            have ho : ((v : Int) % 2 == 1) = false := by simp; omega
            clear hodd
            go_wp2
            go_round
            case rel =>
              refine ⟨m + 1, half 33800 v, by omega, half_lt (k := 16) (by decide) hv, by go_num, ?_, hs⟩
              rw [half_even h0]
              simp
            case measure => simp [intOf]; omega
        · obtain rfl : m = 8 := by omega
          have HV : Hid (v = stp 33800 y x) := hs
          clear hs
          go_wp2
          go_round
          case rel => exact ⟨k + 1, v, by omega, hv, by go_num, rfl, (show _ = _ by rw [HQ.out, ← HV.out])⟩
          case measure => simp [intOf]; omega
    · obtain rfl : k = n := by omega
      have HR : Hid (tot 33800 (ones 2) l = y) := (show _ = _ by rw [← hr.out, List.take_of_length_le (by rw [H1.out]; exact Nat.le_refl _)])
      clear hr
      have hx := u64_xor_nat y (ones 2) (by omega) (by decide)
      have HX := Lib.hid hx
      clear hx
      go_wp2
      go_ret
      refine ⟨ret_int ?_, rfl⟩
      have := HX.out
      rw [sm, HR.out, ← this]
      rfl

theorem ref32_any (A : Option Addr) (l : List UInt8) (c n : Nat) (w : World) (h1 : l.length = n) (hm : n ≤ maxLen) (B : Nat) (r : Bs w B A l) :
    Calls Try.prog 71 #[.slice A n c, .int .i64 32] w fun e w' => e = .returned (.int .u64 ((sm 2197175160 4 l : Nat) : Int)) ∧ w = w' := by
  unfold maxLen at hm
  have H1 := Lib.hid h1; clear h1
  go_enter Try.func71, Try.ntmps71
  go_wp2
  go_loop [7, 8, 9] (fun x i _ => ∃ k y : Nat, k ≤ n ∧ y < 4294967296 ∧ i = .int .i64 k ∧ x = .int .u64 (y : Int) ∧ Hid (tot 2197175160 (ones 4) (l.take k) = y)) (fun _ i _ => n - (intOf i).toNat)
  case atStart => exact ⟨0, ones 4, by omega, by decide, rfl, by simp [ones4], (show _ = _ by simp [tot])⟩
  case round =>
    obtain ⟨k, y, hk, hy, rfl, rfl, hr⟩ := hrel
    by_cases hlt : k < n
    · have hk' : k < l.length := by rw [H1.out]; exact hlt
      obtain ⟨b1, o1, rfl, hb1, hc1⟩ := r (by omega)
      have hx1 := hc1 k hk'
      have HT := Lib.hid (tot_take 2197175160 (ones 4) l k hk')
      clear hc1
      generalize l.getD k 0 = x at hx1 HT
      have hxl : x.toNat < 256 := x.toNat_lt
      have hx := u64_xor_nat y x.toNat (by omega) (by omega)
      have hq0 : y ^^^ x.toNat < 4294967296 := Nat.xor_lt_two_pow (n := 32) hy (by omega)
      have HS : Hid (halves 2197175160 8 (y ^^^ x.toNat) = stp 2197175160 y x) := (show _ = _ from rfl)
      generalize y ^^^ x.toNat = q at hx hq0 HS
      have HQ : Hid (tot 2197175160 (ones 4) (l.take (k + 1)) = stp 2197175160 y x) := (show _ = _ by rw [← HT.out, hr.out])
      clear HT
      have hwr : IntKind.u64.wrap (x.toNat : Int) = (x.toNat : Int) := by rw [IntKind.wrap_u64]; omega
      generalize hxn : x.toNat = xn at hx1 hx hwr hxl
      clear hxn
      go_wp2
      clear hwr hx
      go_loop [7, 9] (fun z j => ∃ m v : Nat, m ≤ 8 ∧ v < 4294967296 ∧ j = .int .i64 m ∧ z = .int .u64 (v : Int) ∧ Hid (halves 2197175160 (8 - m) v = stp 2197175160 y x)) (fun _ j => 8 - (intOf j).toNat)
      case atStart => exact ⟨0, q, by omega, hq0, rfl, rfl, HS⟩
      case round =>
        obtain ⟨m, v, hm8, hv, rfl, rfl, hs⟩ := hrel
        by_cases hlt8 : m < 8
        · rw [show 8 - m = 8 - (m + 1) + 1 from by omega, halves] at hs
          by_cases hodd : v % 2 = 1
          · have e := u64_xor_nat (v / 2) 2197175160 (by omega) (by omega)
            have ho : ((v : Int) % 2 == 1) = true := by simp; omega
            have hv1 : 0 ≤ (v : Int) - 1 := by omega
            go_wp2
            go_round
            case rel =>
              refine ⟨m + 1, half 2197175160 v, by omega, half_lt (k := 32) (by decide) hv, by go_num, ?_, hs⟩
              rw [half_odd hodd, ← e]
              congr 2
              omega
            case measure => simp [intOf]; omega
          · have h0 : v % 2 = 0 := by omega
            have ho : ((v : Int) % 2 == 1) = false := by simp; omega
            clear hodd
            go_wp2
            go_round
            case rel =>
              refine ⟨m + 1, half 2197175160 v, by omega, half_lt (k := 32) (by decide) hv, by go_num, ?_, hs⟩
              rw [half_even h0]
              simp
            case measure => simp [intOf]; omega
        · obtain rfl : m = 8 := by omega
          have HV : Hid (v = stp 2197175160 y x) := hs
          clear hs
          go_wp2
          go_round
          case rel => exact ⟨k + 1, v, by omega, hv, by go_num, rfl, (show _ = _ by rw [HQ.out, ← HV.out])⟩
          case measure => simp [intOf]; omega
    · obtain rfl : k = n := by omega
      have HR : Hid (tot 2197175160 (ones 4) l = y) := (show _ = _ by rw [← hr.out, List.take_of_length_le (by rw [H1.out]; exact Nat.le_refl _)])
      clear hr
      have hx := u64_xor_nat y (ones 4) (by omega) (by decide)
      have HX := Lib.hid hx
      clear hx
      go_wp2
      go_ret
      refine ⟨ret_int ?_, rfl⟩
      have := HX.out
      rw [sm, HR.out, ← this]
      rfl
end Go.Proofs.Ytnljhopikjkflaa.Sum
