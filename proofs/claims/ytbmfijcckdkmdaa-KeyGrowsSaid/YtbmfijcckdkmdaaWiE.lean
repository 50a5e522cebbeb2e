/-
  The reference's product.
-/
import Derived.Test.YtbmfijcckdkmdaaWiD
namespace Go.Proofs.Ytbmfijcckdkmdaa.Wi
set_option maxRecDepth 100000
open Go.RowKit Go.Proofs.Ytbmfijcckdkmdaa.Wd

theorem Bits_low (a : Nat) (w : World) (ha : a < 18446744073709551616) :
    Calls Try.prog 41 #[.agg #[.int .u64 0, .int .u64 (a : Int)]] w fun e w' => e = .returned (arr (bitsN a)) ∧ Below w.heap.size w w' := by
  have h := Bits_any 0 a w (by omega) ha
  rw [Nat.zero_mul, Nat.zero_add] at h
  exact h
theorem bits_zero : bitsN 0 = zeros := List.eq_replicate_iff.2 ⟨bitsN_len 0, fun b hb => by
  obtain ⟨j, -, rfl⟩ := List.mem_map.1 hb
  simp⟩
/-- the world of a round -/
def MulW (a b gx gy go : Nat) (w wr : World) (k : Nat) : Prop := Row wr gx 59 (iv (bitsN a)) ∧ Row wr gy 59 (iv (bitsN b)) ∧ Row wr go 59 (iv (bitsN (a * (b % 2 ^ k)))) ∧ Row wr w.heap.size 33 [.int .u64 0, .int .u64 0] ∧ Below w.heap.size w wr

set_option maxHeartbeats 2000000 in
theorem Mul_ref (a b h l : Nat) (w : World) (ha : a < 18446744073709551616) (hb : b < 18446744073709551616) (hh : h < 18446744073709551616) (hl : l < 18446744073709551616) (he : a * b = h * 18446744073709551616 + l) :
    Calls Try.prog 44 #[.int .u64 (a : Int), .int .u64 (b : Int)] w fun e w' => e = .returned (.agg #[.int .u64 (h : Int), .int .u64 (l : Int)]) ∧ Below w.heap.size w w' := by
  have HA := Lib.hid (fun w => Bits_low a w ha)
  have HB := Lib.hid (fun w => Bits_low b w hb)
  have HO := Lib.hid (fun w => Of_any (a * b) h l w (by omega) (by omega))
  have HBM := Lib.hid (show b % 2 ^ 64 = b from Nat.mod_eq_of_lt hb)
  clear he
  go_enter Try.func44, Try.ntmps44
  go_wp2_with fail
  refine (HA.out _).mono ?_
  rintro e w1 ⟨rfl, hb1⟩
  have HR1 := Lib.hid ((row_last w w.heap.size 33 [.int .u64 0, .int .u64 0] rfl).below hb1 (by simp))
  have HB1 := Lib.hid (((Below.refl w.heap.size w).alloc (Nat.le_refl _) _).trans (hb1.mono (by simp)))
  clear hb1
  go_wp2_with fail
  refine (HB.out _).mono ?_
  rintro e w2 ⟨rfl, hb2⟩
  have HR2 := Lib.hid (HR1.out.below hb2 HR1.out.lt)
  have HB2 := Lib.hid (HB1.out.trans (hb2.mono HB1.out.size))
  clear hb2 HR1 HB1
  obtain ⟨gx, hgx⟩ : ∃ g, g = w2.heap.size := ⟨_, rfl⟩
  have hgx0 : w.heap.size < gx := by rw [hgx]; exact HR2.out.lt
  have HGX := Lib.hid hgx
  clear hgx
  go_wp2_with (first
    | (refine wpList_alloc45 rfl rfl (some 5) rfl gx HGX.out ?_; intro w3 hr3 hb3 hs3; have HR3 := Lib.hid (HR2.out.below hb3 HR2.out.lt); have HX3 := Lib.hid hr3; have HB3 := Lib.hid (HB2.out.trans (hb3.mono HB2.out.size)); have HS3 := Lib.hid hs3; clear hr3 hb3 hs3)
    | (refine wpList_alloc45 rfl rfl (some 6) rfl (gx + 1) (by rw [HS3.out]) ?_; intro w4 hr4 hb4 hs4; have HR4 := Lib.hid (HR3.out.below hb4 HR3.out.lt); have HX4 := Lib.hid (HX3.out.below hb4 HX3.out.lt); have HY4 := Lib.hid hr4; have HB4 := Lib.hid (HB3.out.trans (hb4.mono HB3.out.size)); have HS4 := Lib.hid hs4; clear hr4 hb4 hs4)
    | (refine wpList_store45 rfl (.tmp 5) (.tmp 11) rfl rfl gx rfl (bitsN a) zeros rfl HX4.out zeros_len (bitsN_len _) ?_; intro w5 hr5 hg5 hs5; have HR5 := Lib.hid (HR4.out.grown hg5 (by simp; omega)); have HX5 := Lib.hid hr5; have HY5 := Lib.hid (HY4.out.grown hg5 (by simp)); have HB5 := Lib.hid (HB4.out.grown hg5 HB4.out.size (fun i hi => by cases hi; omega)); have HS5 := Lib.hid (hs5.trans HS4.out); clear hr5 hg5 hs5)
    | (refine wpList_store45 rfl (.tmp 6) (.tmp 14) rfl rfl (gx + 1) rfl (bitsN b) zeros rfl HY5.out zeros_len (bitsN_len _) ?_; intro w6 hr6 hg6 hs6; have HR6 := Lib.hid (HR5.out.grown hg6 (by simp; omega)); have HY6 := Lib.hid hr6; have HX6 := Lib.hid (HX5.out.grown hg6 (by simp)); have HB6 := Lib.hid (HB5.out.grown hg6 HB5.out.size (fun i hi => by cases hi; omega)); have HS6 := Lib.hid (hs6.trans HS5.out); clear hr6 hg6 hs6)
    | (refine wpList_alloc45 rfl rfl (some 7) rfl (gx + 1 + 1) (by rw [HS6.out]) ?_; intro w7 hr7 hb7 hs7; have HR7 := Lib.hid (HR6.out.below hb7 HR6.out.lt); have HX7 := Lib.hid (HX6.out.below hb7 HX6.out.lt); have HY7 := Lib.hid (HY6.out.below hb7 HY6.out.lt); have HZ7 := Lib.hid hr7; have HB7 := Lib.hid (HB6.out.trans (hb7.mono HB6.out.size)); clear hr7 hb7 hs7))
  have HI0 := Lib.hid (show MulW a b gx (gx + 1) (gx + 1 + 1) w w7 0 from ⟨HX7.out, HY7.out, by rw [Nat.pow_zero, Nat.mod_one, Nat.mul_zero, bits_zero]; exact HZ7.out, HR7.out, HB7.out⟩)
  clear HR7 HX7 HY7 HZ7 HB7 HR6 HX6 HY6 HB6 HS6 HR5 HX5 HY5 HB5 HS5 HR4 HX4 HY4 HB4 HS4 HR3 HX3 HB3 HS3 HR2 HB2 HGX
  go_loopw [8] (fun i wr => ∃ k : Nat, k ≤ 64 ∧ i = .int .i64 k ∧ Hid (MulW a b gx (gx + 1) (gx + 1 + 1) w wr k)) (fun i _ => 64 - (intOf i).toNat)
  case atStart => exact ⟨0, by omega, rfl, HI0⟩
  rename World => wr
  obtain ⟨k, hk, rfl, HI⟩ := hrel
  clear HI0
  obtain ⟨hrx, hry, hro, hrr, hbel⟩ := HI.out
  have HX := Lib.hid hrx
  have HY := Lib.hid hry
  have HZ := Lib.hid hro
  have HR := Lib.hid hrr
  have HB0 := Lib.hid hbel
  clear HI
  by_cases hlt : k < 64
  case neg =>
    obtain rfl : k = 64 := by omega
    rw [HBM.out] at HZ
    clear hrx hry hro hrr hbel
    go_wp2_with (first
      | (refine wpList_load45 rfl (.tmp 7) rfl (gx + 1 + 1) rfl (bitsN (a * b)) HZ.out (bitsN_len _) (some 27) rfl ?_))
    refine (HO.out _).mono ?_
    rintro e w8 ⟨rfl, hb8⟩
    have hrr := HR.out.below hb8 HR.out.lt
    have hc0 := hrr.cell 0
    have hc1 := hrr.cell 1
    have hf0 := hrr.frozen 0
    have hf1 := hrr.frozen 1
    simp at hc0 hc1
    have HB8 := Lib.hid (HB0.out.trans (hb8.mono HB0.out.size))
    clear hrr hb8
    go_wp2
    exact bodyPost_ret (v := .agg #[.int .u64 (h : Int), .int .u64 (l : Int)]) (by simp [results, Try.results44, go_sem, *]) rfl ⟨rfl, (HB8.out.setCell (by dsimp only; omega) _).setCell (by dsimp only; omega) _⟩
  case pos =>
    have hk260 : (k : Int) < 260 := by omega
    have hck := (hry.cell k).trans (iv_cell (bitsN b) k (by rw [bitsN_len]; omega))
    rw [bitsN_get b k (by omega)] at hck
    have hmb := mod_bit b k
    clear hrx hry hro hrr hbel
    have hbit : b / 2 ^ k % 2 = 0 ∨ b / 2 ^ k % 2 = 1 := by omega
    rcases hbit with h0 | h1
    · rw [h0] at hck hmb
      rw [show ((0 : Nat) : Int) = 0 from rfl] at hck
      have HM := Lib.hid (show b % 2 ^ (k + 1) = b % 2 ^ k by rw [hmb]; omega)
      have HF := Lib.hid (show MulW a b gx (gx + 1) (gx + 1 + 1) w wr (k + 1) from ⟨HX.out, HY.out, by rw [HM.out]; exact HZ.out, HR.out, HB0.out⟩)
      clear h0 hmb HX HY HZ HR HB0 HM
      go_wp2
      exact ⟨⟨k + 1, by omega, by go_num, HF⟩, by simp [intOf]; omega⟩
    · rw [h1] at hck hmb
      rw [show ((1 : Nat) : Int) = 1 from rfl] at hck
      have HM := Lib.hid (show a * (b % 2 ^ k) + a * 2 ^ k = a * (b % 2 ^ (k + 1)) by rw [hmb, Nat.one_mul, Nat.mul_add])
      have HP := Lib.hid (fun w => plus_ref (a * (b % 2 ^ k)) a k w (by omega))
      rw [HM.out] at HP
      clear h1 hmb HM
      go_wp2_with (first
        | (refine wpList_load45 rfl (.tmp 7) rfl (gx + 1 + 1) rfl (bitsN (a * (b % 2 ^ k))) HZ.out (bitsN_len _) (some 23) rfl ?_)
        | (refine wpList_load45 rfl (.tmp 5) rfl gx rfl (bitsN a) HX.out (bitsN_len _) (some 24) rfl ?_))
      refine (HP.out _).mono ?_
      rintro e w8 ⟨rfl, hb8⟩
      have HX8 := Lib.hid (HX.out.below hb8 HX.out.lt)
      have HY8 := Lib.hid (HY.out.below hb8 HY.out.lt)
      have HZ8 := Lib.hid (HZ.out.below hb8 HZ.out.lt)
      have HR8 := Lib.hid (HR.out.below hb8 HR.out.lt)
      have HB8 := Lib.hid (HB0.out.trans (hb8.mono HB0.out.size))
      clear hb8 hck HX HY HZ HR HB0
      go_wp2_with (first
        | (refine wpList_store45 rfl (.tmp 7) (.tmp 26) rfl rfl (gx + 1 + 1) rfl (bitsN (a * (b % 2 ^ (k + 1)))) (bitsN (a * (b % 2 ^ k))) rfl HZ8.out (bitsN_len _) (bitsN_len _) ?_; intro w9 hr9 hg9 hs9; have HR9 := Lib.hid (HR8.out.grown hg9 (by simp; omega)); have HZ9 := Lib.hid hr9; have HY9 := Lib.hid (HY8.out.grown hg9 (by simp)); have HX9 := Lib.hid (HX8.out.grown hg9 (by simp; omega)); have HB9 := Lib.hid (HB8.out.grown hg9 HB8.out.size (fun i hi => by cases hi; omega)); clear hr9 hg9 hs9))
      exact ⟨⟨k + 1, by omega, by go_num, (show MulW _ _ _ _ _ _ _ _ from ⟨HX9.out, HY9.out, HZ9.out, HR9.out, HB9.out⟩)⟩, by simp [intOf]; omega⟩
end Go.Proofs.Ytbmfijcckdkmdaa.Wi
