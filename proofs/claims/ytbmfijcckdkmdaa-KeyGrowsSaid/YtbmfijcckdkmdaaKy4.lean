/-
  Keys: how much boxes are apart, how much they grow, which grows less.
-/
import Derived.Test.YtbmfijcckdkmdaaKy3
import Derived.Test.YtbmfijcckdkmdaaWi2
import Derived.LoopTactic
import Derived.Deep.RegionHeld
import Derived.Deep.Cut
import Derived.WalkLawsBesides
namespace Go.Proofs.Ytbmfijcckdkmdaa.Ky
set_option maxRecDepth 100000
open Go.RowKit Go.Proofs.Ytbmfijcckdkmdaa.Wd Go.Proofs.Ytbmfijcckdkmdaa.Wi Go.Proofs.Ytbmfijcckdkmdaa.Lift

/-- a number below 2^128 has these halves -/
structure Wn (N h l : Nat) : Prop where
  hh : h < 18446744073709551616
  hl : l < 18446744073709551616
  he : N = h * 18446744073709551616 + l
theorem wn_of (N : Nat) (hN : N < 340282366920938463463374607431768211456) : ∃ h l, Wn N h l := by
  obtain ⟨h, l, h1, h2, h3⟩ := parts N hN
  exact ⟨h, l, h1, h2, h3⟩
theorem Wn.lt {N h l : Nat} (H : Wn N h l) : N < 340282366920938463463374607431768211456 := by have := H.hh; have := H.hl; have := H.he; omega
theorem Wn.unique {N h l h' l' : Nat} (H : Wn N h l) (H' : Wn N h' l') : h = h' ∧ l = l' := by
  have := H.hh; have := H.hl; have := H.he; have := H'.hh; have := H'.hl; have := H'.he; omega
theorem Wn.zero {h l : Nat} (H : Wn 0 h l) : h = 0 ∧ l = 0 := by have := H.he; omega
structure KOk (x0 x1 y0 y1 : Int) : Prop where
  a1 : -9223372036854775808 ≤ x0
  a2 : x0 ≤ 9223372036854775807
  a3 : -9223372036854775808 ≤ x1
  a4 : x1 ≤ 9223372036854775807
  a5 : -9223372036854775808 ≤ y0
  a6 : y0 ≤ 9223372036854775807
  a7 : -9223372036854775808 ≤ y1
  a8 : y1 ≤ 9223372036854775807
theorem Area_is {x0 x1 y0 y1 : Int} {h l : Nat} (k : KOk x0 x1 y0 y1) (H : Wn (widM x0 x1 * widM y0 y1) h l) (w : World) :
    Calls Try.prog 27 #[KV x0 x1 y0 y1] w fun e w' => e = .returned (.agg #[.int .u64 (h : Int), .int .u64 (l : Int)]) ∧ Below w.heap.size w w' :=
  Area_any x0 x1 y0 y1 h l w k.a1 k.a2 k.a3 k.a4 k.a5 k.a6 k.a7 k.a8 H.hh H.hl H.he
theorem Margin_is {x0 x1 y0 y1 : Int} {h l : Nat} (k : KOk x0 x1 y0 y1) (H : Wn (widM x0 x1 + widM y0 y1) h l) (w : World) :
    Calls Try.prog 28 #[KV x0 x1 y0 y1] w fun e w' => e = .returned (.agg #[.int .u64 (h : Int), .int .u64 (l : Int)]) ∧ Below w.heap.size w w' :=
  Margin_any x0 x1 y0 y1 h l w k.a1 k.a2 k.a3 k.a4 k.a5 k.a6 k.a7 k.a8 H.hh H.hl H.he
theorem area_lt {x0 x1 y0 y1 : Int} (k : KOk x0 x1 y0 y1) : widM x0 x1 * widM y0 y1 < 340282366920938463463374607431768211456 := mul_lt (widM_lt k.a1 k.a4) (widM_lt k.a5 k.a8)
theorem margin_lt {x0 x1 y0 y1 : Int} (k : KOk x0 x1 y0 y1) : widM x0 x1 + widM y0 y1 < 340282366920938463463374607431768211456 := by
  have := widM_lt k.a1 k.a4; have := widM_lt k.a5 k.a8; omega
/-- what subtraction answers -/
theorem Sub_is {a b ah al bh bl : Nat} (HA : Wn a ah al) (HB : Wn b bh bl) : ∃ c h l : Nat, (c = 1 ↔ b ≤ a) ∧ (b ≤ a → Wn (a - b) h l) ∧ ∀ w, Calls Try.prog 26 #[.agg #[.int .u64 (ah : Int), .int .u64 (al : Int)], .agg #[.int .u64 (bh : Int), .int .u64 (bl : Int)]] w fun e w' => e = .returned (.tuple #[.agg #[.int .u64 (h : Int), .int .u64 (l : Int)], .bool (decide (c = 1))]) ∧ Below w.heap.size w w' := by
  obtain ⟨c, h, l, hh, hl, hc, he, hi⟩ := sub_parts a b HA.lt HB.lt
  refine ⟨c, h, l, hi, fun hb => ⟨hh, hl, ?_⟩, fun w => Sub_any ah al bh bl h l c w HA.hh HA.hl HB.hh HB.hl hh hl ?_⟩
  · have := hi.2 hb; subst this; omega
  · rw [← HA.he, ← HB.he]; exact he
theorem Cmp_is {a b ah al bh bl : Nat} {s : Int} (HA : Wn a ah al) (HB : Wn b bh bl) (hs : cmpM a b = s) (w : World) : Calls Try.prog 32 #[.agg #[.int .u64 (ah : Int), .int .u64 (al : Int)], .agg #[.int .u64 (bh : Int), .int .u64 (bl : Int)]] w fun e w' => e = .returned (.int .i64 s) ∧ Below w.heap.size w w' := by
  have := Cmp_any ah al bh bl w HA.hh HA.hl HB.hh HB.hl
  rw [← HA.he, ← HB.he, hs] at this
  exact this

set_option maxHeartbeats 1000000 in
theorem above_any {a b ah al bh bl h l : Nat} (HA : Wn a ah al) (HB : Wn b bh bl) (HD : Wn (a - b) h l) (w : World) :
    Calls Try.prog 66 #[.agg #[.int .u64 (ah : Int), .int .u64 (al : Int)], .agg #[.int .u64 (bh : Int), .int .u64 (bl : Int)]] w fun e w' => e = .returned (.agg #[.int .u64 (h : Int), .int .u64 (l : Int)]) ∧ Below w.heap.size w w' := by
  obtain ⟨c, h', l', hc, hw, hS⟩ := Sub_is HA HB
  clear HA HB
  by_cases hb : b ≤ a
  · obtain ⟨rfl, rfl⟩ := HD.unique (hw hb)
    have hd : decide (c = 1) = true := decide_eq_true (hc.2 hb)
    clear hw hc hb HD
    rw [hd] at hS
    have HS := Lib.hid hS
    clear hd hS
    go_enter Try.func66, Try.ntmps66
    go_upto_region 1 with fail
    have RA_1 := Lib.hid (((row_last w (w.heap.size) 33 [.int .u64 (ah : Int), .int .u64 (al : Int)] (by simp)).alloc (.cells #[.int .u64 (bh : Int), .int .u64 (bl : Int)] 33)).alloc (.cells #[.int .u64 0, .int .u64 0] 33))
    have RB_1 := Lib.hid ((row_last (w.alloc (.cells #[.int .u64 (ah : Int), .int .u64 (al : Int)] 33)) (w.heap.size + 1) 33 [.int .u64 (bh : Int), .int .u64 (bl : Int)] (by simp)).alloc (.cells #[.int .u64 0, .int .u64 0] 33))
    have RR_1 := Lib.hid (row_last ((w.alloc (.cells #[.int .u64 (ah : Int), .int .u64 (al : Int)] 33)).alloc (.cells #[.int .u64 (bh : Int), .int .u64 (bl : Int)] 33)) (w.heap.size + 1 + 1) 33 [.int .u64 0, .int .u64 0] (by simp))
    have B_1 := Lib.hid ((((Below.refl w.heap.size w).alloc (Nat.le_refl _) (.cells #[.int .u64 (ah : Int), .int .u64 (al : Int)] 33)).alloc (by have := Nat.le_refl w.heap.size; simp <;> omega) (.cells #[.int .u64 (bh : Int), .int .u64 (bl : Int)] 33)).alloc (by have := Nat.le_refl w.heap.size; simp <;> omega) (.cells #[.int .u64 0, .int .u64 0] 33))
    generalize (((w.alloc (.cells #[.int .u64 (ah : Int), .int .u64 (al : Int)] 33)).alloc (.cells #[.int .u64 (bh : Int), .int .u64 (bl : Int)] 33)).alloc (.cells #[.int .u64 0, .int .u64 0] 33)) = V1 at RA_1 RB_1 RR_1 B_1 ⊢
    have c3_0 := RA_1.out.cell 0
    have c3_1 := RA_1.out.cell 1
    simp only [List.getElem?_cons_zero, List.getElem?_cons_succ] at c3_0 c3_1
    have c4_0 := RB_1.out.cell 0
    have c4_1 := RB_1.out.cell 1
    simp only [List.getElem?_cons_zero, List.getElem?_cons_succ] at c4_0 c4_1
    go_wp2_with fail
    refine (HS.out _).mono ?_
    rintro e W2 ⟨rfl, hb⟩
    clear c3_0 c3_1 c4_0 c4_1
    have RA_5 := Lib.hid (RA_1.out.below hb RA_1.out.lt)
    have RB_5 := Lib.hid (RB_1.out.below hb RB_1.out.lt)
    have RR_5 := Lib.hid (RR_1.out.below hb RR_1.out.lt)
    have B_5 := Lib.hid (B_1.out.trans (hb.mono B_1.out.size))
    clear hb RA_1 RB_1 RR_1 B_1
    go_upto_region 2 with fail
    have hlt6_0 : w.heap.size < W2.heap.size := RA_5.out.lt
    have hlt6_1 : w.heap.size + 1 < W2.heap.size := RB_5.out.lt
    have hlt6_2 : w.heap.size + 1 + 1 < W2.heap.size := RR_5.out.lt
    have RA_6 := Lib.hid (RA_5.out.alloc (.cells #[.int .u64 (h : Int), .int .u64 (l : Int)] 33))
    have RB_6 := Lib.hid (RB_5.out.alloc (.cells #[.int .u64 (h : Int), .int .u64 (l : Int)] 33))
    have RR_6 := Lib.hid (RR_5.out.alloc (.cells #[.int .u64 (h : Int), .int .u64 (l : Int)] 33))
    have RD_6 := Lib.hid (row_last W2 (W2.heap.size) 33 [.int .u64 (h : Int), .int .u64 (l : Int)] (by simp))
    have B_6 := Lib.hid (B_5.out.alloc B_5.out.size (.cells #[.int .u64 (h : Int), .int .u64 (l : Int)] 33))
    clear RA_5 RB_5 RR_5 B_5
    generalize (W2.alloc (.cells #[.int .u64 (h : Int), .int .u64 (l : Int)] 33)) = V6 at RA_6 RB_6 RR_6 RD_6 B_6 ⊢
    have c7_0 := RD_6.out.cell 0
    have c7_1 := RD_6.out.cell 1
    simp only [List.getElem?_cons_zero, List.getElem?_cons_succ] at c7_0 c7_1
    have c8_0 := RR_6.out.cell 0
    have c8_1 := RR_6.out.cell 1
    simp only [List.getElem?_cons_zero, List.getElem?_cons_succ] at c8_0 c8_1
    have f8_0 := RR_6.out.frozen 0
    have f8_1 := RR_6.out.frozen 1
    go_wp2
    exact bodyPost_ret (v := .agg #[.int .u64 (h : Int), .int .u64 (l : Int)]) (by simp [results, Try.results66, go_sem, *]) rfl ⟨rfl, by repeat (first | exact B_6.out | refine Below.setCell ?_ (by first | omega | (simp; done) | (simp; omega)) _ | refine Below.alloc ?_ (by have := B_6.out.size; first | omega | (simp; done) | (simp; omega)) _)⟩
  · have hd : decide (c = 1) = false := decide_eq_false (fun h => hb (hc.1 h))
    rw [Nat.sub_eq_zero_of_le (Nat.le_of_lt (Nat.lt_of_not_le hb))] at HD
    obtain ⟨rfl, rfl⟩ := HD.zero
    rw [hd] at hS
    have HS := Lib.hid hS
    clear hw hc hb HD hd hS
    go_enter Try.func66, Try.ntmps66
    go_upto_region 1 with fail
    have RA_1 := Lib.hid (((row_last w (w.heap.size) 33 [.int .u64 (ah : Int), .int .u64 (al : Int)] (by simp)).alloc (.cells #[.int .u64 (bh : Int), .int .u64 (bl : Int)] 33)).alloc (.cells #[.int .u64 0, .int .u64 0] 33))
    have RB_1 := Lib.hid ((row_last (w.alloc (.cells #[.int .u64 (ah : Int), .int .u64 (al : Int)] 33)) (w.heap.size + 1) 33 [.int .u64 (bh : Int), .int .u64 (bl : Int)] (by simp)).alloc (.cells #[.int .u64 0, .int .u64 0] 33))
    have RR_1 := Lib.hid (row_last ((w.alloc (.cells #[.int .u64 (ah : Int), .int .u64 (al : Int)] 33)).alloc (.cells #[.int .u64 (bh : Int), .int .u64 (bl : Int)] 33)) (w.heap.size + 1 + 1) 33 [.int .u64 0, .int .u64 0] (by simp))
    have B_1 := Lib.hid ((((Below.refl w.heap.size w).alloc (Nat.le_refl _) (.cells #[.int .u64 (ah : Int), .int .u64 (al : Int)] 33)).alloc (by have := Nat.le_refl w.heap.size; simp <;> omega) (.cells #[.int .u64 (bh : Int), .int .u64 (bl : Int)] 33)).alloc (by have := Nat.le_refl w.heap.size; simp <;> omega) (.cells #[.int .u64 0, .int .u64 0] 33))
    generalize (((w.alloc (.cells #[.int .u64 (ah : Int), .int .u64 (al : Int)] 33)).alloc (.cells #[.int .u64 (bh : Int), .int .u64 (bl : Int)] 33)).alloc (.cells #[.int .u64 0, .int .u64 0] 33)) = V1 at RA_1 RB_1 RR_1 B_1 ⊢
    have c3_0 := RA_1.out.cell 0
    have c3_1 := RA_1.out.cell 1
    simp only [List.getElem?_cons_zero, List.getElem?_cons_succ] at c3_0 c3_1
    have c4_0 := RB_1.out.cell 0
    have c4_1 := RB_1.out.cell 1
    simp only [List.getElem?_cons_zero, List.getElem?_cons_succ] at c4_0 c4_1
    go_wp2_with fail
    refine (HS.out _).mono ?_
    rintro e W2 ⟨rfl, hb⟩
    clear c3_0 c3_1 c4_0 c4_1
    have RA_5 := Lib.hid (RA_1.out.below hb RA_1.out.lt)
    have RB_5 := Lib.hid (RB_1.out.below hb RB_1.out.lt)
    have RR_5 := Lib.hid (RR_1.out.below hb RR_1.out.lt)
    have B_5 := Lib.hid (B_1.out.trans (hb.mono B_1.out.size))
    clear hb RA_1 RB_1 RR_1 B_1
    go_upto_region 2 with fail
    have hlt6_0 : w.heap.size < W2.heap.size := RA_5.out.lt
    have hlt6_1 : w.heap.size + 1 < W2.heap.size := RB_5.out.lt
    have hlt6_2 : w.heap.size + 1 + 1 < W2.heap.size := RR_5.out.lt
    have RA_6 := Lib.hid (RA_5.out.alloc (.cells #[.int .u64 (h' : Int), .int .u64 (l' : Int)] 33))
    have RB_6 := Lib.hid (RB_5.out.alloc (.cells #[.int .u64 (h' : Int), .int .u64 (l' : Int)] 33))
    have RR_6 := Lib.hid (RR_5.out.alloc (.cells #[.int .u64 (h' : Int), .int .u64 (l' : Int)] 33))
    have RD_6 := Lib.hid (row_last W2 (W2.heap.size) 33 [.int .u64 (h' : Int), .int .u64 (l' : Int)] (by simp))
    have B_6 := Lib.hid (B_5.out.alloc B_5.out.size (.cells #[.int .u64 (h' : Int), .int .u64 (l' : Int)] 33))
    clear RA_5 RB_5 RR_5 B_5
    generalize (W2.alloc (.cells #[.int .u64 (h' : Int), .int .u64 (l' : Int)] 33)) = V6 at RA_6 RB_6 RR_6 RD_6 B_6 ⊢
    have c7_0 := RD_6.out.cell 0
    have c7_1 := RD_6.out.cell 1
    simp only [List.getElem?_cons_zero, List.getElem?_cons_succ] at c7_0 c7_1
    have c8_0 := RR_6.out.cell 0
    have c8_1 := RR_6.out.cell 1
    simp only [List.getElem?_cons_zero, List.getElem?_cons_succ] at c8_0 c8_1
    have f8_0 := RR_6.out.frozen 0
    have f8_1 := RR_6.out.frozen 1
    go_wp2
    exact bodyPost_ret (v := .agg #[.int .u64 0, .int .u64 0]) (by simp [results, Try.results66, go_sem, *]) rfl ⟨rfl, by repeat (first | exact B_6.out | refine Below.setCell ?_ (by first | omega | (simp; done) | (simp; omega)) _ | refine Below.alloc ?_ (by have := B_6.out.size; first | omega | (simp; done) | (simp; omega)) _)⟩
end Go.Proofs.Ytbmfijcckdkmdaa.Ky
