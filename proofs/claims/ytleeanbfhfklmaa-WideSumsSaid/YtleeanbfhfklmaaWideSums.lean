/-
  WideSums: whatever sum, difference and order is the document's. No condition.
-/
import Derived.Test.YtleeanbfhfklmaaWi5
import Derived.Test.YtleeanbfhfklmaaWiH
import Derived.Test.YtleeanbfhfklmaaWiO
import Derived.Deep.RegionHeld
import Derived.Deep.Cut
import Derived.WalkLawsBesides
namespace Go.Proofs.Ytleeanbfhfklmaa.WideSums
set_option maxRecDepth 100000
open Go.ChangeShapes Go.WideShapes Go.ChangeAt Go.RowKit Go.Proofs.Ytleeanbfhfklmaa.Wd Go.Proofs.Ytleeanbfhfklmaa.Wi

theorem own : ownKnob Try.prog.godebug = none := by kernel_rfl
theorem laidOut : laidOutB Try.prog = true := by kernel_rfl


theorem sum_parts (a b : Nat) (ha : a < 340282366920938463463374607431768211456) (hb : b < 340282366920938463463374607431768211456) : ∃ c h l : Nat, h < 18446744073709551616 ∧ l < 18446744073709551616 ∧ c ≤ 1 ∧ a + b = c * 340282366920938463463374607431768211456 + (h * 18446744073709551616 + l) := by
  obtain ⟨h, l, h1, h2, h3⟩ := parts ((a + b) % 340282366920938463463374607431768211456) (by omega)
  exact ⟨(a + b) / 340282366920938463463374607431768211456, h, l, h1, h2, by omega, by omega⟩
set_option maxHeartbeats 4000000 in
theorem walk (ah al bh bl : Nat) (w : World) (h1 : ah < 18446744073709551616) (h2 : al < 18446744073709551616) (h3 : bh < 18446744073709551616) (h4 : bl < 18446744073709551616) :
    Calls Try.prog 4 #[.agg #[.int .u64 (ah : Int), .int .u64 (al : Int)], .agg #[.int .u64 (bh : Int), .int .u64 (bl : Int)]] w fun e w' => e = .returned (.bool true) ∧ Below w.heap.size w w' := by
  have HW := Lib.hid wakes_any
  obtain ⟨c, xh, xl, hx1, hx2, hc, hs⟩ := sum_parts (ah * 18446744073709551616 + al) (bh * 18446744073709551616 + bl) (two_lt h1 h2) (two_lt h3 h4)
  obtain ⟨d, ph, pl, hp1, hp2, hd, ht, hdd⟩ := sub_parts (ah * 18446744073709551616 + al) (bh * 18446744073709551616 + bl) (two_lt h1 h2) (two_lt h3 h4)
  have HA := Lib.hid (fun w => Add_any ah al bh bl xh xl c w h1 h2 h3 h4 hx1 hx2 hs)
  have HR := Lib.hid (fun w => Add_ref ah al bh bl xh xl c w h1 h2 h3 h4 hx1 hx2 hc hs)
  have HS := Lib.hid (fun w => Sub_any ah al bh bl ph pl d w h1 h2 h3 h4 hp1 hp2 ht)
  have HT := Lib.hid (fun w => Sub_ref ah al bh bl ph pl d w h1 h2 h3 h4 hp1 hp2 hdd ht)
  have HC := Lib.hid (fun w => Cmp_any ah al bh bl w h1 h2 h3 h4)
  have HD := Lib.hid (fun w => Cmp_ref ah al bh bl w h1 h2 h3 h4)
  clear hs ht hdd
  generalize decide (c = 0) = f1 at HA HR
  generalize decide (d = 1) = f2 at HS HT
  obtain ⟨s, hs⟩ : ∃ s, cmpM (ah * 18446744073709551616 + al) (bh * 18446744073709551616 + bl) = s := ⟨_, rfl⟩
  rw [hs] at HC HD
  clear hs
  go_enter Try.func4, Try.ntmps4
  go_upto_region 1 with fail
  have RA_0 := Lib.hid ((row_last w (w.heap.size) 25 [.int .u64 (ah : Int), .int .u64 (al : Int)] (by simp)).alloc (.cells #[.int .u64 (bh : Int), .int .u64 (bl : Int)] 25))
  have RB_0 := Lib.hid (row_last (w.alloc (.cells #[.int .u64 (ah : Int), .int .u64 (al : Int)] 25)) (w.heap.size + 1) 25 [.int .u64 (bh : Int), .int .u64 (bl : Int)] (by simp))
  have B_0 := Lib.hid (((Below.refl w.heap.size w).alloc (Nat.le_refl _) (.cells #[.int .u64 (ah : Int), .int .u64 (al : Int)] 25)).alloc (by simp <;> omega) (.cells #[.int .u64 (bh : Int), .int .u64 (bl : Int)] 25))
  generalize ((w.alloc (.cells #[.int .u64 (ah : Int), .int .u64 (al : Int)] 25)).alloc (.cells #[.int .u64 (bh : Int), .int .u64 (bl : Int)] 25)) = V0 at RA_0 RB_0 B_0 ⊢
  go_wp2_with fail
  refine (HW.out _).mono ?_
  rintro e W1 ⟨rfl, hb⟩
  have RA_2 := Lib.hid (RA_0.out.below hb RA_0.out.lt)
  have RB_2 := Lib.hid (RB_0.out.below hb RB_0.out.lt)
  have B_2 := Lib.hid (B_0.out.trans (hb.mono B_0.out.size))
  clear hb RA_0 RB_0 B_0
  have c0_0 := RA_2.out.cell 0
  have c0_1 := RA_2.out.cell 1
  simp at c0_0 c0_1
  have l0 := RA_2.out.lt
  have c1_0 := RB_2.out.cell 0
  have c1_1 := RB_2.out.cell 1
  simp at c1_0 c1_1
  have l1 := RB_2.out.lt
  go_wp2_with fail
  refine (HA.out _).mono ?_
  rintro e W3 ⟨rfl, hb⟩
  clear c0_0 c0_1 l0 c1_0 c1_1 l1
  have RA_4 := Lib.hid (RA_2.out.below hb RA_2.out.lt)
  have RB_4 := Lib.hid (RB_2.out.below hb RB_2.out.lt)
  have B_4 := Lib.hid (B_2.out.trans (hb.mono B_2.out.size))
  clear hb RA_2 RB_2 B_2
  have RA_5 := Lib.hid (RA_4.out.alloc (.cells #[.int .u64 (xh : Int), .int .u64 (xl : Int)] 25))
  have RB_5 := Lib.hid (RB_4.out.alloc (.cells #[.int .u64 (xh : Int), .int .u64 (xl : Int)] 25))
  have RX_5 := Lib.hid (Row.new W3 25 [.int .u64 (xh : Int), .int .u64 (xl : Int)])
  have B_5 := Lib.hid (B_4.out.alloc B_4.out.size (.cells #[.int .u64 (xh : Int), .int .u64 (xl : Int)] 25))
  go_upto_region 4 with fail
  obtain ⟨gRX, hgRX⟩ : ∃ g, g = W3.heap.size := ⟨_, rfl⟩
  clear RA_4 RB_4 B_4
  rw [← hgRX] at RX_5 ⊢
  clear hgRX
  generalize W3.alloc (.cells #[.int .u64 (xh : Int), .int .u64 (xl : Int)] 25) = V5 at RA_5 RB_5 RX_5 B_5 ⊢
  have c0_0 := RA_5.out.cell 0
  have c0_1 := RA_5.out.cell 1
  simp at c0_0 c0_1
  have l0 := RA_5.out.lt
  have c1_0 := RB_5.out.cell 0
  have c1_1 := RB_5.out.cell 1
  simp at c1_0 c1_1
  have l1 := RB_5.out.lt
  have c2_0 := RX_5.out.cell 0
  have c2_1 := RX_5.out.cell 1
  simp at c2_0 c2_1
  have l2 := RX_5.out.lt
  go_wp2_with fail
  refine (HR.out _).mono ?_
  rintro e W6 ⟨rfl, hb⟩
  clear c0_0 c0_1 l0 c1_0 c1_1 l1 c2_0 c2_1 l2
  have RA_7 := Lib.hid (RA_5.out.below hb RA_5.out.lt)
  have RB_7 := Lib.hid (RB_5.out.below hb RB_5.out.lt)
  have RX_7 := Lib.hid (RX_5.out.below hb RX_5.out.lt)
  have B_7 := Lib.hid (B_5.out.trans (hb.mono B_5.out.size))
  clear hb RA_5 RB_5 RX_5 B_5
  have RA_8 := Lib.hid (RA_7.out.alloc (.cells #[.int .u64 (xh : Int), .int .u64 (xl : Int)] 25))
  have RB_8 := Lib.hid (RB_7.out.alloc (.cells #[.int .u64 (xh : Int), .int .u64 (xl : Int)] 25))
  have RX_8 := Lib.hid (RX_7.out.alloc (.cells #[.int .u64 (xh : Int), .int .u64 (xl : Int)] 25))
  have RY_8 := Lib.hid (Row.new W6 25 [.int .u64 (xh : Int), .int .u64 (xl : Int)])
  have B_8 := Lib.hid (B_7.out.alloc B_7.out.size (.cells #[.int .u64 (xh : Int), .int .u64 (xl : Int)] 25))
  go_upto_region 5 with fail
  obtain ⟨gRY, hgRY⟩ : ∃ g, g = W6.heap.size := ⟨_, rfl⟩
  clear RA_7 RB_7 RX_7 B_7
  rw [← hgRY] at RY_8 ⊢
  clear hgRY
  generalize W6.alloc (.cells #[.int .u64 (xh : Int), .int .u64 (xl : Int)] 25) = V8 at RA_8 RB_8 RX_8 RY_8 B_8 ⊢
  have c0_0 := RA_8.out.cell 0
  have c0_1 := RA_8.out.cell 1
  simp at c0_0 c0_1
  have l0 := RA_8.out.lt
  have c1_0 := RB_8.out.cell 0
  have c1_1 := RB_8.out.cell 1
  simp at c1_0 c1_1
  have l1 := RB_8.out.lt
  have c2_0 := RX_8.out.cell 0
  have c2_1 := RX_8.out.cell 1
  simp at c2_0 c2_1
  have l2 := RX_8.out.lt
  have c3_0 := RY_8.out.cell 0
  have c3_1 := RY_8.out.cell 1
  simp at c3_0 c3_1
  have l3 := RY_8.out.lt
  go_wp2_with fail
  refine (HS.out _).mono ?_
  rintro e W9 ⟨rfl, hb⟩
  clear c0_0 c0_1 l0 c1_0 c1_1 l1 c2_0 c2_1 l2 c3_0 c3_1 l3
  have RA_10 := Lib.hid (RA_8.out.below hb RA_8.out.lt)
  have RB_10 := Lib.hid (RB_8.out.below hb RB_8.out.lt)
  have RX_10 := Lib.hid (RX_8.out.below hb RX_8.out.lt)
  have RY_10 := Lib.hid (RY_8.out.below hb RY_8.out.lt)
  have B_10 := Lib.hid (B_8.out.trans (hb.mono B_8.out.size))
  clear hb RA_8 RB_8 RX_8 RY_8 B_8
  have RA_11 := Lib.hid (RA_10.out.alloc (.cells #[.int .u64 (ph : Int), .int .u64 (pl : Int)] 25))
  have RB_11 := Lib.hid (RB_10.out.alloc (.cells #[.int .u64 (ph : Int), .int .u64 (pl : Int)] 25))
  have RX_11 := Lib.hid (RX_10.out.alloc (.cells #[.int .u64 (ph : Int), .int .u64 (pl : Int)] 25))
  have RY_11 := Lib.hid (RY_10.out.alloc (.cells #[.int .u64 (ph : Int), .int .u64 (pl : Int)] 25))
  have RP_11 := Lib.hid (Row.new W9 25 [.int .u64 (ph : Int), .int .u64 (pl : Int)])
  have B_11 := Lib.hid (B_10.out.alloc B_10.out.size (.cells #[.int .u64 (ph : Int), .int .u64 (pl : Int)] 25))
  go_upto_region 6 with fail
  obtain ⟨gRP, hgRP⟩ : ∃ g, g = W9.heap.size := ⟨_, rfl⟩
  clear RA_10 RB_10 RX_10 RY_10 B_10
  rw [← hgRP] at RP_11 ⊢
  clear hgRP
  generalize W9.alloc (.cells #[.int .u64 (ph : Int), .int .u64 (pl : Int)] 25) = V11 at RA_11 RB_11 RX_11 RY_11 RP_11 B_11 ⊢
  have c0_0 := RA_11.out.cell 0
  have c0_1 := RA_11.out.cell 1
  simp at c0_0 c0_1
  have l0 := RA_11.out.lt
  have c1_0 := RB_11.out.cell 0
  have c1_1 := RB_11.out.cell 1
  simp at c1_0 c1_1
  have l1 := RB_11.out.lt
  have c2_0 := RX_11.out.cell 0
  have c2_1 := RX_11.out.cell 1
  simp at c2_0 c2_1
  have l2 := RX_11.out.lt
  have c3_0 := RY_11.out.cell 0
  have c3_1 := RY_11.out.cell 1
  simp at c3_0 c3_1
  have l3 := RY_11.out.lt
  have c4_0 := RP_11.out.cell 0
  have c4_1 := RP_11.out.cell 1
  simp at c4_0 c4_1
  have l4 := RP_11.out.lt
  go_wp2_with fail
  refine (HT.out _).mono ?_
  rintro e W12 ⟨rfl, hb⟩
  clear c0_0 c0_1 l0 c1_0 c1_1 l1 c2_0 c2_1 l2 c3_0 c3_1 l3 c4_0 c4_1 l4
  have RA_13 := Lib.hid (RA_11.out.below hb RA_11.out.lt)
  have RB_13 := Lib.hid (RB_11.out.below hb RB_11.out.lt)
  have RX_13 := Lib.hid (RX_11.out.below hb RX_11.out.lt)
  have RY_13 := Lib.hid (RY_11.out.below hb RY_11.out.lt)
  have RP_13 := Lib.hid (RP_11.out.below hb RP_11.out.lt)
  have B_13 := Lib.hid (B_11.out.trans (hb.mono B_11.out.size))
  clear hb RA_11 RB_11 RX_11 RY_11 RP_11 B_11
  have RA_14 := Lib.hid (RA_13.out.alloc (.cells #[.int .u64 (ph : Int), .int .u64 (pl : Int)] 25))
  have RB_14 := Lib.hid (RB_13.out.alloc (.cells #[.int .u64 (ph : Int), .int .u64 (pl : Int)] 25))
  have RX_14 := Lib.hid (RX_13.out.alloc (.cells #[.int .u64 (ph : Int), .int .u64 (pl : Int)] 25))
  have RY_14 := Lib.hid (RY_13.out.alloc (.cells #[.int .u64 (ph : Int), .int .u64 (pl : Int)] 25))
  have RP_14 := Lib.hid (RP_13.out.alloc (.cells #[.int .u64 (ph : Int), .int .u64 (pl : Int)] 25))
  have RQ_14 := Lib.hid (Row.new W12 25 [.int .u64 (ph : Int), .int .u64 (pl : Int)])
  have B_14 := Lib.hid (B_13.out.alloc B_13.out.size (.cells #[.int .u64 (ph : Int), .int .u64 (pl : Int)] 25))
  go_upto_region 7 with fail
  obtain ⟨gRQ, hgRQ⟩ : ∃ g, g = W12.heap.size := ⟨_, rfl⟩
  clear RA_13 RB_13 RX_13 RY_13 RP_13 B_13
  rw [← hgRQ] at RQ_14 ⊢
  clear hgRQ
  generalize W12.alloc (.cells #[.int .u64 (ph : Int), .int .u64 (pl : Int)] 25) = V14 at RA_14 RB_14 RX_14 RY_14 RP_14 RQ_14 B_14 ⊢
  refine wp_region_held_drew (S := fun w' => Below V14.heap.size V14 w') (by kernel_rfl) (Below.refl _ _).drew (fun hHeld => ?_)
  have S_15 := Lib.hid hHeld
  clear hHeld
  generalize V14.drew = D15 at S_15 ⊢
  refine wpAnyH_take (i := 0) (oi := ⟨some 39, _, _, _, _, _⟩) (v := ?vz15_1) rfl (by kernel_rfl) (by kernel_rfl) (by kernel_rfl) (fun _ _ _ h => h) (Or.inl ⟨by rfl, ?yz15_1⟩) S_15.out ?rz15_1
  case yz15_1 =>
    rintro w' hSw
    have k0 := (RX_14.out.below hSw RX_14.out.lt).cell 0
    have k1 := (RX_14.out.below hSw RX_14.out.lt).cell 1
    simp at k0 k1
    go_simp
    try with_reducible rfl
  try simp only [Act.put, List.setIfInBounds_toArray, List.set_cons_zero, List.set_cons_succ]
  refine wpAnyH_take (i := 1) (oi := ⟨some 40, _, _, _, _, _⟩) (v := ?vz15_2) rfl (by kernel_rfl) (by kernel_rfl) (by kernel_rfl) (fun _ _ _ h => h) (Or.inl ⟨by rfl, ?yz15_2⟩) S_15.out ?rz15_2
  case yz15_2 =>
    rintro w' hSw
    have k0 := (RY_14.out.below hSw RY_14.out.lt).cell 0
    have k1 := (RY_14.out.below hSw RY_14.out.lt).cell 1
    simp at k0 k1
    go_simp
    try with_reducible rfl
  try simp only [Act.put, List.setIfInBounds_toArray, List.set_cons_zero, List.set_cons_succ]
  refine wpAnyH_take (i := 2) (oi := ⟨some 41, _, _, _, _, _⟩) (v := ?vz15_3) rfl (by kernel_rfl) (by kernel_rfl) (by kernel_rfl) (fun _ _ _ h => h) (Or.inl ⟨by rfl, ?yz15_3⟩) S_15.out ?rz15_3
  case yz15_3 =>
    rintro w' hSw
    go_simp
    try with_reducible rfl
  try simp only [Act.put, List.setIfInBounds_toArray, List.set_cons_zero, List.set_cons_succ]
  refine wpAnyH_take (i := 3) (oi := ⟨some 42, _, _, _, _, _⟩) (v := ?vz15_4) rfl (by kernel_rfl) (by kernel_rfl) (by kernel_rfl) (fun _ _ _ h => h) (Or.inl ⟨by rfl, ?yz15_4⟩) S_15.out ?rz15_4
  case yz15_4 =>
    rintro w' hSw
    go_simp
    try with_reducible rfl
  try simp only [Act.put, List.setIfInBounds_toArray, List.set_cons_zero, List.set_cons_succ]
  refine wpAnyH_take (i := 4) (oi := ⟨some 43, _, _, _, _, _⟩) (v := ?vz15_5) rfl (by kernel_rfl) (by kernel_rfl) (by kernel_rfl) (fun _ _ _ h => h) (Or.inl ⟨by rfl, ?yz15_5⟩) S_15.out ?rz15_5
  case yz15_5 =>
    rintro w' hSw
    go_simp
    try with_reducible rfl
  try simp only [Act.put, List.setIfInBounds_toArray, List.set_cons_zero, List.set_cons_succ]
  refine wpAnyH_take (i := 5) (oi := ⟨some 44, _, _, _, _, _⟩) (v := ?vz15_6) rfl (by kernel_rfl) (by kernel_rfl) (by kernel_rfl) (fun _ _ _ h => h) (Or.inl ⟨by rfl, ?yz15_6⟩) S_15.out ?rz15_6
  case yz15_6 =>
    rintro w' hSw
    go_simp
    try with_reducible rfl
  try simp only [Act.put, List.setIfInBounds_toArray, List.set_cons_zero, List.set_cons_succ]
  refine wpAnyH_take (i := 6) (oi := ⟨some 45, _, _, _, _, _⟩) (v := ?vz15_7) rfl (by kernel_rfl) (by kernel_rfl) (by kernel_rfl) (fun _ _ _ h => h) (Or.inl ⟨by rfl, ?yz15_7⟩) S_15.out ?rz15_7
  case yz15_7 =>
    rintro w' hSw
    go_simp
    try with_reducible rfl
  try simp only [Act.put, List.setIfInBounds_toArray, List.set_cons_zero, List.set_cons_succ]
  refine wpAnyH_take (i := 7) (oi := ⟨some 46, _, _, _, _, _⟩) (v := ?vz15_8) rfl (by kernel_rfl) (by kernel_rfl) (by kernel_rfl) (fun _ _ _ h => h) (Or.inl ⟨by rfl, ?yz15_8⟩) S_15.out ?rz15_8
  case yz15_8 =>
    rintro w' hSw
    go_simp
    try with_reducible rfl
  try simp only [Act.put, List.setIfInBounds_toArray, List.set_cons_zero, List.set_cons_succ]
  refine wpAnyH_take (i := 8) (oi := ⟨some 47, _, _, _, _, _⟩) (v := ?vz15_9) rfl (by kernel_rfl) (by kernel_rfl) (by kernel_rfl) (fun _ _ _ h => h) (Or.inl ⟨by rfl, ?yz15_9⟩) S_15.out ?rz15_9
  case yz15_9 =>
    rintro w' hSw
    go_simp
    try with_reducible rfl
  try simp only [Act.put, List.setIfInBounds_toArray, List.set_cons_zero, List.set_cons_succ]
  refine wpAnyH_take (i := 9) (oi := ⟨some 48, _, _, _, _, _⟩) (v := ?vz15_10) rfl (by kernel_rfl) (by kernel_rfl) (by kernel_rfl) (fun _ _ _ h => h) (Or.inl ⟨by rfl, ?yz15_10⟩) S_15.out ?rz15_10
  case yz15_10 =>
    rintro w' hSw
    have k0 := (RP_14.out.below hSw RP_14.out.lt).cell 0
    have k1 := (RP_14.out.below hSw RP_14.out.lt).cell 1
    simp at k0 k1
    go_simp
    try with_reducible rfl
  try simp only [Act.put, List.setIfInBounds_toArray, List.set_cons_zero, List.set_cons_succ]
  refine wpAnyH_take (i := 10) (oi := ⟨some 49, _, _, _, _, _⟩) (v := ?vz15_11) rfl (by kernel_rfl) (by kernel_rfl) (by kernel_rfl) (fun _ _ _ h => h) (Or.inl ⟨by rfl, ?yz15_11⟩) S_15.out ?rz15_11
  case yz15_11 =>
    rintro w' hSw
    have k0 := (RQ_14.out.below hSw RQ_14.out.lt).cell 0
    have k1 := (RQ_14.out.below hSw RQ_14.out.lt).cell 1
    simp at k0 k1
    go_simp
    try with_reducible rfl
  try simp only [Act.put, List.setIfInBounds_toArray, List.set_cons_zero, List.set_cons_succ]
  refine wpAnyH_take (i := 11) (oi := ⟨some 50, _, _, _, _, _⟩) (v := ?vz15_12) rfl (by kernel_rfl) (by kernel_rfl) (by kernel_rfl) (fun _ _ _ h => h) (Or.inl ⟨by rfl, ?yz15_12⟩) S_15.out ?rz15_12
  case yz15_12 =>
    rintro w' hSw
    go_simp
    try with_reducible rfl
  try simp only [Act.put, List.setIfInBounds_toArray, List.set_cons_zero, List.set_cons_succ]
  refine wpAnyH_take (i := 12) (oi := ⟨some 51, _, _, _, _, _⟩) (v := ?vz15_13) rfl (by kernel_rfl) (by kernel_rfl) (by kernel_rfl) (fun _ _ _ h => h) (Or.inl ⟨by rfl, ?yz15_13⟩) S_15.out ?rz15_13
  case yz15_13 =>
    rintro w' hSw
    go_simp
    try with_reducible rfl
  try simp only [Act.put, List.setIfInBounds_toArray, List.set_cons_zero, List.set_cons_succ]
  refine wpAnyH_take (i := 13) (oi := ⟨some 52, _, _, _, _, _⟩) (v := ?vz15_14) rfl (by kernel_rfl) (by kernel_rfl) (by kernel_rfl) (fun _ _ _ h => h) (Or.inl ⟨by rfl, ?yz15_14⟩) S_15.out ?rz15_14
  case yz15_14 =>
    rintro w' hSw
    go_simp
    try with_reducible rfl
  try simp only [Act.put, List.setIfInBounds_toArray, List.set_cons_zero, List.set_cons_succ]
  refine wpAnyH_take (i := 14) (oi := ⟨some 53, _, _, _, _, _⟩) (v := ?vz15_15) rfl (by kernel_rfl) (by kernel_rfl) (by kernel_rfl) (fun _ _ _ h => h) (Or.inl ⟨by rfl, ?yz15_15⟩) S_15.out ?rz15_15
  case yz15_15 =>
    rintro w' hSw
    go_simp
    try with_reducible rfl
  try simp only [Act.put, List.setIfInBounds_toArray, List.set_cons_zero, List.set_cons_succ]
  refine wpAnyH_take (i := 15) (oi := ⟨some 54, _, _, _, _, _⟩) (v := ?vz15_16) rfl (by kernel_rfl) (by kernel_rfl) (by kernel_rfl) (fun _ _ _ h => h) (Or.inl ⟨by rfl, ?yz15_16⟩) S_15.out ?rz15_16
  case yz15_16 =>
    rintro w' hSw
    go_simp
    try with_reducible rfl
  try simp only [Act.put, List.setIfInBounds_toArray, List.set_cons_zero, List.set_cons_succ]
  refine wpAnyH_take (i := 16) (oi := ⟨some 55, _, _, _, _, _⟩) (v := ?vz15_17) rfl (by kernel_rfl) (by kernel_rfl) (by kernel_rfl) (fun _ _ _ h => h) (Or.inl ⟨by rfl, ?yz15_17⟩) S_15.out ?rz15_17
  case yz15_17 =>
    rintro w' hSw
    go_simp
    try with_reducible rfl
  try simp only [Act.put, List.setIfInBounds_toArray, List.set_cons_zero, List.set_cons_succ]
  refine wpAnyH_take (i := 17) (oi := ⟨some 56, _, _, _, _, _⟩) (v := ?vz15_18) rfl (by kernel_rfl) (by kernel_rfl) (by kernel_rfl) (fun _ _ _ h => h) (Or.inl ⟨by rfl, ?yz15_18⟩) S_15.out ?rz15_18
  case yz15_18 =>
    rintro w' hSw
    go_simp
    try with_reducible rfl
  try simp only [Act.put, List.setIfInBounds_toArray, List.set_cons_zero, List.set_cons_succ]
  refine wpAnyH_take (i := 18) (oi := ⟨some 57, _, _, _, _, _⟩) (v := ?vz15_19) rfl (by kernel_rfl) (by kernel_rfl) (by kernel_rfl) (fun _ _ _ h => h) (Or.inl ⟨by rfl, ?yz15_19⟩) S_15.out ?rz15_19
  case yz15_19 =>
    rintro w' hSw
    go_simp
    try with_reducible rfl
  try simp only [Act.put, List.setIfInBounds_toArray, List.set_cons_zero, List.set_cons_succ]
  refine wpAnyH_take (i := 19) (oi := ⟨some 58, _, _, _, _, _⟩) (v := ?vz15_20) rfl (by kernel_rfl) (by kernel_rfl) (by kernel_rfl) (fun _ _ _ h => h) (Or.inl ⟨by rfl, ?yz15_20⟩) S_15.out ?rz15_20
  case yz15_20 =>
    rintro w' hSw
    have k0 := (RA_14.out.below hSw RA_14.out.lt).cell 0
    have k1 := (RA_14.out.below hSw RA_14.out.lt).cell 1
    simp at k0 k1
    go_simp
    try with_reducible rfl
  try simp only [Act.put, List.setIfInBounds_toArray, List.set_cons_zero, List.set_cons_succ]
  refine wpAnyH_take (i := 20) (oi := ⟨some 59, _, _, _, _, _⟩) (v := ?vz15_21) rfl (by kernel_rfl) (by kernel_rfl) (by kernel_rfl) (fun _ _ _ h => h) (Or.inl ⟨by rfl, ?yz15_21⟩) S_15.out ?rz15_21
  case yz15_21 =>
    rintro w' hSw
    have k0 := (RB_14.out.below hSw RB_14.out.lt).cell 0
    have k1 := (RB_14.out.below hSw RB_14.out.lt).cell 1
    simp at k0 k1
    go_simp
    try with_reducible rfl
  try simp only [Act.put, List.setIfInBounds_toArray, List.set_cons_zero, List.set_cons_succ]
  refine wpAnyH_take (i := 22) (oi := ⟨some 61, _, _, _, _, _⟩) (v := ?vz15_22) rfl (by kernel_rfl) (by kernel_rfl) (by kernel_rfl) (fun _ _ _ h => h) (Or.inl ⟨by rfl, ?yz15_22⟩) S_15.out ?rz15_22
  case yz15_22 =>
    rintro w' hSw
    have k0 := (RA_14.out.below hSw RA_14.out.lt).cell 0
    have k1 := (RA_14.out.below hSw RA_14.out.lt).cell 1
    simp at k0 k1
    go_simp
    try with_reducible rfl
  try simp only [Act.put, List.setIfInBounds_toArray, List.set_cons_zero, List.set_cons_succ]
  refine wpAnyH_take (i := 23) (oi := ⟨some 62, _, _, _, _, _⟩) (v := ?vz15_23) rfl (by kernel_rfl) (by kernel_rfl) (by kernel_rfl) (fun _ _ _ h => h) (Or.inl ⟨by rfl, ?yz15_23⟩) S_15.out ?rz15_23
  case yz15_23 =>
    rintro w' hSw
    have k0 := (RB_14.out.below hSw RB_14.out.lt).cell 0
    have k1 := (RB_14.out.below hSw RB_14.out.lt).cell 1
    simp at k0 k1
    go_simp
    try with_reducible rfl
  try simp only [Act.put, List.setIfInBounds_toArray, List.set_cons_zero, List.set_cons_succ]
  refine wpAnyH_ready (rs := [21]) (by kernel_rfl) (by simp) ?_
  refine (AllReadyH.cons rfl (fun K hK => ?_) AllReadyH.nil)
  go_simp
  refine (HC.out _).mono ?_
  rintro e Xz15_24 ⟨rfl, hb⟩
  have Sz15_24 := Lib.hid (S_15.out.trans (hb.mono S_15.out.size))
  clear hb S_15
  refine hK _ _ Sz15_24.out (fun _ => ?_)
  clear hK K
  try simp only [Act.put, List.setIfInBounds_toArray, List.set_cons_zero, List.set_cons_succ]
  refine wpAnyH_ready (rs := [24]) (by kernel_rfl) (by simp) ?_
  refine (AllReadyH.cons rfl (fun K hK => ?_) AllReadyH.nil)
  go_simp
  refine (HD.out _).mono ?_
  rintro e Xz15_25 ⟨rfl, hb⟩
  have Sz15_25 := Lib.hid (Sz15_24.out.trans (hb.mono Sz15_24.out.size))
  clear hb Sz15_24
  refine hK _ _ Sz15_25.out (fun _ => ?_)
  clear hK K
  try simp only [Act.put, List.setIfInBounds_toArray, List.set_cons_zero, List.set_cons_succ]
  refine wpAnyH_take (i := 25) (oi := ⟨some 64, _, _, _, _, _⟩) (v := ?vz15_26) rfl (by kernel_rfl) (by kernel_rfl) (by kernel_rfl) (fun _ _ _ h => h) (Or.inl ⟨by rfl, ?yz15_26⟩) Sz15_25.out ?rz15_26
  case yz15_26 =>
    rintro w' hSw
    go_simp
    try with_reducible rfl
  try simp only [Act.put, List.setIfInBounds_toArray, List.set_cons_zero, List.set_cons_succ]
  refine wpAnyH_take (i := 26) (oi := ⟨some 65, _, _, _, _, _⟩) (v := ?vz15_27) rfl (by kernel_rfl) (by kernel_rfl) (by kernel_rfl) (fun _ _ _ h => h) (Or.inl ⟨by rfl, ?yz15_27⟩) Sz15_25.out ?rz15_27
  case yz15_27 =>
    rintro w' hSw
    go_simp
    try with_reducible rfl
  try simp only [Act.put, List.setIfInBounds_toArray, List.set_cons_zero, List.set_cons_succ]
  refine wpAnyH_take (i := 27) (oi := ⟨some 4, _, _, _, _, _⟩) (v := ?vz15_28) rfl (by kernel_rfl) (by kernel_rfl) (by kernel_rfl) (fun _ _ _ h => h) (Or.inl ⟨by rfl, ?yz15_28⟩) Sz15_25.out ?rz15_28
  case yz15_28 =>
    rintro w' hSw
    go_simp
    try with_reducible rfl
  try simp only [Act.put, List.setIfInBounds_toArray, List.set_cons_zero, List.set_cons_succ]
  refine wpAnyH_done (by kernel_rfl) ?_ _
  have RA_16 := Lib.hid (RA_14.out.below Sz15_25.out RA_14.out.lt)
  have RB_16 := Lib.hid (RB_14.out.below Sz15_25.out RB_14.out.lt)
  have RX_16 := Lib.hid (RX_14.out.below Sz15_25.out RX_14.out.lt)
  have RY_16 := Lib.hid (RY_14.out.below Sz15_25.out RY_14.out.lt)
  have RP_16 := Lib.hid (RP_14.out.below Sz15_25.out RP_14.out.lt)
  have RQ_16 := Lib.hid (RQ_14.out.below Sz15_25.out RQ_14.out.lt)
  have B_16 := Lib.hid (B_14.out.trans (Sz15_25.out.mono B_14.out.size))
  clear Sz15_25 RA_14 RB_14 RX_14 RY_14 RP_14 RQ_14 B_14
  go_wp2
  go_ret
  exact ⟨rfl, B_16.out⟩

theorem resT_WideSums : Try.f4.resultTypes = #[4] := by kernel_rfl
set_option maxRecDepth 100000 in
theorem lifted_WideSums (os : Os) (started : os.Started) (H : Type) (enc : TypeId × Value → H) :
    ReturnsInHanded {} Try.checked os 4 .any (Rows.wideSumsSpec.pre6 enc Try.prog Try.f4 Rows.wideSumsRow.domain false) (Rows.wideSumsSpec.post enc Try.prog Try.f4 false true false false) := by
  refine Lift.law_lift (C := Try.checked) (s := Rows.wideSumsSpec) (tb := 4) own laidOut started (by kernel_rfl) Try.func4
    (ChangeSpec.witness6 (enc := enc) (C := Try.checked) false ⟨#[], #[.agg #[.int .u64 0, .int .u64 0], .agg #[.int .u64 0, .int .u64 0]], []⟩ 8 (by kernel_rfl) (by kernel_rfl) (by kernel_rfl) (by kernel_rfl))
    rfl resT_WideSums Try.underlying4 (by
      have hr : ∀ t ∈ ([25, 25] : List TypeId), Try.prog.readableRec t = true ∧ t < Try.prog.types.size := by
        intro t ht
        simp only [List.mem_cons, List.not_mem_nil, or_false] at ht
        rcases ht with rfl | rfl <;> exact ⟨by kernel_rfl, of_decide_eq_true (by kernel_rfl)⟩
      intro t ht
      exact hr t (by
        have ht' : t ∈ Try.f4.params.toList := ht
        rw [Try.params4] at ht'
        exact ht')) ?_
  intro W base args ds p hval0 hA0 hsz0
  have hval : ∀ (j : Nat) t v, Try.f4.params[j]? = some t → args[j]? = some v → Value.okWide Try.prog W .any base t v := hval0
  have hA : DataW.TrodAll enc Try.prog W 0 (fun _ => true) true Try.f4.params.toList args.toList ds p := hA0
  have hsz : (DataW.weightsEach Try.prog Try.f4.params.toList ds).all (· ≤ reachBytes) = true := hsz0
  clear hval0 hA0 hsz0
  rw [Try.params4] at hA hval hsz
  obtain ⟨v0, vs0, d0, ds0, p0, q0, hargs, rfl, rfl, h0, r0⟩ := trodAll_cons hA
  obtain ⟨v1, vs1, d1, ds1, p1, q1, rfl, rfl, rfl, h1, r1⟩ := trodAll_cons r0
  obtain ⟨rfl, rfl, rfl⟩ := trodAll_nil r1
  obtain rfl : args = #[v0, v1] := by cases args; simp_all
  obtain ⟨h0a, h0b, hl0a, hl0b, rfl⟩ := open_wide (hval 0 25 v0 rfl rfl) h0
  obtain ⟨h1a, h1b, hl1a, hl1b, rfl⟩ := open_wide (hval 1 25 v1 rfl rfl) h1
  exact ⟨rfl, walk h0a h0b h1a h1b W hl0a hl0b hl1a hl1b⟩

theorem proved_WideSums : Rows.WideSumsSaid :=
  OpenClaim.holds_of_wide 4 Try.f4 rfl rfl rfl rfl rfl rfl rfl ⟨rfl, rfl, rfl, rfl, rfl⟩ rfl rfl rfl rfl rfl (by kernel_rfl) Try.func4 (by kernel_rfl)
    (of_decide_eq_true (by kernel_rfl)) (by unfold Func.isWrapper; first | (rw [if_pos (by decide +kernel)]; kernel_rfl) | (rw [if_neg (by decide +kernel)]; exact ⟨rfl, rfl⟩))
    (fun os started H enc _ => lifted_WideSums os started H enc)
end Go.Proofs.Ytleeanbfhfklmaa.WideSums
