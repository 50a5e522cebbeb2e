/-
  WideTurns: products and sums do not hang on the order; a difference of a sum and one of both is the other one. No condition.
-/
import Derived.Test.YtleeanbfhfklmaaWi5
import Derived.Test.YtleeanbfhfklmaaWiO
import Derived.Deep.RegionHeld
import Derived.Deep.Cut
import Derived.WalkLawsBesides
namespace Go.Proofs.Ytleeanbfhfklmaa.WideTurns
set_option maxRecDepth 100000
open Go.ChangeShapes Go.WideShapes Go.ChangeAt Go.RowKit Go.Proofs.Ytleeanbfhfklmaa.Wd Go.Proofs.Ytleeanbfhfklmaa.Wi

theorem own : ownKnob Try.prog.godebug = none := by kernel_rfl
theorem laidOut : laidOutB Try.prog = true := by kernel_rfl


theorem sum_parts (a b : Nat) (ha : a < 340282366920938463463374607431768211456) (hb : b < 340282366920938463463374607431768211456) : ∃ c h l : Nat, h < 18446744073709551616 ∧ l < 18446744073709551616 ∧ c ≤ 1 ∧ a + b = c * 340282366920938463463374607431768211456 + (h * 18446744073709551616 + l) := by
  obtain ⟨h, l, h1, h2, h3⟩ := parts ((a + b) % 340282366920938463463374607431768211456) (by omega)
  exact ⟨(a + b) / 340282366920938463463374607431768211456, h, l, h1, h2, by omega, by omega⟩
theorem sub_of_sum {a b c s : Nat} (hc : c ≤ 1) (h : a + b = c * 340282366920938463463374607431768211456 + s) : s + 340282366920938463463374607431768211456 = (1 - c) * 340282366920938463463374607431768211456 + a + b := by
  have h2 : c = 0 ∨ c = 1 := by omega
  rcases h2 with rfl | rfl <;> simp at h ⊢ <;> omega
set_option maxHeartbeats 2000000 in
theorem walk (ah al bh bl : Nat) (w : World) (h1 : ah < 18446744073709551616) (h2 : al < 18446744073709551616) (h3 : bh < 18446744073709551616) (h4 : bl < 18446744073709551616) :
    Calls Try.prog 7 #[.agg #[.int .u64 (ah : Int), .int .u64 (al : Int)], .agg #[.int .u64 (bh : Int), .int .u64 (bl : Int)]] w fun e w' => e = .returned (.bool true) ∧ Below w.heap.size w w' := by
  have HW := Lib.hid wakes_any
  obtain ⟨c, h, l, hh, hl, hc, hs⟩ := sum_parts (ah * 18446744073709551616 + al) (bh * 18446744073709551616 + bl) (two_lt h1 h2) (two_lt h3 h4)
  obtain ⟨ph, pl, hph, hpl, hp⟩ := parts (al * bl) (mul_lt h2 h4)
  have HA := Lib.hid (fun w => Add_any ah al bh bl h l c w h1 h2 h3 h4 hh hl hs)
  have HB := Lib.hid (fun w => Add_any bh bl ah al h l c w h3 h4 h1 h2 hh hl (by rw [Nat.add_comm]; exact hs))
  have HC := Lib.hid (fun w => Sub_any h l bh bl ah al (1 - c) w hh hl h3 h4 h1 h2 (sub_of_sum hc hs))
  have HP := Lib.hid (fun w => Mul_any al bl ph pl w h2 h4 hph hpl hp)
  have HQ := Lib.hid (fun w => Mul_any bl al ph pl w h4 h2 hph hpl (by rw [Nat.mul_comm]; exact hp))
  rw [show decide (1 - c = 1) = decide (c = 0) from by rw [Bool.eq_iff_iff]; simp; omega] at HC
  clear hs hp
  generalize decide (c = 0) = q at HA HB HC
  go_enter Try.func7, Try.ntmps7
  go_upto_region 1 with fail
  have RA_0 := Lib.hid ((row_last w (w.heap.size) 25 [.int .u64 (ah : Int), .int .u64 (al : Int)] (by simp)).alloc (.cells #[.int .u64 (bh : Int), .int .u64 (bl : Int)] 25))
  have RB_0 := Lib.hid (row_last (w.alloc (.cells #[.int .u64 (ah : Int), .int .u64 (al : Int)] 25)) (w.heap.size + 1) 25 [.int .u64 (bh : Int), .int .u64 (bl : Int)] (by simp))
  have B_0 := Lib.hid (((Below.refl w.heap.size w).alloc (Nat.le_refl _) (.cells #[.int .u64 (ah : Int), .int .u64 (al : Int)] 25)).alloc (by simp <;> omega) (.cells #[.int .u64 (bh : Int), .int .u64 (bl : Int)] 25))
  generalize ((w.alloc (.cells #[.int .u64 (ah : Int), .int .u64 (al : Int)] 25)).alloc (.cells #[.int .u64 (bh : Int), .int .u64 (bl : Int)] 25)) = V0 at RA_0 RB_0 B_0 ⊢
  go_wp2_with fail
  refine (HW.out _).mono ?_
  rintro e W1 ⟨rfl, hb⟩
  have RA_2 := Lib.hid (RA_0.out.below hb RA_0.out.lt)
  have RB_2 := Lib.hid (RB_0.out.below hb RB_0.out.lt)
  have B_2 := Lib.hid (B_0.out.trans (hb.mono B_0.out.size))
  clear hb RA_0 RB_0 B_0
  have c0_0 := RA_2.out.cell 0
  have c0_1 := RA_2.out.cell 1
  simp at c0_0 c0_1
  have l0 := RA_2.out.lt
  have c1_0 := RB_2.out.cell 0
  have c1_1 := RB_2.out.cell 1
  simp at c1_0 c1_1
  have l1 := RB_2.out.lt
  go_wp2_with fail
  refine (HA.out _).mono ?_
  rintro e W3 ⟨rfl, hb⟩
  clear c0_0 c0_1 l0 c1_0 c1_1 l1
  have RA_4 := Lib.hid (RA_2.out.below hb RA_2.out.lt)
  have RB_4 := Lib.hid (RB_2.out.below hb RB_2.out.lt)
  have B_4 := Lib.hid (B_2.out.trans (hb.mono B_2.out.size))
  clear hb RA_2 RB_2 B_2
  have RA_5 := Lib.hid (RA_4.out.alloc (.cells #[.int .u64 (h : Int), .int .u64 (l : Int)] 25))
  have RB_5 := Lib.hid (RB_4.out.alloc (.cells #[.int .u64 (h : Int), .int .u64 (l : Int)] 25))
  have RX_5 := Lib.hid (Row.new W3 25 [.int .u64 (h : Int), .int .u64 (l : Int)])
  have B_5 := Lib.hid (B_4.out.alloc B_4.out.size (.cells #[.int .u64 (h : Int), .int .u64 (l : Int)] 25))
  go_upto_region 4 with fail
  obtain ⟨gRX, hgRX⟩ : ∃ g, g = W3.heap.size := ⟨_, rfl⟩
  clear RA_4 RB_4 B_4
  rw [← hgRX] at RX_5 ⊢
  clear hgRX
  generalize W3.alloc (.cells #[.int .u64 (h : Int), .int .u64 (l : Int)] 25) = V5 at RA_5 RB_5 RX_5 B_5 ⊢
  have c0_0 := RA_5.out.cell 0
  have c0_1 := RA_5.out.cell 1
  simp at c0_0 c0_1
  have l0 := RA_5.out.lt
  have c1_0 := RB_5.out.cell 0
  have c1_1 := RB_5.out.cell 1
  simp at c1_0 c1_1
  have l1 := RB_5.out.lt
  have c2_0 := RX_5.out.cell 0
  have c2_1 := RX_5.out.cell 1
  simp at c2_0 c2_1
  have l2 := RX_5.out.lt
  go_wp2_with fail
  refine (HB.out _).mono ?_
  rintro e W6 ⟨rfl, hb⟩
  clear c0_0 c0_1 l0 c1_0 c1_1 l1 c2_0 c2_1 l2
  have RA_7 := Lib.hid (RA_5.out.below hb RA_5.out.lt)
  have RB_7 := Lib.hid (RB_5.out.below hb RB_5.out.lt)
  have RX_7 := Lib.hid (RX_5.out.below hb RX_5.out.lt)
  have B_7 := Lib.hid (B_5.out.trans (hb.mono B_5.out.size))
  clear hb RA_5 RB_5 RX_5 B_5
  have RA_8 := Lib.hid (RA_7.out.alloc (.cells #[.int .u64 (h : Int), .int .u64 (l : Int)] 25))
  have RB_8 := Lib.hid (RB_7.out.alloc (.cells #[.int .u64 (h : Int), .int .u64 (l : Int)] 25))
  have RX_8 := Lib.hid (RX_7.out.alloc (.cells #[.int .u64 (h : Int), .int .u64 (l : Int)] 25))
  have RY_8 := Lib.hid (Row.new W6 25 [.int .u64 (h : Int), .int .u64 (l : Int)])
  have B_8 := Lib.hid (B_7.out.alloc B_7.out.size (.cells #[.int .u64 (h : Int), .int .u64 (l : Int)] 25))
  go_upto_region 5 with fail
  obtain ⟨gRY, hgRY⟩ : ∃ g, g = W6.heap.size := ⟨_, rfl⟩
  clear RA_7 RB_7 RX_7 B_7
  rw [← hgRY] at RY_8 ⊢
  clear hgRY
  generalize W6.alloc (.cells #[.int .u64 (h : Int), .int .u64 (l : Int)] 25) = V8 at RA_8 RB_8 RX_8 RY_8 B_8 ⊢
  have c0_0 := RA_8.out.cell 0
  have c0_1 := RA_8.out.cell 1
  simp at c0_0 c0_1
  have l0 := RA_8.out.lt
  have c1_0 := RB_8.out.cell 0
  have c1_1 := RB_8.out.cell 1
  simp at c1_0 c1_1
  have l1 := RB_8.out.lt
  have c2_0 := RX_8.out.cell 0
  have c2_1 := RX_8.out.cell 1
  simp at c2_0 c2_1
  have l2 := RX_8.out.lt
  have c3_0 := RY_8.out.cell 0
  have c3_1 := RY_8.out.cell 1
  simp at c3_0 c3_1
  have l3 := RY_8.out.lt
  go_wp2_with fail
  refine (HC.out _).mono ?_
  rintro e W9 ⟨rfl, hb⟩
  clear c0_0 c0_1 l0 c1_0 c1_1 l1 c2_0 c2_1 l2 c3_0 c3_1 l3
  have RA_10 := Lib.hid (RA_8.out.below hb RA_8.out.lt)
  have RB_10 := Lib.hid (RB_8.out.below hb RB_8.out.lt)
  have RX_10 := Lib.hid (RX_8.out.below hb RX_8.out.lt)
  have RY_10 := Lib.hid (RY_8.out.below hb RY_8.out.lt)
  have B_10 := Lib.hid (B_8.out.trans (hb.mono B_8.out.size))
  clear hb RA_8 RB_8 RX_8 RY_8 B_8
  have RA_11 := Lib.hid (RA_10.out.alloc (.cells #[.int .u64 (ah : Int), .int .u64 (al : Int)] 25))
  have RB_11 := Lib.hid (RB_10.out.alloc (.cells #[.int .u64 (ah : Int), .int .u64 (al : Int)] 25))
  have RX_11 := Lib.hid (RX_10.out.alloc (.cells #[.int .u64 (ah : Int), .int .u64 (al : Int)] 25))
  have RY_11 := Lib.hid (RY_10.out.alloc (.cells #[.int .u64 (ah : Int), .int .u64 (al : Int)] 25))
  have RZ_11 := Lib.hid (Row.new W9 25 [.int .u64 (ah : Int), .int .u64 (al : Int)])
  have B_11 := Lib.hid (B_10.out.alloc B_10.out.size (.cells #[.int .u64 (ah : Int), .int .u64 (al : Int)] 25))
  go_upto_region 6 with fail
  obtain ⟨gRZ, hgRZ⟩ : ∃ g, g = W9.heap.size := ⟨_, rfl⟩
  clear RA_10 RB_10 RX_10 RY_10 B_10
  rw [← hgRZ] at RZ_11 ⊢
  clear hgRZ
  generalize W9.alloc (.cells #[.int .u64 (ah : Int), .int .u64 (al : Int)] 25) = V11 at RA_11 RB_11 RX_11 RY_11 RZ_11 B_11 ⊢
  refine wp_region_held_drew (S := fun w' => Below V11.heap.size V11 w') (by kernel_rfl) (Below.refl _ _).drew (fun hHeld => ?_)
  have S_12 := Lib.hid hHeld
  clear hHeld
  generalize V11.drew = D12 at S_12 ⊢
  refine wpAnyH_take (i := 0) (oi := ⟨some 31, _, _, _, _, _⟩) (v := ?vz12_1) rfl (by kernel_rfl) (by kernel_rfl) (by kernel_rfl) (fun _ _ _ h => h) (Or.inl ⟨by rfl, ?yz12_1⟩) S_12.out ?rz12_1
  case yz12_1 =>
    rintro w' hSw
    have k0 := (RX_11.out.below hSw RX_11.out.lt).cell 0
    have k1 := (RX_11.out.below hSw RX_11.out.lt).cell 1
    simp at k0 k1
    go_simp
    try with_reducible rfl
  try simp only [Act.put, List.setIfInBounds_toArray, List.set_cons_zero, List.set_cons_succ]
  refine wpAnyH_take (i := 1) (oi := ⟨some 32, _, _, _, _, _⟩) (v := ?vz12_2) rfl (by kernel_rfl) (by kernel_rfl) (by kernel_rfl) (fun _ _ _ h => h) (Or.inl ⟨by rfl, ?yz12_2⟩) S_12.out ?rz12_2
  case yz12_2 =>
    rintro w' hSw
    have k0 := (RY_11.out.below hSw RY_11.out.lt).cell 0
    have k1 := (RY_11.out.below hSw RY_11.out.lt).cell 1
    simp at k0 k1
    go_simp
    try with_reducible rfl
  try simp only [Act.put, List.setIfInBounds_toArray, List.set_cons_zero, List.set_cons_succ]
  refine wpAnyH_take (i := 2) (oi := ⟨some 33, _, _, _, _, _⟩) (v := ?vz12_3) rfl (by kernel_rfl) (by kernel_rfl) (by kernel_rfl) (fun _ _ _ h => h) (Or.inl ⟨by rfl, ?yz12_3⟩) S_12.out ?rz12_3
  case yz12_3 =>
    rintro w' hSw
    go_simp
    try with_reducible rfl
  try simp only [Act.put, List.setIfInBounds_toArray, List.set_cons_zero, List.set_cons_succ]
  refine wpAnyH_take (i := 3) (oi := ⟨some 34, _, _, _, _, _⟩) (v := ?vz12_4) rfl (by kernel_rfl) (by kernel_rfl) (by kernel_rfl) (fun _ _ _ h => h) (Or.inl ⟨by rfl, ?yz12_4⟩) S_12.out ?rz12_4
  case yz12_4 =>
    rintro w' hSw
    go_simp
    try with_reducible rfl
  try simp only [Act.put, List.setIfInBounds_toArray, List.set_cons_zero, List.set_cons_succ]
  refine wpAnyH_take (i := 4) (oi := ⟨some 35, _, _, _, _, _⟩) (v := ?vz12_5) rfl (by kernel_rfl) (by kernel_rfl) (by kernel_rfl) (fun _ _ _ h => h) (Or.inl ⟨by rfl, ?yz12_5⟩) S_12.out ?rz12_5
  case yz12_5 =>
    rintro w' hSw
    go_simp
    try with_reducible rfl
  try simp only [Act.put, List.setIfInBounds_toArray, List.set_cons_zero, List.set_cons_succ]
  refine wpAnyH_take (i := 5) (oi := ⟨some 36, _, _, _, _, _⟩) (v := ?vz12_6) rfl (by kernel_rfl) (by kernel_rfl) (by kernel_rfl) (fun _ _ _ h => h) (Or.inl ⟨by rfl, ?yz12_6⟩) S_12.out ?rz12_6
  case yz12_6 =>
    rintro w' hSw
    go_simp
    try with_reducible rfl
  try simp only [Act.put, List.setIfInBounds_toArray, List.set_cons_zero, List.set_cons_succ]
  refine wpAnyH_take (i := 6) (oi := ⟨some 37, _, _, _, _, _⟩) (v := ?vz12_7) rfl (by kernel_rfl) (by kernel_rfl) (by kernel_rfl) (fun _ _ _ h => h) (Or.inl ⟨by rfl, ?yz12_7⟩) S_12.out ?rz12_7
  case yz12_7 =>
    rintro w' hSw
    go_simp
    try with_reducible rfl
  try simp only [Act.put, List.setIfInBounds_toArray, List.set_cons_zero, List.set_cons_succ]
  refine wpAnyH_take (i := 7) (oi := ⟨some 38, _, _, _, _, _⟩) (v := ?vz12_8) rfl (by kernel_rfl) (by kernel_rfl) (by kernel_rfl) (fun _ _ _ h => h) (Or.inl ⟨by rfl, ?yz12_8⟩) S_12.out ?rz12_8
  case yz12_8 =>
    rintro w' hSw
    go_simp
    try with_reducible rfl
  try simp only [Act.put, List.setIfInBounds_toArray, List.set_cons_zero, List.set_cons_succ]
  refine wpAnyH_take (i := 8) (oi := ⟨some 39, _, _, _, _, _⟩) (v := ?vz12_9) rfl (by kernel_rfl) (by kernel_rfl) (by kernel_rfl) (fun _ _ _ h => h) (Or.inl ⟨by rfl, ?yz12_9⟩) S_12.out ?rz12_9
  case yz12_9 =>
    rintro w' hSw
    go_simp
    try with_reducible rfl
  try simp only [Act.put, List.setIfInBounds_toArray, List.set_cons_zero, List.set_cons_succ]
  refine wpAnyH_take (i := 9) (oi := ⟨some 40, _, _, _, _, _⟩) (v := ?vz12_10) rfl (by kernel_rfl) (by kernel_rfl) (by kernel_rfl) (fun _ _ _ h => h) (Or.inl ⟨by rfl, ?yz12_10⟩) S_12.out ?rz12_10
  case yz12_10 =>
    rintro w' hSw
    have k0 := (RZ_11.out.below hSw RZ_11.out.lt).cell 0
    have k1 := (RZ_11.out.below hSw RZ_11.out.lt).cell 1
    simp at k0 k1
    go_simp
    try with_reducible rfl
  try simp only [Act.put, List.setIfInBounds_toArray, List.set_cons_zero, List.set_cons_succ]
  refine wpAnyH_take (i := 10) (oi := ⟨some 41, _, _, _, _, _⟩) (v := ?vz12_11) rfl (by kernel_rfl) (by kernel_rfl) (by kernel_rfl) (fun _ _ _ h => h) (Or.inl ⟨by rfl, ?yz12_11⟩) S_12.out ?rz12_11
  case yz12_11 =>
    rintro w' hSw
    have k0 := (RA_11.out.below hSw RA_11.out.lt).cell 0
    have k1 := (RA_11.out.below hSw RA_11.out.lt).cell 1
    simp at k0 k1
    go_simp
    try with_reducible rfl
  try simp only [Act.put, List.setIfInBounds_toArray, List.set_cons_zero, List.set_cons_succ]
  refine wpAnyH_take (i := 11) (oi := ⟨some 42, _, _, _, _, _⟩) (v := ?vz12_12) rfl (by kernel_rfl) (by kernel_rfl) (by kernel_rfl) (fun _ _ _ h => h) (Or.inl ⟨by rfl, ?yz12_12⟩) S_12.out ?rz12_12
  case yz12_12 =>
    rintro w' hSw
    go_simp
    try with_reducible rfl
  try simp only [Act.put, List.setIfInBounds_toArray, List.set_cons_zero, List.set_cons_succ]
  refine wpAnyH_take (i := 12) (oi := ⟨some 43, _, _, _, _, _⟩) (v := ?vz12_13) rfl (by kernel_rfl) (by kernel_rfl) (by kernel_rfl) (fun _ _ _ h => h) (Or.inl ⟨by rfl, ?yz12_13⟩) S_12.out ?rz12_13
  case yz12_13 =>
    rintro w' hSw
    go_simp
    try with_reducible rfl
  try simp only [Act.put, List.setIfInBounds_toArray, List.set_cons_zero, List.set_cons_succ]
  refine wpAnyH_take (i := 13) (oi := ⟨some 44, _, _, _, _, _⟩) (v := ?vz12_14) rfl (by kernel_rfl) (by kernel_rfl) (by kernel_rfl) (fun _ _ _ h => h) (Or.inl ⟨by rfl, ?yz12_14⟩) S_12.out ?rz12_14
  case yz12_14 =>
    rintro w' hSw
    go_simp
    try with_reducible rfl
  try simp only [Act.put, List.setIfInBounds_toArray, List.set_cons_zero, List.set_cons_succ]
  refine wpAnyH_take (i := 14) (oi := ⟨some 45, _, _, _, _, _⟩) (v := ?vz12_15) rfl (by kernel_rfl) (by kernel_rfl) (by kernel_rfl) (fun _ _ _ h => h) (Or.inl ⟨by rfl, ?yz12_15⟩) S_12.out ?rz12_15
  case yz12_15 =>
    rintro w' hSw
    go_simp
    try with_reducible rfl
  try simp only [Act.put, List.setIfInBounds_toArray, List.set_cons_zero, List.set_cons_succ]
  refine wpAnyH_take (i := 15) (oi := ⟨some 46, _, _, _, _, _⟩) (v := ?vz12_16) rfl (by kernel_rfl) (by kernel_rfl) (by kernel_rfl) (fun _ _ _ h => h) (Or.inl ⟨by rfl, ?yz12_16⟩) S_12.out ?rz12_16
  case yz12_16 =>
    rintro w' hSw
    go_simp
    try with_reducible rfl
  try simp only [Act.put, List.setIfInBounds_toArray, List.set_cons_zero, List.set_cons_succ]
  refine wpAnyH_take (i := 16) (oi := ⟨some 47, _, _, _, _, _⟩) (v := ?vz12_17) rfl (by kernel_rfl) (by kernel_rfl) (by kernel_rfl) (fun _ _ _ h => h) (Or.inl ⟨by rfl, ?yz12_17⟩) S_12.out ?rz12_17
  case yz12_17 =>
    rintro w' hSw
    go_simp
    try with_reducible rfl
  try simp only [Act.put, List.setIfInBounds_toArray, List.set_cons_zero, List.set_cons_succ]
  refine wpAnyH_take (i := 17) (oi := ⟨some 48, _, _, _, _, _⟩) (v := ?vz12_18) rfl (by kernel_rfl) (by kernel_rfl) (by kernel_rfl) (fun _ _ _ h => h) (Or.inl ⟨by rfl, ?yz12_18⟩) S_12.out ?rz12_18
  case yz12_18 =>
    rintro w' hSw
    go_simp
    try with_reducible rfl
  try simp only [Act.put, List.setIfInBounds_toArray, List.set_cons_zero, List.set_cons_succ]
  refine wpAnyH_take (i := 18) (oi := ⟨some 49, _, _, _, _, _⟩) (v := ?vz12_19) rfl (by kernel_rfl) (by kernel_rfl) (by kernel_rfl) (fun _ _ _ h => h) (Or.inl ⟨by rfl, ?yz12_19⟩) S_12.out ?rz12_19
  case yz12_19 =>
    rintro w' hSw
    go_simp
    try with_reducible rfl
  try simp only [Act.put, List.setIfInBounds_toArray, List.set_cons_zero, List.set_cons_succ]
  refine wpAnyH_take (i := 19) (oi := ⟨some 50, _, _, _, _, _⟩) (v := ?vz12_20) rfl (by kernel_rfl) (by kernel_rfl) (by kernel_rfl) (fun _ _ _ h => h) (Or.inl ⟨by rfl, ?yz12_20⟩) S_12.out ?rz12_20
  case yz12_20 =>
    rintro w' hSw
    go_simp
    try with_reducible rfl
  try simp only [Act.put, List.setIfInBounds_toArray, List.set_cons_zero, List.set_cons_succ]
  refine wpAnyH_take (i := 20) (oi := ⟨some 51, _, _, _, _, _⟩) (v := ?vz12_21) rfl (by kernel_rfl) (by kernel_rfl) (by kernel_rfl) (fun _ _ _ h => h) (Or.inl ⟨by rfl, ?yz12_21⟩) S_12.out ?rz12_21
  case yz12_21 =>
    rintro w' hSw
    have k1 := (RA_11.out.below hSw RA_11.out.lt).cell 1
    simp at k1
    go_simp
    try with_reducible rfl
  try simp only [Act.put, List.setIfInBounds_toArray, List.set_cons_zero, List.set_cons_succ]
  refine wpAnyH_take (i := 21) (oi := ⟨some 52, _, _, _, _, _⟩) (v := ?vz12_22) rfl (by kernel_rfl) (by kernel_rfl) (by kernel_rfl) (fun _ _ _ h => h) (Or.inl ⟨by rfl, ?yz12_22⟩) S_12.out ?rz12_22
  case yz12_22 =>
    rintro w' hSw
    go_simp
    try with_reducible rfl
  try simp only [Act.put, List.setIfInBounds_toArray, List.set_cons_zero, List.set_cons_succ]
  refine wpAnyH_take (i := 22) (oi := ⟨some 53, _, _, _, _, _⟩) (v := ?vz12_23) rfl (by kernel_rfl) (by kernel_rfl) (by kernel_rfl) (fun _ _ _ h => h) (Or.inl ⟨by rfl, ?yz12_23⟩) S_12.out ?rz12_23
  case yz12_23 =>
    rintro w' hSw
    have k1 := (RB_11.out.below hSw RB_11.out.lt).cell 1
    simp at k1
    go_simp
    try with_reducible rfl
  try simp only [Act.put, List.setIfInBounds_toArray, List.set_cons_zero, List.set_cons_succ]
  refine wpAnyH_take (i := 24) (oi := ⟨some 55, _, _, _, _, _⟩) (v := ?vz12_24) rfl (by kernel_rfl) (by kernel_rfl) (by kernel_rfl) (fun _ _ _ h => h) (Or.inl ⟨by rfl, ?yz12_24⟩) S_12.out ?rz12_24
  case yz12_24 =>
    rintro w' hSw
    go_simp
    try with_reducible rfl
  try simp only [Act.put, List.setIfInBounds_toArray, List.set_cons_zero, List.set_cons_succ]
  refine wpAnyH_take (i := 25) (oi := ⟨some 56, _, _, _, _, _⟩) (v := ?vz12_25) rfl (by kernel_rfl) (by kernel_rfl) (by kernel_rfl) (fun _ _ _ h => h) (Or.inl ⟨by rfl, ?yz12_25⟩) S_12.out ?rz12_25
  case yz12_25 =>
    rintro w' hSw
    have k1 := (RB_11.out.below hSw RB_11.out.lt).cell 1
    simp at k1
    go_simp
    try with_reducible rfl
  try simp only [Act.put, List.setIfInBounds_toArray, List.set_cons_zero, List.set_cons_succ]
  refine wpAnyH_take (i := 26) (oi := ⟨some 57, _, _, _, _, _⟩) (v := ?vz12_26) rfl (by kernel_rfl) (by kernel_rfl) (by kernel_rfl) (fun _ _ _ h => h) (Or.inl ⟨by rfl, ?yz12_26⟩) S_12.out ?rz12_26
  case yz12_26 =>
    rintro w' hSw
    go_simp
    try with_reducible rfl
  try simp only [Act.put, List.setIfInBounds_toArray, List.set_cons_zero, List.set_cons_succ]
  refine wpAnyH_take (i := 27) (oi := ⟨some 58, _, _, _, _, _⟩) (v := ?vz12_27) rfl (by kernel_rfl) (by kernel_rfl) (by kernel_rfl) (fun _ _ _ h => h) (Or.inl ⟨by rfl, ?yz12_27⟩) S_12.out ?rz12_27
  case yz12_27 =>
    rintro w' hSw
    have k1 := (RA_11.out.below hSw RA_11.out.lt).cell 1
    simp at k1
    go_simp
    try with_reducible rfl
  try simp only [Act.put, List.setIfInBounds_toArray, List.set_cons_zero, List.set_cons_succ]
  refine wpAnyH_ready (rs := [23]) (by kernel_rfl) (by simp) ?_
  refine (AllReadyH.cons rfl (fun K hK => ?_) AllReadyH.nil)
  go_simp
  refine (HP.out _).mono ?_
  rintro e Xz12_28 ⟨rfl, hb⟩
  have Sz12_28 := Lib.hid (S_12.out.trans (hb.mono S_12.out.size))
  clear hb S_12
  refine hK _ _ Sz12_28.out (fun _ => ?_)
  clear hK K
  try simp only [Act.put, List.setIfInBounds_toArray, List.set_cons_zero, List.set_cons_succ]
  refine wpAnyH_ready (rs := [28]) (by kernel_rfl) (by simp) ?_
  refine (AllReadyH.cons rfl (fun K hK => ?_) AllReadyH.nil)
  go_simp
  refine (HQ.out _).mono ?_
  rintro e Xz12_29 ⟨rfl, hb⟩
  have Sz12_29 := Lib.hid (Sz12_28.out.trans (hb.mono Sz12_28.out.size))
  clear hb Sz12_28
  refine hK _ _ Sz12_29.out (fun _ => ?_)
  clear hK K
  try simp only [Act.put, List.setIfInBounds_toArray, List.set_cons_zero, List.set_cons_succ]
  refine wpAnyH_take (i := 29) (oi := ⟨some 60, _, _, _, _, _⟩) (v := ?vz12_30) rfl (by kernel_rfl) (by kernel_rfl) (by kernel_rfl) (fun _ _ _ h => h) (Or.inl ⟨by rfl, ?yz12_30⟩) Sz12_29.out ?rz12_30
  case yz12_30 =>
    rintro w' hSw
    go_simp
    try with_reducible rfl
  try simp only [Act.put, List.setIfInBounds_toArray, List.set_cons_zero, List.set_cons_succ]
  refine wpAnyH_take (i := 30) (oi := ⟨some 61, _, _, _, _, _⟩) (v := ?vz12_31) rfl (by kernel_rfl) (by kernel_rfl) (by kernel_rfl) (fun _ _ _ h => h) (Or.inl ⟨by rfl, ?yz12_31⟩) Sz12_29.out ?rz12_31
  case yz12_31 =>
    rintro w' hSw
    go_simp
    try with_reducible rfl
  try simp only [Act.put, List.setIfInBounds_toArray, List.set_cons_zero, List.set_cons_succ]
  refine wpAnyH_take (i := 31) (oi := ⟨some 4, _, _, _, _, _⟩) (v := ?vz12_32) rfl (by kernel_rfl) (by kernel_rfl) (by kernel_rfl) (fun _ _ _ h => h) (Or.inl ⟨by rfl, ?yz12_32⟩) Sz12_29.out ?rz12_32
  case yz12_32 =>
    rintro w' hSw
    go_simp
    try with_reducible rfl
  try simp only [Act.put, List.setIfInBounds_toArray, List.set_cons_zero, List.set_cons_succ]
  refine wpAnyH_done (by kernel_rfl) ?_ _
  have RA_13 := Lib.hid (RA_11.out.below Sz12_29.out RA_11.out.lt)
  have RB_13 := Lib.hid (RB_11.out.below Sz12_29.out RB_11.out.lt)
  have RX_13 := Lib.hid (RX_11.out.below Sz12_29.out RX_11.out.lt)
  have RY_13 := Lib.hid (RY_11.out.below Sz12_29.out RY_11.out.lt)
  have RZ_13 := Lib.hid (RZ_11.out.below Sz12_29.out RZ_11.out.lt)
  have B_13 := Lib.hid (B_11.out.trans (Sz12_29.out.mono B_11.out.size))
  clear Sz12_29 RA_11 RB_11 RX_11 RY_11 RZ_11 B_11
  go_wp2
  go_ret
  exact ⟨rfl, B_13.out⟩

theorem resT_WideTurns : Try.f7.resultTypes = #[4] := by kernel_rfl
set_option maxRecDepth 100000 in
theorem lifted_WideTurns (os : Os) (started : os.Started) (H : Type) (enc : TypeId × Value → H) :
    ReturnsInHanded {} Try.checked os 7 .any (Rows.wideTurnsSpec.pre6 enc Try.prog Try.f7 Rows.wideTurnsRow.domain false) (Rows.wideTurnsSpec.post enc Try.prog Try.f7 false true false false) := by
  refine Lift.law_lift (C := Try.checked) (s := Rows.wideTurnsSpec) (tb := 4) own laidOut started (by kernel_rfl) Try.func7
    (ChangeSpec.witness6 (enc := enc) (C := Try.checked) false ⟨#[], #[.agg #[.int .u64 0, .int .u64 0], .agg #[.int .u64 0, .int .u64 0]], []⟩ 8 (by kernel_rfl) (by kernel_rfl) (by kernel_rfl) (by kernel_rfl))
    rfl resT_WideTurns Try.underlying4 (by
      have hr : ∀ t ∈ ([25, 25] : List TypeId), Try.prog.readableRec t = true ∧ t < Try.prog.types.size := by
        intro t ht
        simp only [List.mem_cons, List.not_mem_nil, or_false] at ht
        rcases ht with rfl | rfl <;> exact ⟨by kernel_rfl, of_decide_eq_true (by kernel_rfl)⟩
      intro t ht
      exact hr t (by
        have ht' : t ∈ Try.f7.params.toList := ht
        rw [Try.params7] at ht'
        exact ht')) ?_
  intro W base args ds p hval0 hA0 hsz0
  have hval : ∀ (j : Nat) t v, Try.f7.params[j]? = some t → args[j]? = some v → Value.okWide Try.prog W .any base t v := hval0
  have hA : DataW.TrodAll enc Try.prog W 0 (fun _ => true) true Try.f7.params.toList args.toList ds p := hA0
  have hsz : (DataW.weightsEach Try.prog Try.f7.params.toList ds).all (· ≤ reachBytes) = true := hsz0
  clear hval0 hA0 hsz0
  rw [Try.params7] at hA hval hsz
  obtain ⟨v0, vs0, d0, ds0, p0, q0, hargs, rfl, rfl, h0, r0⟩ := trodAll_cons hA
  obtain ⟨v1, vs1, d1, ds1, p1, q1, rfl, rfl, rfl, h1, r1⟩ := trodAll_cons r0
  obtain ⟨rfl, rfl, rfl⟩ := trodAll_nil r1
  obtain rfl : args = #[v0, v1] := by cases args; simp_all
  obtain ⟨h0a, h0b, hl0a, hl0b, rfl⟩ := open_wide (hval 0 25 v0 rfl rfl) h0
  obtain ⟨h1a, h1b, hl1a, hl1b, rfl⟩ := open_wide (hval 1 25 v1 rfl rfl) h1
  exact ⟨rfl, walk h0a h0b h1a h1b W hl0a hl0b hl1a hl1b⟩

theorem proved_WideTurns : Rows.WideTurnsSaid :=
  OpenClaim.holds_of_wide 7 Try.f7 rfl rfl rfl rfl rfl rfl rfl ⟨rfl, rfl, rfl, rfl, rfl⟩ rfl rfl rfl rfl rfl (by kernel_rfl) Try.func7 (by kernel_rfl)
    (of_decide_eq_true (by kernel_rfl)) (by unfold Func.isWrapper; first | (rw [if_pos (by decide +kernel)]; kernel_rfl) | (rw [if_neg (by decide +kernel)]; exact ⟨rfl, rfl⟩))
    (fun os started H enc _ => lifted_WideTurns os started H enc)
end Go.Proofs.Ytleeanbfhfklmaa.WideTurns
