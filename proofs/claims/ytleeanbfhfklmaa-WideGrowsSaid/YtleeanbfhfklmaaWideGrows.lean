/-
  WideGrows: a product by what is not 0 is at least the other one, and grows with both; a box within another one has no greater area. No condition.
-/
import Derived.Test.YtleeanbfhfklmaaWi5
import Derived.Test.YtleeanbfhfklmaaWi2
import Derived.Test.YtleeanbfhfklmaaWiO
import Derived.Deep.RegionHeld
import Derived.Deep.Cut
import Derived.WalkLawsBesides
namespace Go.Proofs.Ytleeanbfhfklmaa.WideGrows
set_option maxRecDepth 100000
open Go.ChangeShapes Go.WideShapes Go.ChangeAt Go.RowKit Go.Proofs.Ytleeanbfhfklmaa.Wd Go.Proofs.Ytleeanbfhfklmaa.Wi

theorem own : ownKnob Try.prog.godebug = none := by kernel_rfl
theorem laidOut : laidOutB Try.prog = true := by kernel_rfl


structure Most (a : Nat) (r : Bool) : Prop where
  out : decide ((a : Int) < 18446744073709551615) = r
theorem key_ways (x0 x1 y0 y1 : Int) : x1 ≤ x0 ∨ (x0 < x1 ∧ y1 < y0) ∨ (x0 < x1 ∧ y0 ≤ y1) := by omega
theorem cmp_l {a b : Nat} (h : a < b) : cmpM a b = -1 := by unfold cmpM; rw [if_pos h]
theorem at_least {x y : Nat} {s : Int} (hs : cmpM x y = s) (h : y ≤ x) : ¬ s < 0 := by
  subst hs
  unfold cmpM
  repeat' split
  all_goals omega
theorem at_most {x y : Nat} {s : Int} (hs : cmpM x y = s) (h : x ≤ y) : s ≤ 0 := by
  subst hs
  unfold cmpM
  repeat' split
  all_goals omega
theorem Cmp_is (ah al bh bl : Nat) {q : Int} (w : World) (h1 : ah < 18446744073709551616) (h2 : al < 18446744073709551616) (h3 : bh < 18446744073709551616) (h4 : bl < 18446744073709551616) (hq : cmpM (ah * 18446744073709551616 + al) (bh * 18446744073709551616 + bl) = q) :
    Calls Try.prog 17 #[.agg #[.int .u64 (ah : Int), .int .u64 (al : Int)], .agg #[.int .u64 (bh : Int), .int .u64 (bl : Int)]] w fun e w' => e = .returned (.int .i64 q) ∧ Below w.heap.size w w' := hq ▸ Cmp_any ah al bh bl w h1 h2 h3 h4

set_option maxHeartbeats 8000000 in
theorem walk_00 (a b : Nat) (x0 x1 y0 y1 : Int) (w : World) (h1 : a < 18446744073709551616) (h2 : b < 18446744073709551616) (a1 : -9223372036854775808 ≤ x0) (a2 : x0 ≤ 9223372036854775807) (a3 : -9223372036854775808 ≤ x1) (a4 : x1 ≤ 9223372036854775807) (a5 : -9223372036854775808 ≤ y0) (a6 : y0 ≤ 9223372036854775807) (a7 : -9223372036854775808 ≤ y1) (a8 : y1 ≤ 9223372036854775807)
    (ha : (a : Int) ≤ 0) (ha2 : (a : Int) < 18446744073709551615) (hb : 0 < (b : Int)) :
    Calls Try.prog 9 #[.int .u64 (a : Int), .int .u64 (b : Int), .agg #[.int .i64 x0, .int .i64 x1, .int .i64 y0, .int .i64 y1]] w fun e w' => e = .returned (.bool true) ∧ Below w.heap.size w w' := by
  have HW := Lib.hid wakes_any
  obtain ⟨ph, pl, hp1, hp2, hp⟩ := parts (a * b) (mul_lt h1 h2)
  have HM := Lib.hid (fun w => Mul_any a b ph pl w h1 h2 hp1 hp2 hp)
  obtain ⟨s1, hs1⟩ : ∃ q, cmpM (ph * 18446744073709551616 + pl) (0 * 18446744073709551616 + a) = q := ⟨_, rfl⟩
  obtain ⟨s2, hs2⟩ : ∃ q, cmpM (ph * 18446744073709551616 + pl) (0 * 18446744073709551616 + b) = q := ⟨_, rfl⟩
  have H1 := Lib.hid (fun w => Cmp_is ph pl 0 a w hp1 hp2 (by omega) h1 hs1)
  have H2 := Lib.hid (fun w => Cmp_is ph pl 0 b w hp1 hp2 (by omega) h2 hs2)
  have hz1 : 0 < b → ¬ s1 < 0 := fun hb => at_least hs1 (by rw [← hp, Nat.zero_mul, Nat.zero_add]; exact Nat.le_mul_of_pos_right _ hb)
  have hz2 : 0 < a → ¬ s2 < 0 := fun ha => at_least hs2 (by rw [← hp, Nat.zero_mul, Nat.zero_add]; exact Nat.le_mul_of_pos_left _ ha)
  replace hz1 := hz1 (by omega)
  skip
  skip
  clear hz2
  obtain ⟨m, hm⟩ : ∃ m, m = a + 1 := ⟨_, rfl⟩
  have wm : IntKind.u64.wrap ((a : Int) + 1) = (m : Int) := by rw [IntKind.wrap_u64]; omega
  obtain ⟨rh, rl, hr1, hr2, hr⟩ := parts (m * b) (mul_lt (by omega) h2)
  have H3 := Lib.hid (fun w => Mul_any m b rh rl w (by omega) h2 hr1 hr2 hr)
  obtain ⟨s3, hs3⟩ : ∃ q, cmpM (rh * 18446744073709551616 + rl) (ph * 18446744073709551616 + pl) = q := ⟨_, rfl⟩
  have H4 := Lib.hid (fun w => Cmp_is rh rl ph pl w hr1 hr2 hp1 hp2 hs3)
  have hz3 : ¬ s3 < 0 := at_least hs3 (by rw [← hp, ← hr, hm]; exact Nat.mul_le_mul_right _ (Nat.le_succ a))
  clear hm hr hr1 hr2 hs3
  have HKEY := Lib.hid (show x1 ≤ x0 ∨ (x0 < x1 ∧ y1 < y0) ∨ (x0 < x1 ∧ y0 ≤ y1) from key_ways x0 x1 y0 y1)
  obtain ⟨xm, hxm⟩ : ∃ m, m = x1 - 1 := ⟨_, rfl⟩
  have HX : Hid (x0 < x1 → y0 ≤ y1 → IntKind.i64.wrap (x1 - 1) = xm ∧ -9223372036854775808 ≤ xm ∧ xm ≤ 9223372036854775807 ∧ widM x0 x1 = widM x0 xm + 1) := (show _ → _ → _ from fun hx hy => by
    refine ⟨by rw [IntKind.wrap_i64]; omega, by omega, by omega, ?_⟩
    unfold widM
    rw [if_neg (by omega), if_neg (by omega)]
    omega)
  clear hp hp1 hp2 hs1 hs2 hxm
  have HDM : Most a true := ⟨by simp; omega⟩
  clear ha2
  go_enter Try.func9, Try.ntmps9
  go_upto_region 1 with fail
  have RK_0 := Lib.hid (row_last w (w.heap.size) 33 [.int .i64 x0, .int .i64 x1, .int .i64 y0, .int .i64 y1] (by simp))
  have B_0 := Lib.hid ((Below.refl w.heap.size w).alloc (Nat.le_refl _) (.cells #[.int .i64 x0, .int .i64 x1, .int .i64 y0, .int .i64 y1] 33))
  generalize (w.alloc (.cells #[.int .i64 x0, .int .i64 x1, .int .i64 y0, .int .i64 y1] 33)) = V0 at RK_0 B_0 ⊢
  go_wp2_with fail
  refine (HW.out _).mono ?_
  rintro e W1 ⟨rfl, hb⟩
  have RK_2 := Lib.hid (RK_0.out.below hb RK_0.out.lt)
  have B_2 := Lib.hid (B_0.out.trans (hb.mono B_0.out.size))
  clear hb RK_0 B_0
  go_wp2_with fail
  refine (HM.out _).mono ?_
  rintro e W3 ⟨rfl, hb⟩
  have RK_4 := Lib.hid (RK_2.out.below hb RK_2.out.lt)
  have B_4 := Lib.hid (B_2.out.trans (hb.mono B_2.out.size))
  clear hb RK_2 B_2
  have RK_5 := Lib.hid (RK_4.out.alloc (.cells #[.int .u64 (ph : Int), .int .u64 (pl : Int)] 25))
  have RP_5 := Lib.hid (Row.new W3 25 [.int .u64 (ph : Int), .int .u64 (pl : Int)])
  have B_5 := Lib.hid (B_4.out.alloc B_4.out.size (.cells #[.int .u64 (ph : Int), .int .u64 (pl : Int)] 25))
  go_upto_region 4 with fail
  obtain ⟨gRP, hgRP⟩ : ∃ g, g = W3.heap.size := ⟨_, rfl⟩
  clear RK_4 B_4
  rw [← hgRP] at RP_5 ⊢
  clear hgRP
  generalize W3.alloc (.cells #[.int .u64 (ph : Int), .int .u64 (pl : Int)] 25) = V5 at RK_5 RP_5 B_5 ⊢
  have c1_0 := RP_5.out.cell 0
  have c1_1 := RP_5.out.cell 1
  simp at c1_0 c1_1
  have l1 := RP_5.out.lt
  go_wp2_with fail
  refine (H1.out _).mono ?_
  rintro e W6 ⟨rfl, hb⟩
  clear c1_0 c1_1 l1
  have RK_7 := Lib.hid (RK_5.out.below hb RK_5.out.lt)
  have RP_7 := Lib.hid (RP_5.out.below hb RP_5.out.lt)
  have B_7 := Lib.hid (B_5.out.trans (hb.mono B_5.out.size))
  clear hb RK_5 RP_5 B_5
  go_wp2_with fail
  refine wp_region_held_drew (S := fun w' => Below W6.heap.size W6 w') (by kernel_rfl) (Below.refl _ _).drew (fun hHeld => ?_)
  have S_8 := Lib.hid hHeld
  clear hHeld
  generalize W6.drew = D8 at S_8 ⊢
  refine wpAnyH_take (i := 0) (oi := ⟨some 34, _, _, _, _, _⟩) (v := ?vz8_1) rfl (by kernel_rfl) (by kernel_rfl) (by kernel_rfl) (fun _ _ _ h => h) (Or.inl ⟨by rfl, ?yz8_1⟩) S_8.out ?rz8_1
  case yz8_1 =>
    rintro w' hSw
    go_simp
    try with_reducible rfl
  try simp only [Act.put, List.setIfInBounds_toArray, List.set_cons_zero, List.set_cons_succ]
  refine wpAnyH_take (i := 1) (oi := ⟨some 35, _, _, _, _, _⟩) (v := .bool true) rfl (by kernel_rfl) (by kernel_rfl) (by kernel_rfl) (fun _ _ _ h => h) (Or.inl ⟨by rfl, ?yz8_2⟩) S_8.out ?rz8_2
  case yz8_2 =>
    rintro w' hSw
    go_simp
    exact of_decide_eq_true HDM.out
  try simp only [Act.put, List.setIfInBounds_toArray, List.set_cons_zero, List.set_cons_succ]
  refine wpAnyH_take (i := 2) (oi := ⟨some 36, _, _, _, _, _⟩) (v := ?vz8_3) rfl (by kernel_rfl) (by kernel_rfl) (by kernel_rfl) (fun _ _ _ h => h) (Or.inl ⟨by rfl, ?yz8_3⟩) S_8.out ?rz8_3
  case yz8_3 =>
    rintro w' hSw
    go_simp
    try with_reducible rfl
  try simp only [Act.put, List.setIfInBounds_toArray, List.set_cons_zero, List.set_cons_succ]
  refine wpAnyH_take (i := 3) (oi := ⟨some 37, _, _, _, _, _⟩) (v := ?vz8_4) rfl (by kernel_rfl) (by kernel_rfl) (by kernel_rfl) (fun _ _ _ h => h) (Or.inl ⟨by rfl, ?yz8_4⟩) S_8.out ?rz8_4
  case yz8_4 =>
    rintro w' hSw
    go_simp
    try with_reducible rfl
  try simp only [Act.put, List.setIfInBounds_toArray, List.set_cons_zero, List.set_cons_succ]
  refine wpAnyH_take (i := 4) (oi := ⟨some 38, _, _, _, _, _⟩) (v := ?vz8_5) rfl (by kernel_rfl) (by kernel_rfl) (by kernel_rfl) (fun _ _ _ h => h) (Or.inl ⟨by rfl, ?yz8_5⟩) S_8.out ?rz8_5
  case yz8_5 =>
    rintro w' hSw
    go_simp
    try with_reducible rfl
  try simp only [Act.put, List.setIfInBounds_toArray, List.set_cons_zero, List.set_cons_succ]
  refine wpAnyH_take (i := 5) (oi := ⟨some 39, _, _, _, _, _⟩) (v := ?vz8_6) rfl (by kernel_rfl) (by kernel_rfl) (by kernel_rfl) (fun _ _ _ h => h) (Or.inl ⟨by rfl, ?yz8_6⟩) S_8.out ?rz8_6
  case yz8_6 =>
    rintro w' hSw
    go_simp
    try with_reducible rfl
  try simp only [Act.put, List.setIfInBounds_toArray, List.set_cons_zero, List.set_cons_succ]
  refine wpAnyH_take (i := 7) (oi := ⟨some 41, _, _, _, _, _⟩) (v := ?vz8_7) rfl (by kernel_rfl) (by kernel_rfl) (by kernel_rfl) (fun _ _ _ h => h) (Or.inl ⟨by rfl, ?yz8_7⟩) S_8.out ?rz8_7
  case yz8_7 =>
    rintro w' hSw
    have k0 := (RP_7.out.below hSw RP_7.out.lt).cell 0
    have k1 := (RP_7.out.below hSw RP_7.out.lt).cell 1
    simp at k0 k1
    go_simp
    try with_reducible rfl
  try simp only [Act.put, List.setIfInBounds_toArray, List.set_cons_zero, List.set_cons_succ]
  refine wpAnyH_ready (rs := [6]) (by kernel_rfl) (by simp) ?_
  refine (AllReadyH.cons rfl (fun K hK => ?_) AllReadyH.nil)
  go_simp
  refine (H3.out _).mono ?_
  rintro e Xz8_8 ⟨rfl, hb⟩
  have Sz8_8 := Lib.hid (S_8.out.trans (hb.mono S_8.out.size))
  clear hb S_8
  refine hK _ _ Sz8_8.out (fun _ => ?_)
  clear hK K
  try simp only [Act.put, List.setIfInBounds_toArray, List.set_cons_zero, List.set_cons_succ]
  refine wpAnyH_ready (rs := [8]) (by kernel_rfl) (by simp) ?_
  refine (AllReadyH.cons rfl (fun K hK => ?_) AllReadyH.nil)
  go_simp
  refine (H4.out _).mono ?_
  rintro e Xz8_9 ⟨rfl, hb⟩
  have Sz8_9 := Lib.hid (Sz8_8.out.trans (hb.mono Sz8_8.out.size))
  clear hb Sz8_8
  refine hK _ _ Sz8_9.out (fun _ => ?_)
  clear hK K
  try simp only [Act.put, List.setIfInBounds_toArray, List.set_cons_zero, List.set_cons_succ]
  refine wpAnyH_take (i := 9) (oi := ⟨some 43, _, _, _, _, _⟩) (v := ?vz8_10) rfl (by kernel_rfl) (by kernel_rfl) (by kernel_rfl) (fun _ _ _ h => h) (Or.inl ⟨by rfl, ?yz8_10⟩) Sz8_9.out ?rz8_10
  case yz8_10 =>
    rintro w' hSw
    go_simp
    try with_reducible rfl
  try simp only [Act.put, List.setIfInBounds_toArray, List.set_cons_zero, List.set_cons_succ]
  refine wpAnyH_take (i := 10) (oi := ⟨some 44, _, _, _, _, _⟩) (v := ?vz8_11) rfl (by kernel_rfl) (by kernel_rfl) (by kernel_rfl) (fun _ _ _ h => h) (Or.inl ⟨by rfl, ?yz8_11⟩) Sz8_9.out ?rz8_11
  case yz8_11 =>
    rintro w' hSw
    go_simp
    try with_reducible rfl
  try simp only [Act.put, List.setIfInBounds_toArray, List.set_cons_zero, List.set_cons_succ]
  refine wpAnyH_done (by kernel_rfl) ?_ _
  have RK_9 := Lib.hid (RK_7.out.below Sz8_9.out RK_7.out.lt)
  have RP_9 := Lib.hid (RP_7.out.below Sz8_9.out RP_7.out.lt)
  have B_9 := Lib.hid (B_7.out.trans (Sz8_9.out.mono B_7.out.size))
  clear Sz8_9 RK_7 RP_7 B_7
  clear HDM
  go_upto_region 8 with fail
  rcases HKEY.out with hk | ⟨hk, hk2⟩ | ⟨hk, hk2⟩
  · have c0_0 := RK_9.out.cell 0
    have c0_1 := RK_9.out.cell 1
    have c0_2 := RK_9.out.cell 2
    have c0_3 := RK_9.out.cell 3
    simp at c0_0 c0_1 c0_2 c0_3
    have l0 := RK_9.out.lt
    go_wp2
    go_ret
    exact ⟨rfl, B_9.out⟩
  · have c0_0 := RK_9.out.cell 0
    have c0_1 := RK_9.out.cell 1
    have c0_2 := RK_9.out.cell 2
    have c0_3 := RK_9.out.cell 3
    simp at c0_0 c0_1 c0_2 c0_3
    have l0 := RK_9.out.lt
    go_wp2
    go_ret
    exact ⟨rfl, B_9.out⟩
  · have hX := HX.out hk hk2
    obtain ⟨wxm, b3, b4, hw⟩ := hX
    obtain ⟨ih, il, hi1, hi2, hi⟩ := parts (widM x0 xm * widM y0 y1) (mul_lt (widM_lt a1 b4) (widM_lt a5 a8))
    obtain ⟨jh, jl, hj1, hj2, hj⟩ := parts (widM x0 x1 * widM y0 y1) (mul_lt (widM_lt a1 a4) (widM_lt a5 a8))
    obtain ⟨kh, kl, hk1, hk2', hkk⟩ := parts (widM x0 xm + widM y0 y1) (by have := widM_lt a1 b4; have := widM_lt a5 a8; omega)
    obtain ⟨nh, nl, hn1, hn2, hn⟩ := parts (widM x0 x1 + widM y0 y1) (by have := widM_lt a1 a4; have := widM_lt a5 a8; omega)
    have HA1 := Lib.hid (fun w => Area_any x0 xm y0 y1 ih il w a1 a2 b3 b4 a5 a6 a7 a8 hi1 hi2 hi)
    have HA2 := Lib.hid (fun w => Area_any x0 x1 y0 y1 jh jl w a1 a2 a3 a4 a5 a6 a7 a8 hj1 hj2 hj)
    have HG1 := Lib.hid (fun w => Margin_any x0 xm y0 y1 kh kl w a1 a2 b3 b4 a5 a6 a7 a8 hk1 hk2' hkk)
    have HG2 := Lib.hid (fun w => Margin_any x0 x1 y0 y1 nh nl w a1 a2 a3 a4 a5 a6 a7 a8 hn1 hn2 hn)
    obtain ⟨s5, hs5⟩ : ∃ q, cmpM (ih * 18446744073709551616 + il) (jh * 18446744073709551616 + jl) = q := ⟨_, rfl⟩
    have HA3 := Lib.hid (fun w => Cmp_is ih il jh jl w hi1 hi2 hj1 hj2 hs5)
    have hz5 : s5 ≤ 0 := at_most hs5 (by rw [← hi, ← hj, hw]; exact Nat.mul_le_mul_right _ (Nat.le_succ _))
    have hlt6 : kh * 18446744073709551616 + kl < nh * 18446744073709551616 + nl := by rw [← hkk, ← hn, hw]; omega
    have HG3 := Lib.hid (fun w => Cmp_is kh kl nh nl w hk1 hk2' hn1 hn2 (cmp_l hlt6))
    clear hi hj hkk hn hi1 hi2 hj1 hj2 hk1 hk2' hn1 hn2 hs5 hlt6 hw b3 b4
    have c0_0 := RK_9.out.cell 0
    have c0_1 := RK_9.out.cell 1
    have c0_2 := RK_9.out.cell 2
    have c0_3 := RK_9.out.cell 3
    simp at c0_0 c0_1 c0_2 c0_3
    have l0 := RK_9.out.lt
    have RK_10 := Lib.hid (RK_9.out.alloc (.cells #[.int .i64 x0, .int .i64 xm, .int .i64 y0, .int .i64 y1] 33))
    have RP_10 := Lib.hid (RP_9.out.alloc (.cells #[.int .i64 x0, .int .i64 xm, .int .i64 y0, .int .i64 y1] 33))
    have RL_10 := Lib.hid (Row.new Xz8_9 33 [.int .i64 x0, .int .i64 xm, .int .i64 y0, .int .i64 y1])
    have B_10 := Lib.hid (B_9.out.alloc B_9.out.size (.cells #[.int .i64 x0, .int .i64 xm, .int .i64 y0, .int .i64 y1] 33))
    go_upto_region 12 with fail
    obtain ⟨gRL, hgRL⟩ : ∃ g, g = Xz8_9.heap.size := ⟨_, rfl⟩
    clear RK_9 RP_9 B_9
    rw [← hgRL] at RL_10 ⊢
    clear hgRL
    generalize Xz8_9.alloc (.cells #[.int .i64 x0, .int .i64 xm, .int .i64 y0, .int .i64 y1] 33) = V10 at RK_10 RP_10 RL_10 B_10 ⊢
    clear c0_0 c0_1 c0_2 c0_3 l0
    refine wp_region_held_drew (S := fun w' => Below V10.heap.size V10 w') (by kernel_rfl) (Below.refl _ _).drew (fun hHeld => ?_)
    have S_11 := Lib.hid hHeld
    clear hHeld
    generalize V10.drew = D11 at S_11 ⊢
    refine wpAnyH_take (i := 0) (oi := ⟨some 62, _, _, _, _, _⟩) (v := ?vz11_1) rfl (by kernel_rfl) (by kernel_rfl) (by kernel_rfl) (fun _ _ _ h => h) (Or.inl ⟨by rfl, ?yz11_1⟩) S_11.out ?rz11_1
    case yz11_1 =>
      rintro w' hSw
      have k0 := (RL_10.out.below hSw RL_10.out.lt).cell 0
      have k1 := (RL_10.out.below hSw RL_10.out.lt).cell 1
      have k2 := (RL_10.out.below hSw RL_10.out.lt).cell 2
      have k3 := (RL_10.out.below hSw RL_10.out.lt).cell 3
      simp at k0 k1 k2 k3
      go_simp
      try with_reducible rfl
    try simp only [Act.put, List.setIfInBounds_toArray, List.set_cons_zero, List.set_cons_succ]
    refine wpAnyH_take (i := 2) (oi := ⟨some 64, _, _, _, _, _⟩) (v := ?vz11_2) rfl (by kernel_rfl) (by kernel_rfl) (by kernel_rfl) (fun _ _ _ h => h) (Or.inl ⟨by rfl, ?yz11_2⟩) S_11.out ?rz11_2
    case yz11_2 =>
      rintro w' hSw
      have k0 := (RK_10.out.below hSw RK_10.out.lt).cell 0
      have k1 := (RK_10.out.below hSw RK_10.out.lt).cell 1
      have k2 := (RK_10.out.below hSw RK_10.out.lt).cell 2
      have k3 := (RK_10.out.below hSw RK_10.out.lt).cell 3
      simp at k0 k1 k2 k3
      go_simp
      try with_reducible rfl
    try simp only [Act.put, List.setIfInBounds_toArray, List.set_cons_zero, List.set_cons_succ]
    refine wpAnyH_ready (rs := [1]) (by kernel_rfl) (by simp) ?_
    refine (AllReadyH.cons rfl (fun K hK => ?_) AllReadyH.nil)
    go_simp
    refine (HA1.out _).mono ?_
    rintro e Xz11_3 ⟨rfl, hb⟩
    have Sz11_3 := Lib.hid (S_11.out.trans (hb.mono S_11.out.size))
    clear hb S_11
    refine hK _ _ Sz11_3.out (fun _ => ?_)
    clear hK K
    try simp only [Act.put, List.setIfInBounds_toArray, List.set_cons_zero, List.set_cons_succ]
    refine wpAnyH_ready (rs := [3]) (by kernel_rfl) (by simp) ?_
    refine (AllReadyH.cons rfl (fun K hK => ?_) AllReadyH.nil)
    go_simp
    refine (HA2.out _).mono ?_
    rintro e Xz11_4 ⟨rfl, hb⟩
    have Sz11_4 := Lib.hid (Sz11_3.out.trans (hb.mono Sz11_3.out.size))
    clear hb Sz11_3
    refine hK _ _ Sz11_4.out (fun _ => ?_)
    clear hK K
    try simp only [Act.put, List.setIfInBounds_toArray, List.set_cons_zero, List.set_cons_succ]
    refine wpAnyH_ready (rs := [4]) (by kernel_rfl) (by simp) ?_
    refine (AllReadyH.cons rfl (fun K hK => ?_) AllReadyH.nil)
    go_simp
    refine (HA3.out _).mono ?_
    rintro e Xz11_5 ⟨rfl, hb⟩
    have Sz11_5 := Lib.hid (Sz11_4.out.trans (hb.mono Sz11_4.out.size))
    clear hb Sz11_4
    refine hK _ _ Sz11_5.out (fun _ => ?_)
    clear hK K
    try simp only [Act.put, List.setIfInBounds_toArray, List.set_cons_zero, List.set_cons_succ]
    refine wpAnyH_take (i := 5) (oi := ⟨some 67, _, _, _, _, _⟩) (v := ?vz11_6) rfl (by kernel_rfl) (by kernel_rfl) (by kernel_rfl) (fun _ _ _ h => h) (Or.inl ⟨by rfl, ?yz11_6⟩) Sz11_5.out ?rz11_6
    case yz11_6 =>
      rintro w' hSw
      go_simp
      try with_reducible rfl
    try simp only [Act.put, List.setIfInBounds_toArray, List.set_cons_zero, List.set_cons_succ]
    refine wpAnyH_take (i := 6) (oi := ⟨some 68, _, _, _, _, _⟩) (v := ?vz11_7) rfl (by kernel_rfl) (by kernel_rfl) (by kernel_rfl) (fun _ _ _ h => h) (Or.inl ⟨by rfl, ?yz11_7⟩) Sz11_5.out ?rz11_7
    case yz11_7 =>
      rintro w' hSw
      go_simp
      try with_reducible rfl
    try simp only [Act.put, List.setIfInBounds_toArray, List.set_cons_zero, List.set_cons_succ]
    refine wpAnyH_take (i := 7) (oi := ⟨some 69, _, _, _, _, _⟩) (v := ?vz11_8) rfl (by kernel_rfl) (by kernel_rfl) (by kernel_rfl) (fun _ _ _ h => h) (Or.inl ⟨by rfl, ?yz11_8⟩) Sz11_5.out ?rz11_8
    case yz11_8 =>
      rintro w' hSw
      have k0 := (RL_10.out.below hSw RL_10.out.lt).cell 0
      have k1 := (RL_10.out.below hSw RL_10.out.lt).cell 1
      have k2 := (RL_10.out.below hSw RL_10.out.lt).cell 2
      have k3 := (RL_10.out.below hSw RL_10.out.lt).cell 3
      simp at k0 k1 k2 k3
      go_simp
      try with_reducible rfl
    try simp only [Act.put, List.setIfInBounds_toArray, List.set_cons_zero, List.set_cons_succ]
    refine wpAnyH_take (i := 9) (oi := ⟨some 71, _, _, _, _, _⟩) (v := ?vz11_9) rfl (by kernel_rfl) (by kernel_rfl) (by kernel_rfl) (fun _ _ _ h => h) (Or.inl ⟨by rfl, ?yz11_9⟩) Sz11_5.out ?rz11_9
    case yz11_9 =>
      rintro w' hSw
      have k0 := (RK_10.out.below hSw RK_10.out.lt).cell 0
      have k1 := (RK_10.out.below hSw RK_10.out.lt).cell 1
      have k2 := (RK_10.out.below hSw RK_10.out.lt).cell 2
      have k3 := (RK_10.out.below hSw RK_10.out.lt).cell 3
      simp at k0 k1 k2 k3
      go_simp
      try with_reducible rfl
    try simp only [Act.put, List.setIfInBounds_toArray, List.set_cons_zero, List.set_cons_succ]
    refine wpAnyH_ready (rs := [8]) (by kernel_rfl) (by simp) ?_
    refine (AllReadyH.cons rfl (fun K hK => ?_) AllReadyH.nil)
    go_simp
    refine (HG1.out _).mono ?_
    rintro e Xz11_10 ⟨rfl, hb⟩
    have Sz11_10 := Lib.hid (Sz11_5.out.trans (hb.mono Sz11_5.out.size))
    clear hb Sz11_5
    refine hK _ _ Sz11_10.out (fun _ => ?_)
    clear hK K
    try simp only [Act.put, List.setIfInBounds_toArray, List.set_cons_zero, List.set_cons_succ]
    refine wpAnyH_ready (rs := [10]) (by kernel_rfl) (by simp) ?_
    refine (AllReadyH.cons rfl (fun K hK => ?_) AllReadyH.nil)
    go_simp
    refine (HG2.out _).mono ?_
    rintro e Xz11_11 ⟨rfl, hb⟩
    have Sz11_11 := Lib.hid (Sz11_10.out.trans (hb.mono Sz11_10.out.size))
    clear hb Sz11_10
    refine hK _ _ Sz11_11.out (fun _ => ?_)
    clear hK K
    try simp only [Act.put, List.setIfInBounds_toArray, List.set_cons_zero, List.set_cons_succ]
    refine wpAnyH_ready (rs := [11]) (by kernel_rfl) (by simp) ?_
    refine (AllReadyH.cons rfl (fun K hK => ?_) AllReadyH.nil)
    go_simp
    refine (HG3.out _).mono ?_
    rintro e Xz11_12 ⟨rfl, hb⟩
    have Sz11_12 := Lib.hid (Sz11_11.out.trans (hb.mono Sz11_11.out.size))
    clear hb Sz11_11
    refine hK _ _ Sz11_12.out (fun _ => ?_)
    clear hK K
    try simp only [Act.put, List.setIfInBounds_toArray, List.set_cons_zero, List.set_cons_succ]
    refine wpAnyH_take (i := 12) (oi := ⟨some 74, _, _, _, _, _⟩) (v := ?vz11_13) rfl (by kernel_rfl) (by kernel_rfl) (by kernel_rfl) (fun _ _ _ h => h) (Or.inl ⟨by rfl, ?yz11_13⟩) Sz11_12.out ?rz11_13
    case yz11_13 =>
      rintro w' hSw
      go_simp
      try with_reducible rfl
    try simp only [Act.put, List.setIfInBounds_toArray, List.set_cons_zero, List.set_cons_succ]
    refine wpAnyH_take (i := 13) (oi := ⟨some 75, _, _, _, _, _⟩) (v := ?vz11_14) rfl (by kernel_rfl) (by kernel_rfl) (by kernel_rfl) (fun _ _ _ h => h) (Or.inl ⟨by rfl, ?yz11_14⟩) Sz11_12.out ?rz11_14
    case yz11_14 =>
      rintro w' hSw
      go_simp
      try with_reducible rfl
    try simp only [Act.put, List.setIfInBounds_toArray, List.set_cons_zero, List.set_cons_succ]
    refine wpAnyH_take (i := 14) (oi := ⟨some 6, _, _, _, _, _⟩) (v := ?vz11_15) rfl (by kernel_rfl) (by kernel_rfl) (by kernel_rfl) (fun _ _ _ h => h) (Or.inl ⟨by rfl, ?yz11_15⟩) Sz11_12.out ?rz11_15
    case yz11_15 =>
      rintro w' hSw
      go_simp
      try with_reducible rfl
    try simp only [Act.put, List.setIfInBounds_toArray, List.set_cons_zero, List.set_cons_succ]
    refine wpAnyH_done (by kernel_rfl) ?_ _
    have RK_12 := Lib.hid (RK_10.out.below Sz11_12.out RK_10.out.lt)
    have RP_12 := Lib.hid (RP_10.out.below Sz11_12.out RP_10.out.lt)
    have RL_12 := Lib.hid (RL_10.out.below Sz11_12.out RL_10.out.lt)
    have B_12 := Lib.hid (B_10.out.trans (Sz11_12.out.mono B_10.out.size))
    clear Sz11_12 RK_10 RP_10 RL_10 B_10
    go_wp2
    go_ret
    exact ⟨rfl, B_12.out⟩

set_option maxHeartbeats 8000000 in
theorem walk_01 (a b : Nat) (x0 x1 y0 y1 : Int) (w : World) (h1 : a < 18446744073709551616) (h2 : b < 18446744073709551616) (a1 : -9223372036854775808 ≤ x0) (a2 : x0 ≤ 9223372036854775807) (a3 : -9223372036854775808 ≤ x1) (a4 : x1 ≤ 9223372036854775807) (a5 : -9223372036854775808 ≤ y0) (a6 : y0 ≤ 9223372036854775807) (a7 : -9223372036854775808 ≤ y1) (a8 : y1 ≤ 9223372036854775807)
    (ha : 0 < (a : Int)) (ha2 : (a : Int) < 18446744073709551615) (hb : 0 < (b : Int)) :
    Calls Try.prog 9 #[.int .u64 (a : Int), .int .u64 (b : Int), .agg #[.int .i64 x0, .int .i64 x1, .int .i64 y0, .int .i64 y1]] w fun e w' => e = .returned (.bool true) ∧ Below w.heap.size w w' := by
  have HW := Lib.hid wakes_any
  obtain ⟨ph, pl, hp1, hp2, hp⟩ := parts (a * b) (mul_lt h1 h2)
  have HM := Lib.hid (fun w => Mul_any a b ph pl w h1 h2 hp1 hp2 hp)
  obtain ⟨s1, hs1⟩ : ∃ q, cmpM (ph * 18446744073709551616 + pl) (0 * 18446744073709551616 + a) = q := ⟨_, rfl⟩
  obtain ⟨s2, hs2⟩ : ∃ q, cmpM (ph * 18446744073709551616 + pl) (0 * 18446744073709551616 + b) = q := ⟨_, rfl⟩
  have H1 := Lib.hid (fun w => Cmp_is ph pl 0 a w hp1 hp2 (by omega) h1 hs1)
  have H2 := Lib.hid (fun w => Cmp_is ph pl 0 b w hp1 hp2 (by omega) h2 hs2)
  have hz1 : 0 < b → ¬ s1 < 0 := fun hb => at_least hs1 (by rw [← hp, Nat.zero_mul, Nat.zero_add]; exact Nat.le_mul_of_pos_right _ hb)
  have hz2 : 0 < a → ¬ s2 < 0 := fun ha => at_least hs2 (by rw [← hp, Nat.zero_mul, Nat.zero_add]; exact Nat.le_mul_of_pos_left _ ha)
  replace hz1 := hz1 (by omega)
  replace hz2 := hz2 (by omega)
  skip
  skip
  obtain ⟨m, hm⟩ : ∃ m, m = a + 1 := ⟨_, rfl⟩
  have wm : IntKind.u64.wrap ((a : Int) + 1) = (m : Int) := by rw [IntKind.wrap_u64]; omega
  obtain ⟨rh, rl, hr1, hr2, hr⟩ := parts (m * b) (mul_lt (by omega) h2)
  have H3 := Lib.hid (fun w => Mul_any m b rh rl w (by omega) h2 hr1 hr2 hr)
  obtain ⟨s3, hs3⟩ : ∃ q, cmpM (rh * 18446744073709551616 + rl) (ph * 18446744073709551616 + pl) = q := ⟨_, rfl⟩
  have H4 := Lib.hid (fun w => Cmp_is rh rl ph pl w hr1 hr2 hp1 hp2 hs3)
  have hz3 : ¬ s3 < 0 := at_least hs3 (by rw [← hp, ← hr, hm]; exact Nat.mul_le_mul_right _ (Nat.le_succ a))
  clear hm hr hr1 hr2 hs3
  have HKEY := Lib.hid (show x1 ≤ x0 ∨ (x0 < x1 ∧ y1 < y0) ∨ (x0 < x1 ∧ y0 ≤ y1) from key_ways x0 x1 y0 y1)
  obtain ⟨xm, hxm⟩ : ∃ m, m = x1 - 1 := ⟨_, rfl⟩
  have HX : Hid (x0 < x1 → y0 ≤ y1 → IntKind.i64.wrap (x1 - 1) = xm ∧ -9223372036854775808 ≤ xm ∧ xm ≤ 9223372036854775807 ∧ widM x0 x1 = widM x0 xm + 1) := (show _ → _ → _ from fun hx hy => by
    refine ⟨by rw [IntKind.wrap_i64]; omega, by omega, by omega, ?_⟩
    unfold widM
    rw [if_neg (by omega), if_neg (by omega)]
    omega)
  clear hp hp1 hp2 hs1 hs2 hxm
  have HDM : Most a true := ⟨by simp; omega⟩
  clear ha2
  go_enter Try.func9, Try.ntmps9
  go_upto_region 1 with fail
  have RK_0 := Lib.hid (row_last w (w.heap.size) 33 [.int .i64 x0, .int .i64 x1, .int .i64 y0, .int .i64 y1] (by simp))
  have B_0 := Lib.hid ((Below.refl w.heap.size w).alloc (Nat.le_refl _) (.cells #[.int .i64 x0, .int .i64 x1, .int .i64 y0, .int .i64 y1] 33))
  generalize (w.alloc (.cells #[.int .i64 x0, .int .i64 x1, .int .i64 y0, .int .i64 y1] 33)) = V0 at RK_0 B_0 ⊢
  go_wp2_with fail
  refine (HW.out _).mono ?_
  rintro e W13 ⟨rfl, hb⟩
  have RK_14 := Lib.hid (RK_0.out.below hb RK_0.out.lt)
  have B_14 := Lib.hid (B_0.out.trans (hb.mono B_0.out.size))
  clear hb RK_0 B_0
  go_wp2_with fail
  refine (HM.out _).mono ?_
  rintro e W15 ⟨rfl, hb⟩
  have RK_16 := Lib.hid (RK_14.out.below hb RK_14.out.lt)
  have B_16 := Lib.hid (B_14.out.trans (hb.mono B_14.out.size))
  clear hb RK_14 B_14
  have RK_17 := Lib.hid (RK_16.out.alloc (.cells #[.int .u64 (ph : Int), .int .u64 (pl : Int)] 25))
  have RP_17 := Lib.hid (Row.new W15 25 [.int .u64 (ph : Int), .int .u64 (pl : Int)])
  have B_17 := Lib.hid (B_16.out.alloc B_16.out.size (.cells #[.int .u64 (ph : Int), .int .u64 (pl : Int)] 25))
  go_upto_region 4 with fail
  obtain ⟨gRP, hgRP⟩ : ∃ g, g = W15.heap.size := ⟨_, rfl⟩
  clear RK_16 B_16
  rw [← hgRP] at RP_17 ⊢
  clear hgRP
  generalize W15.alloc (.cells #[.int .u64 (ph : Int), .int .u64 (pl : Int)] 25) = V17 at RK_17 RP_17 B_17 ⊢
  have c1_0 := RP_17.out.cell 0
  have c1_1 := RP_17.out.cell 1
  simp at c1_0 c1_1
  have l1 := RP_17.out.lt
  go_wp2_with fail
  refine (H1.out _).mono ?_
  rintro e W18 ⟨rfl, hb⟩
  clear c1_0 c1_1 l1
  have RK_19 := Lib.hid (RK_17.out.below hb RK_17.out.lt)
  have RP_19 := Lib.hid (RP_17.out.below hb RP_17.out.lt)
  have B_19 := Lib.hid (B_17.out.trans (hb.mono B_17.out.size))
  clear hb RK_17 RP_17 B_17
  have c1_0 := RP_19.out.cell 0
  have c1_1 := RP_19.out.cell 1
  simp at c1_0 c1_1
  have l1 := RP_19.out.lt
  go_wp2_with fail
  refine (H2.out _).mono ?_
  rintro e W20 ⟨rfl, hb⟩
  clear c1_0 c1_1 l1
  have RK_21 := Lib.hid (RK_19.out.below hb RK_19.out.lt)
  have RP_21 := Lib.hid (RP_19.out.below hb RP_19.out.lt)
  have B_21 := Lib.hid (B_19.out.trans (hb.mono B_19.out.size))
  clear hb RK_19 RP_19 B_19
  go_wp2_with fail
  refine wp_region_held_drew (S := fun w' => Below W20.heap.size W20 w') (by kernel_rfl) (Below.refl _ _).drew (fun hHeld => ?_)
  have S_22 := Lib.hid hHeld
  clear hHeld
  generalize W20.drew = D22 at S_22 ⊢
  refine wpAnyH_take (i := 0) (oi := ⟨some 34, _, _, _, _, _⟩) (v := ?vz22_1) rfl (by kernel_rfl) (by kernel_rfl) (by kernel_rfl) (fun _ _ _ h => h) (Or.inl ⟨by rfl, ?yz22_1⟩) S_22.out ?rz22_1
  case yz22_1 =>
    rintro w' hSw
    go_simp
    try with_reducible rfl
  try simp only [Act.put, List.setIfInBounds_toArray, List.set_cons_zero, List.set_cons_succ]
  refine wpAnyH_take (i := 1) (oi := ⟨some 35, _, _, _, _, _⟩) (v := .bool true) rfl (by kernel_rfl) (by kernel_rfl) (by kernel_rfl) (fun _ _ _ h => h) (Or.inl ⟨by rfl, ?yz22_2⟩) S_22.out ?rz22_2
  case yz22_2 =>
    rintro w' hSw
    go_simp
    exact of_decide_eq_true HDM.out
  try simp only [Act.put, List.setIfInBounds_toArray, List.set_cons_zero, List.set_cons_succ]
  refine wpAnyH_take (i := 2) (oi := ⟨some 36, _, _, _, _, _⟩) (v := ?vz22_3) rfl (by kernel_rfl) (by kernel_rfl) (by kernel_rfl) (fun _ _ _ h => h) (Or.inl ⟨by rfl, ?yz22_3⟩) S_22.out ?rz22_3
  case yz22_3 =>
    rintro w' hSw
    go_simp
    try with_reducible rfl
  try simp only [Act.put, List.setIfInBounds_toArray, List.set_cons_zero, List.set_cons_succ]
  refine wpAnyH_take (i := 3) (oi := ⟨some 37, _, _, _, _, _⟩) (v := ?vz22_4) rfl (by kernel_rfl) (by kernel_rfl) (by kernel_rfl) (fun _ _ _ h => h) (Or.inl ⟨by rfl, ?yz22_4⟩) S_22.out ?rz22_4
  case yz22_4 =>
    rintro w' hSw
    go_simp
    try with_reducible rfl
  try simp only [Act.put, List.setIfInBounds_toArray, List.set_cons_zero, List.set_cons_succ]
  refine wpAnyH_take (i := 4) (oi := ⟨some 38, _, _, _, _, _⟩) (v := ?vz22_5) rfl (by kernel_rfl) (by kernel_rfl) (by kernel_rfl) (fun _ _ _ h => h) (Or.inl ⟨by rfl, ?yz22_5⟩) S_22.out ?rz22_5
  case yz22_5 =>
    rintro w' hSw
    go_simp
    try with_reducible rfl
  try simp only [Act.put, List.setIfInBounds_toArray, List.set_cons_zero, List.set_cons_succ]
  refine wpAnyH_take (i := 5) (oi := ⟨some 39, _, _, _, _, _⟩) (v := ?vz22_6) rfl (by kernel_rfl) (by kernel_rfl) (by kernel_rfl) (fun _ _ _ h => h) (Or.inl ⟨by rfl, ?yz22_6⟩) S_22.out ?rz22_6
  case yz22_6 =>
    rintro w' hSw
    go_simp
    try with_reducible rfl
  try simp only [Act.put, List.setIfInBounds_toArray, List.set_cons_zero, List.set_cons_succ]
  refine wpAnyH_take (i := 7) (oi := ⟨some 41, _, _, _, _, _⟩) (v := ?vz22_7) rfl (by kernel_rfl) (by kernel_rfl) (by kernel_rfl) (fun _ _ _ h => h) (Or.inl ⟨by rfl, ?yz22_7⟩) S_22.out ?rz22_7
  case yz22_7 =>
    rintro w' hSw
    have k0 := (RP_21.out.below hSw RP_21.out.lt).cell 0
    have k1 := (RP_21.out.below hSw RP_21.out.lt).cell 1
    simp at k0 k1
    go_simp
    try with_reducible rfl
  try simp only [Act.put, List.setIfInBounds_toArray, List.set_cons_zero, List.set_cons_succ]
  refine wpAnyH_ready (rs := [6]) (by kernel_rfl) (by simp) ?_
  refine (AllReadyH.cons rfl (fun K hK => ?_) AllReadyH.nil)
  go_simp
  refine (H3.out _).mono ?_
  rintro e Xz22_8 ⟨rfl, hb⟩
  have Sz22_8 := Lib.hid (S_22.out.trans (hb.mono S_22.out.size))
  clear hb S_22
  refine hK _ _ Sz22_8.out (fun _ => ?_)
  clear hK K
  try simp only [Act.put, List.setIfInBounds_toArray, List.set_cons_zero, List.set_cons_succ]
  refine wpAnyH_ready (rs := [8]) (by kernel_rfl) (by simp) ?_
  refine (AllReadyH.cons rfl (fun K hK => ?_) AllReadyH.nil)
  go_simp
  refine (H4.out _).mono ?_
  rintro e Xz22_9 ⟨rfl, hb⟩
  have Sz22_9 := Lib.hid (Sz22_8.out.trans (hb.mono Sz22_8.out.size))
  clear hb Sz22_8
  refine hK _ _ Sz22_9.out (fun _ => ?_)
  clear hK K
  try simp only [Act.put, List.setIfInBounds_toArray, List.set_cons_zero, List.set_cons_succ]
  refine wpAnyH_take (i := 9) (oi := ⟨some 43, _, _, _, _, _⟩) (v := ?vz22_10) rfl (by kernel_rfl) (by kernel_rfl) (by kernel_rfl) (fun _ _ _ h => h) (Or.inl ⟨by rfl, ?yz22_10⟩) Sz22_9.out ?rz22_10
  case yz22_10 =>
    rintro w' hSw
    go_simp
    try with_reducible rfl
  try simp only [Act.put, List.setIfInBounds_toArray, List.set_cons_zero, List.set_cons_succ]
  refine wpAnyH_take (i := 10) (oi := ⟨some 44, _, _, _, _, _⟩) (v := ?vz22_11) rfl (by kernel_rfl) (by kernel_rfl) (by kernel_rfl) (fun _ _ _ h => h) (Or.inl ⟨by rfl, ?yz22_11⟩) Sz22_9.out ?rz22_11
  case yz22_11 =>
    rintro w' hSw
    go_simp
    try with_reducible rfl
  try simp only [Act.put, List.setIfInBounds_toArray, List.set_cons_zero, List.set_cons_succ]
  refine wpAnyH_done (by kernel_rfl) ?_ _
  have RK_23 := Lib.hid (RK_21.out.below Sz22_9.out RK_21.out.lt)
  have RP_23 := Lib.hid (RP_21.out.below Sz22_9.out RP_21.out.lt)
  have B_23 := Lib.hid (B_21.out.trans (Sz22_9.out.mono B_21.out.size))
  clear Sz22_9 RK_21 RP_21 B_21
  clear HDM
  go_upto_region 8 with fail
  rcases HKEY.out with hk | ⟨hk, hk2⟩ | ⟨hk, hk2⟩
  · have c0_0 := RK_23.out.cell 0
    have c0_1 := RK_23.out.cell 1
    have c0_2 := RK_23.out.cell 2
    have c0_3 := RK_23.out.cell 3
    simp at c0_0 c0_1 c0_2 c0_3
    have l0 := RK_23.out.lt
    go_wp2
    go_ret
    exact ⟨rfl, B_23.out⟩
  · have c0_0 := RK_23.out.cell 0
    have c0_1 := RK_23.out.cell 1
    have c0_2 := RK_23.out.cell 2
    have c0_3 := RK_23.out.cell 3
    simp at c0_0 c0_1 c0_2 c0_3
    have l0 := RK_23.out.lt
    go_wp2
    go_ret
    exact ⟨rfl, B_23.out⟩
  · have hX := HX.out hk hk2
    obtain ⟨wxm, b3, b4, hw⟩ := hX
    obtain ⟨ih, il, hi1, hi2, hi⟩ := parts (widM x0 xm * widM y0 y1) (mul_lt (widM_lt a1 b4) (widM_lt a5 a8))
    obtain ⟨jh, jl, hj1, hj2, hj⟩ := parts (widM x0 x1 * widM y0 y1) (mul_lt (widM_lt a1 a4) (widM_lt a5 a8))
    obtain ⟨kh, kl, hk1, hk2', hkk⟩ := parts (widM x0 xm + widM y0 y1) (by have := widM_lt a1 b4; have := widM_lt a5 a8; omega)
    obtain ⟨nh, nl, hn1, hn2, hn⟩ := parts (widM x0 x1 + widM y0 y1) (by have := widM_lt a1 a4; have := widM_lt a5 a8; omega)
    have HA1 := Lib.hid (fun w => Area_any x0 xm y0 y1 ih il w a1 a2 b3 b4 a5 a6 a7 a8 hi1 hi2 hi)
    have HA2 := Lib.hid (fun w => Area_any x0 x1 y0 y1 jh jl w a1 a2 a3 a4 a5 a6 a7 a8 hj1 hj2 hj)
    have HG1 := Lib.hid (fun w => Margin_any x0 xm y0 y1 kh kl w a1 a2 b3 b4 a5 a6 a7 a8 hk1 hk2' hkk)
    have HG2 := Lib.hid (fun w => Margin_any x0 x1 y0 y1 nh nl w a1 a2 a3 a4 a5 a6 a7 a8 hn1 hn2 hn)
    obtain ⟨s5, hs5⟩ : ∃ q, cmpM (ih * 18446744073709551616 + il) (jh * 18446744073709551616 + jl) = q := ⟨_, rfl⟩
    have HA3 := Lib.hid (fun w => Cmp_is ih il jh jl w hi1 hi2 hj1 hj2 hs5)
    have hz5 : s5 ≤ 0 := at_most hs5 (by rw [← hi, ← hj, hw]; exact Nat.mul_le_mul_right _ (Nat.le_succ _))
    have hlt6 : kh * 18446744073709551616 + kl < nh * 18446744073709551616 + nl := by rw [← hkk, ← hn, hw]; omega
    have HG3 := Lib.hid (fun w => Cmp_is kh kl nh nl w hk1 hk2' hn1 hn2 (cmp_l hlt6))
    clear hi hj hkk hn hi1 hi2 hj1 hj2 hk1 hk2' hn1 hn2 hs5 hlt6 hw b3 b4
    have c0_0 := RK_23.out.cell 0
    have c0_1 := RK_23.out.cell 1
    have c0_2 := RK_23.out.cell 2
    have c0_3 := RK_23.out.cell 3
    simp at c0_0 c0_1 c0_2 c0_3
    have l0 := RK_23.out.lt
    have RK_24 := Lib.hid (RK_23.out.alloc (.cells #[.int .i64 x0, .int .i64 xm, .int .i64 y0, .int .i64 y1] 33))
    have RP_24 := Lib.hid (RP_23.out.alloc (.cells #[.int .i64 x0, .int .i64 xm, .int .i64 y0, .int .i64 y1] 33))
    have RL_24 := Lib.hid (Row.new Xz22_9 33 [.int .i64 x0, .int .i64 xm, .int .i64 y0, .int .i64 y1])
    have B_24 := Lib.hid (B_23.out.alloc B_23.out.size (.cells #[.int .i64 x0, .int .i64 xm, .int .i64 y0, .int .i64 y1] 33))
    go_upto_region 12 with fail
    obtain ⟨gRL, hgRL⟩ : ∃ g, g = Xz22_9.heap.size := ⟨_, rfl⟩
    clear RK_23 RP_23 B_23
    rw [← hgRL] at RL_24 ⊢
    clear hgRL
    generalize Xz22_9.alloc (.cells #[.int .i64 x0, .int .i64 xm, .int .i64 y0, .int .i64 y1] 33) = V24 at RK_24 RP_24 RL_24 B_24 ⊢
    clear c0_0 c0_1 c0_2 c0_3 l0
    refine wp_region_held_drew (S := fun w' => Below V24.heap.size V24 w') (by kernel_rfl) (Below.refl _ _).drew (fun hHeld => ?_)
    have S_25 := Lib.hid hHeld
    clear hHeld
    generalize V24.drew = D25 at S_25 ⊢
    refine wpAnyH_take (i := 0) (oi := ⟨some 62, _, _, _, _, _⟩) (v := ?vz25_1) rfl (by kernel_rfl) (by kernel_rfl) (by kernel_rfl) (fun _ _ _ h => h) (Or.inl ⟨by rfl, ?yz25_1⟩) S_25.out ?rz25_1
    case yz25_1 =>
      rintro w' hSw
      have k0 := (RL_24.out.below hSw RL_24.out.lt).cell 0
      have k1 := (RL_24.out.below hSw RL_24.out.lt).cell 1
      have k2 := (RL_24.out.below hSw RL_24.out.lt).cell 2
      have k3 := (RL_24.out.below hSw RL_24.out.lt).cell 3
      simp at k0 k1 k2 k3
      go_simp
      try with_reducible rfl
    try simp only [Act.put, List.setIfInBounds_toArray, List.set_cons_zero, List.set_cons_succ]
    refine wpAnyH_take (i := 2) (oi := ⟨some 64, _, _, _, _, _⟩) (v := ?vz25_2) rfl (by kernel_rfl) (by kernel_rfl) (by kernel_rfl) (fun _ _ _ h => h) (Or.inl ⟨by rfl, ?yz25_2⟩) S_25.out ?rz25_2
    case yz25_2 =>
      rintro w' hSw
      have k0 := (RK_24.out.below hSw RK_24.out.lt).cell 0
      have k1 := (RK_24.out.below hSw RK_24.out.lt).cell 1
      have k2 := (RK_24.out.below hSw RK_24.out.lt).cell 2
      have k3 := (RK_24.out.below hSw RK_24.out.lt).cell 3
      simp at k0 k1 k2 k3
      go_simp
      try with_reducible rfl
    try simp only [Act.put, List.setIfInBounds_toArray, List.set_cons_zero, List.set_cons_succ]
    refine wpAnyH_ready (rs := [1]) (by kernel_rfl) (by simp) ?_
    refine (AllReadyH.cons rfl (fun K hK => ?_) AllReadyH.nil)
    go_simp
    refine (HA1.out _).mono ?_
    rintro e Xz25_3 ⟨rfl, hb⟩
    have Sz25_3 := Lib.hid (S_25.out.trans (hb.mono S_25.out.size))
    clear hb S_25
    refine hK _ _ Sz25_3.out (fun _ => ?_)
    clear hK K
    try simp only [Act.put, List.setIfInBounds_toArray, List.set_cons_zero, List.set_cons_succ]
    refine wpAnyH_ready (rs := [3]) (by kernel_rfl) (by simp) ?_
    refine (AllReadyH.cons rfl (fun K hK => ?_) AllReadyH.nil)
    go_simp
    refine (HA2.out _).mono ?_
    rintro e Xz25_4 ⟨rfl, hb⟩
    have Sz25_4 := Lib.hid (Sz25_3.out.trans (hb.mono Sz25_3.out.size))
    clear hb Sz25_3
    refine hK _ _ Sz25_4.out (fun _ => ?_)
    clear hK K
    try simp only [Act.put, List.setIfInBounds_toArray, List.set_cons_zero, List.set_cons_succ]
    refine wpAnyH_ready (rs := [4]) (by kernel_rfl) (by simp) ?_
    refine (AllReadyH.cons rfl (fun K hK => ?_) AllReadyH.nil)
    go_simp
    refine (HA3.out _).mono ?_
    rintro e Xz25_5 ⟨rfl, hb⟩
    have Sz25_5 := Lib.hid (Sz25_4.out.trans (hb.mono Sz25_4.out.size))
    clear hb Sz25_4
    refine hK _ _ Sz25_5.out (fun _ => ?_)
    clear hK K
    try simp only [Act.put, List.setIfInBounds_toArray, List.set_cons_zero, List.set_cons_succ]
    refine wpAnyH_take (i := 5) (oi := ⟨some 67, _, _, _, _, _⟩) (v := ?vz25_6) rfl (by kernel_rfl) (by kernel_rfl) (by kernel_rfl) (fun _ _ _ h => h) (Or.inl ⟨by rfl, ?yz25_6⟩) Sz25_5.out ?rz25_6
    case yz25_6 =>
      rintro w' hSw
      go_simp
      try with_reducible rfl
    try simp only [Act.put, List.setIfInBounds_toArray, List.set_cons_zero, List.set_cons_succ]
    refine wpAnyH_take (i := 6) (oi := ⟨some 68, _, _, _, _, _⟩) (v := ?vz25_7) rfl (by kernel_rfl) (by kernel_rfl) (by kernel_rfl) (fun _ _ _ h => h) (Or.inl ⟨by rfl, ?yz25_7⟩) Sz25_5.out ?rz25_7
    case yz25_7 =>
      rintro w' hSw
      go_simp
      try with_reducible rfl
    try simp only [Act.put, List.setIfInBounds_toArray, List.set_cons_zero, List.set_cons_succ]
    refine wpAnyH_take (i := 7) (oi := ⟨some 69, _, _, _, _, _⟩) (v := ?vz25_8) rfl (by kernel_rfl) (by kernel_rfl) (by kernel_rfl) (fun _ _ _ h => h) (Or.inl ⟨by rfl, ?yz25_8⟩) Sz25_5.out ?rz25_8
    case yz25_8 =>
      rintro w' hSw
      have k0 := (RL_24.out.below hSw RL_24.out.lt).cell 0
      have k1 := (RL_24.out.below hSw RL_24.out.lt).cell 1
      have k2 := (RL_24.out.below hSw RL_24.out.lt).cell 2
      have k3 := (RL_24.out.below hSw RL_24.out.lt).cell 3
      simp at k0 k1 k2 k3
      go_simp
      try with_reducible rfl
    try simp only [Act.put, List.setIfInBounds_toArray, List.set_cons_zero, List.set_cons_succ]
    refine wpAnyH_take (i := 9) (oi := ⟨some 71, _, _, _, _, _⟩) (v := ?vz25_9) rfl (by kernel_rfl) (by kernel_rfl) (by kernel_rfl) (fun _ _ _ h => h) (Or.inl ⟨by rfl, ?yz25_9⟩) Sz25_5.out ?rz25_9
    case yz25_9 =>
      rintro w' hSw
      have k0 := (RK_24.out.below hSw RK_24.out.lt).cell 0
      have k1 := (RK_24.out.below hSw RK_24.out.lt).cell 1
      have k2 := (RK_24.out.below hSw RK_24.out.lt).cell 2
      have k3 := (RK_24.out.below hSw RK_24.out.lt).cell 3
      simp at k0 k1 k2 k3
      go_simp
      try with_reducible rfl
    try simp only [Act.put, List.setIfInBounds_toArray, List.set_cons_zero, List.set_cons_succ]
    refine wpAnyH_ready (rs := [8]) (by kernel_rfl) (by simp) ?_
    refine (AllReadyH.cons rfl (fun K hK => ?_) AllReadyH.nil)
    go_simp
    refine (HG1.out _).mono ?_
    rintro e Xz25_10 ⟨rfl, hb⟩
    have Sz25_10 := Lib.hid (Sz25_5.out.trans (hb.mono Sz25_5.out.size))
    clear hb Sz25_5
    refine hK _ _ Sz25_10.out (fun _ => ?_)
    clear hK K
    try simp only [Act.put, List.setIfInBounds_toArray, List.set_cons_zero, List.set_cons_succ]
    refine wpAnyH_ready (rs := [10]) (by kernel_rfl) (by simp) ?_
    refine (AllReadyH.cons rfl (fun K hK => ?_) AllReadyH.nil)
    go_simp
    refine (HG2.out _).mono ?_
    rintro e Xz25_11 ⟨rfl, hb⟩
    have Sz25_11 := Lib.hid (Sz25_10.out.trans (hb.mono Sz25_10.out.size))
    clear hb Sz25_10
    refine hK _ _ Sz25_11.out (fun _ => ?_)
    clear hK K
    try simp only [Act.put, List.setIfInBounds_toArray, List.set_cons_zero, List.set_cons_succ]
    refine wpAnyH_ready (rs := [11]) (by kernel_rfl) (by simp) ?_
    refine (AllReadyH.cons rfl (fun K hK => ?_) AllReadyH.nil)
    go_simp
    refine (HG3.out _).mono ?_
    rintro e Xz25_12 ⟨rfl, hb⟩
    have Sz25_12 := Lib.hid (Sz25_11.out.trans (hb.mono Sz25_11.out.size))
    clear hb Sz25_11
    refine hK _ _ Sz25_12.out (fun _ => ?_)
    clear hK K
    try simp only [Act.put, List.setIfInBounds_toArray, List.set_cons_zero, List.set_cons_succ]
    refine wpAnyH_take (i := 12) (oi := ⟨some 74, _, _, _, _, _⟩) (v := ?vz25_13) rfl (by kernel_rfl) (by kernel_rfl) (by kernel_rfl) (fun _ _ _ h => h) (Or.inl ⟨by rfl, ?yz25_13⟩) Sz25_12.out ?rz25_13
    case yz25_13 =>
      rintro w' hSw
      go_simp
      try with_reducible rfl
    try simp only [Act.put, List.setIfInBounds_toArray, List.set_cons_zero, List.set_cons_succ]
    refine wpAnyH_take (i := 13) (oi := ⟨some 75, _, _, _, _, _⟩) (v := ?vz25_14) rfl (by kernel_rfl) (by kernel_rfl) (by kernel_rfl) (fun _ _ _ h => h) (Or.inl ⟨by rfl, ?yz25_14⟩) Sz25_12.out ?rz25_14
    case yz25_14 =>
      rintro w' hSw
      go_simp
      try with_reducible rfl
    try simp only [Act.put, List.setIfInBounds_toArray, List.set_cons_zero, List.set_cons_succ]
    refine wpAnyH_take (i := 14) (oi := ⟨some 6, _, _, _, _, _⟩) (v := ?vz25_15) rfl (by kernel_rfl) (by kernel_rfl) (by kernel_rfl) (fun _ _ _ h => h) (Or.inl ⟨by rfl, ?yz25_15⟩) Sz25_12.out ?rz25_15
    case yz25_15 =>
      rintro w' hSw
      go_simp
      try with_reducible rfl
    try simp only [Act.put, List.setIfInBounds_toArray, List.set_cons_zero, List.set_cons_succ]
    refine wpAnyH_done (by kernel_rfl) ?_ _
    have RK_26 := Lib.hid (RK_24.out.below Sz25_12.out RK_24.out.lt)
    have RP_26 := Lib.hid (RP_24.out.below Sz25_12.out RP_24.out.lt)
    have RL_26 := Lib.hid (RL_24.out.below Sz25_12.out RL_24.out.lt)
    have B_26 := Lib.hid (B_24.out.trans (Sz25_12.out.mono B_24.out.size))
    clear Sz25_12 RK_24 RP_24 RL_24 B_24
    go_wp2
    go_ret
    exact ⟨rfl, B_26.out⟩

set_option maxHeartbeats 8000000 in
theorem walk_02 (a b : Nat) (x0 x1 y0 y1 : Int) (w : World) (h1 : a < 18446744073709551616) (h2 : b < 18446744073709551616) (a1 : -9223372036854775808 ≤ x0) (a2 : x0 ≤ 9223372036854775807) (a3 : -9223372036854775808 ≤ x1) (a4 : x1 ≤ 9223372036854775807) (a5 : -9223372036854775808 ≤ y0) (a6 : y0 ≤ 9223372036854775807) (a7 : -9223372036854775808 ≤ y1) (a8 : y1 ≤ 9223372036854775807)
    (ha : 0 < (a : Int)) (ha2 : ¬ (a : Int) < 18446744073709551615) (hb : 0 < (b : Int)) :
    Calls Try.prog 9 #[.int .u64 (a : Int), .int .u64 (b : Int), .agg #[.int .i64 x0, .int .i64 x1, .int .i64 y0, .int .i64 y1]] w fun e w' => e = .returned (.bool true) ∧ Below w.heap.size w w' := by
  have HW := Lib.hid wakes_any
  obtain ⟨ph, pl, hp1, hp2, hp⟩ := parts (a * b) (mul_lt h1 h2)
  have HM := Lib.hid (fun w => Mul_any a b ph pl w h1 h2 hp1 hp2 hp)
  obtain ⟨s1, hs1⟩ : ∃ q, cmpM (ph * 18446744073709551616 + pl) (0 * 18446744073709551616 + a) = q := ⟨_, rfl⟩
  obtain ⟨s2, hs2⟩ : ∃ q, cmpM (ph * 18446744073709551616 + pl) (0 * 18446744073709551616 + b) = q := ⟨_, rfl⟩
  have H1 := Lib.hid (fun w => Cmp_is ph pl 0 a w hp1 hp2 (by omega) h1 hs1)
  have H2 := Lib.hid (fun w => Cmp_is ph pl 0 b w hp1 hp2 (by omega) h2 hs2)
  have hz1 : 0 < b → ¬ s1 < 0 := fun hb => at_least hs1 (by rw [← hp, Nat.zero_mul, Nat.zero_add]; exact Nat.le_mul_of_pos_right _ hb)
  have hz2 : 0 < a → ¬ s2 < 0 := fun ha => at_least hs2 (by rw [← hp, Nat.zero_mul, Nat.zero_add]; exact Nat.le_mul_of_pos_left _ ha)
  replace hz1 := hz1 (by omega)
  replace hz2 := hz2 (by omega)
  skip
  skip
  have HKEY := Lib.hid (show x1 ≤ x0 ∨ (x0 < x1 ∧ y1 < y0) ∨ (x0 < x1 ∧ y0 ≤ y1) from key_ways x0 x1 y0 y1)
  obtain ⟨xm, hxm⟩ : ∃ m, m = x1 - 1 := ⟨_, rfl⟩
  have HX : Hid (x0 < x1 → y0 ≤ y1 → IntKind.i64.wrap (x1 - 1) = xm ∧ -9223372036854775808 ≤ xm ∧ xm ≤ 9223372036854775807 ∧ widM x0 x1 = widM x0 xm + 1) := (show _ → _ → _ from fun hx hy => by
    refine ⟨by rw [IntKind.wrap_i64]; omega, by omega, by omega, ?_⟩
    unfold widM
    rw [if_neg (by omega), if_neg (by omega)]
    omega)
  clear hp hp1 hp2 hs1 hs2 hxm
  have HDM : Most a false := ⟨by simp; omega⟩
  clear ha2
  go_enter Try.func9, Try.ntmps9
  go_upto_region 1 with fail
  have RK_0 := Lib.hid (row_last w (w.heap.size) 33 [.int .i64 x0, .int .i64 x1, .int .i64 y0, .int .i64 y1] (by simp))
  have B_0 := Lib.hid ((Below.refl w.heap.size w).alloc (Nat.le_refl _) (.cells #[.int .i64 x0, .int .i64 x1, .int .i64 y0, .int .i64 y1] 33))
  generalize (w.alloc (.cells #[.int .i64 x0, .int .i64 x1, .int .i64 y0, .int .i64 y1] 33)) = V0 at RK_0 B_0 ⊢
  go_wp2_with fail
  refine (HW.out _).mono ?_
  rintro e W27 ⟨rfl, hb⟩
  have RK_28 := Lib.hid (RK_0.out.below hb RK_0.out.lt)
  have B_28 := Lib.hid (B_0.out.trans (hb.mono B_0.out.size))
  clear hb RK_0 B_0
  go_wp2_with fail
  refine (HM.out _).mono ?_
  rintro e W29 ⟨rfl, hb⟩
  have RK_30 := Lib.hid (RK_28.out.below hb RK_28.out.lt)
  have B_30 := Lib.hid (B_28.out.trans (hb.mono B_28.out.size))
  clear hb RK_28 B_28
  have RK_31 := Lib.hid (RK_30.out.alloc (.cells #[.int .u64 (ph : Int), .int .u64 (pl : Int)] 25))
  have RP_31 := Lib.hid (Row.new W29 25 [.int .u64 (ph : Int), .int .u64 (pl : Int)])
  have B_31 := Lib.hid (B_30.out.alloc B_30.out.size (.cells #[.int .u64 (ph : Int), .int .u64 (pl : Int)] 25))
  go_upto_region 4 with fail
  obtain ⟨gRP, hgRP⟩ : ∃ g, g = W29.heap.size := ⟨_, rfl⟩
  clear RK_30 B_30
  rw [← hgRP] at RP_31 ⊢
  clear hgRP
  generalize W29.alloc (.cells #[.int .u64 (ph : Int), .int .u64 (pl : Int)] 25) = V31 at RK_31 RP_31 B_31 ⊢
  have c1_0 := RP_31.out.cell 0
  have c1_1 := RP_31.out.cell 1
  simp at c1_0 c1_1
  have l1 := RP_31.out.lt
  go_wp2_with fail
  refine (H1.out _).mono ?_
  rintro e W32 ⟨rfl, hb⟩
  clear c1_0 c1_1 l1
  have RK_33 := Lib.hid (RK_31.out.below hb RK_31.out.lt)
  have RP_33 := Lib.hid (RP_31.out.below hb RP_31.out.lt)
  have B_33 := Lib.hid (B_31.out.trans (hb.mono B_31.out.size))
  clear hb RK_31 RP_31 B_31
  have c1_0 := RP_33.out.cell 0
  have c1_1 := RP_33.out.cell 1
  simp at c1_0 c1_1
  have l1 := RP_33.out.lt
  go_wp2_with fail
  refine (H2.out _).mono ?_
  rintro e W34 ⟨rfl, hb⟩
  clear c1_0 c1_1 l1
  have RK_35 := Lib.hid (RK_33.out.below hb RK_33.out.lt)
  have RP_35 := Lib.hid (RP_33.out.below hb RP_33.out.lt)
  have B_35 := Lib.hid (B_33.out.trans (hb.mono B_33.out.size))
  clear hb RK_33 RP_33 B_33
  go_wp2_with fail
  refine wp_region_held_drew (S := fun w' => Below W34.heap.size W34 w') (by kernel_rfl) (Below.refl _ _).drew (fun hHeld => ?_)
  have S_36 := Lib.hid hHeld
  clear hHeld
  generalize W34.drew = D36 at S_36 ⊢
  refine wpAnyH_take (i := 0) (oi := ⟨some 34, _, _, _, _, _⟩) (v := ?vz36_1) rfl (by kernel_rfl) (by kernel_rfl) (by kernel_rfl) (fun _ _ _ h => h) (Or.inl ⟨by rfl, ?yz36_1⟩) S_36.out ?rz36_1
  case yz36_1 =>
    rintro w' hSw
    go_simp
    try with_reducible rfl
  try simp only [Act.put, List.setIfInBounds_toArray, List.set_cons_zero, List.set_cons_succ]
  refine wpAnyH_take (i := 1) (oi := ⟨some 35, _, _, _, _, _⟩) (v := .bool false) rfl (by kernel_rfl) (by kernel_rfl) (by kernel_rfl) (fun _ _ _ h => h) (Or.inl ⟨by rfl, ?yz36_2⟩) S_36.out ?rz36_2
  case yz36_2 =>
    rintro w' hSw
    go_simp
    exact Int.not_lt.1 (of_decide_eq_false HDM.out)
  try simp only [Act.put, List.setIfInBounds_toArray, List.set_cons_zero, List.set_cons_succ]
  refine wpAnyH_take (i := 2) (oi := ⟨some 36, _, _, _, _, _⟩) (v := ?vz36_3) rfl (by kernel_rfl) (by kernel_rfl) (by kernel_rfl) (fun _ _ _ h => h) (Or.inl ⟨by rfl, ?yz36_3⟩) S_36.out ?rz36_3
  case yz36_3 =>
    rintro w' hSw
    go_simp
    try with_reducible rfl
  try simp only [Act.put, List.setIfInBounds_toArray, List.set_cons_zero, List.set_cons_succ]
  refine wpAnyH_take (i := 3) (oi := ⟨some 37, _, _, _, _, _⟩) (v := undef) rfl (by kernel_rfl) (by kernel_rfl) (by kernel_rfl) (fun _ _ _ h => h) (Or.inr ⟨by rfl, rfl⟩) S_36.out ?rz36_4
  try simp only [Act.put, List.setIfInBounds_toArray, List.set_cons_zero, List.set_cons_succ]
  refine wpAnyH_take (i := 4) (oi := ⟨some 38, _, _, _, _, _⟩) (v := undef) rfl (by kernel_rfl) (by kernel_rfl) (by kernel_rfl) (fun _ _ _ h => h) (Or.inr ⟨by rfl, rfl⟩) S_36.out ?rz36_5
  try simp only [Act.put, List.setIfInBounds_toArray, List.set_cons_zero, List.set_cons_succ]
  refine wpAnyH_take (i := 5) (oi := ⟨some 39, _, _, _, _, _⟩) (v := undef) rfl (by kernel_rfl) (by kernel_rfl) (by kernel_rfl) (fun _ _ _ h => h) (Or.inr ⟨by rfl, rfl⟩) S_36.out ?rz36_6
  try simp only [Act.put, List.setIfInBounds_toArray, List.set_cons_zero, List.set_cons_succ]
  refine wpAnyH_take (i := 6) (oi := ⟨some 40, _, _, _, _, _⟩) (v := undef) rfl (by kernel_rfl) (by kernel_rfl) (by kernel_rfl) (fun _ _ _ h => h) (Or.inr ⟨by rfl, rfl⟩) S_36.out ?rz36_7
  try simp only [Act.put, List.setIfInBounds_toArray, List.set_cons_zero, List.set_cons_succ]
  refine wpAnyH_take (i := 7) (oi := ⟨some 41, _, _, _, _, _⟩) (v := undef) rfl (by kernel_rfl) (by kernel_rfl) (by kernel_rfl) (fun _ _ _ h => h) (Or.inr ⟨by rfl, rfl⟩) S_36.out ?rz36_8
  try simp only [Act.put, List.setIfInBounds_toArray, List.set_cons_zero, List.set_cons_succ]
  refine wpAnyH_take (i := 8) (oi := ⟨some 42, _, _, _, _, _⟩) (v := undef) rfl (by kernel_rfl) (by kernel_rfl) (by kernel_rfl) (fun _ _ _ h => h) (Or.inr ⟨by rfl, rfl⟩) S_36.out ?rz36_9
  try simp only [Act.put, List.setIfInBounds_toArray, List.set_cons_zero, List.set_cons_succ]
  refine wpAnyH_take (i := 9) (oi := ⟨some 43, _, _, _, _, _⟩) (v := undef) rfl (by kernel_rfl) (by kernel_rfl) (by kernel_rfl) (fun _ _ _ h => h) (Or.inr ⟨by rfl, rfl⟩) S_36.out ?rz36_10
  try simp only [Act.put, List.setIfInBounds_toArray, List.set_cons_zero, List.set_cons_succ]
  refine wpAnyH_take (i := 10) (oi := ⟨some 44, _, _, _, _, _⟩) (v := ?vz36_11) rfl (by kernel_rfl) (by kernel_rfl) (by kernel_rfl) (fun _ _ _ h => h) (Or.inl ⟨by rfl, ?yz36_11⟩) S_36.out ?rz36_11
  case yz36_11 =>
    rintro w' hSw
    go_simp
    try with_reducible rfl
  try simp only [Act.put, List.setIfInBounds_toArray, List.set_cons_zero, List.set_cons_succ]
  refine wpAnyH_done (by kernel_rfl) ?_ _
  have RK_37 := Lib.hid (RK_35.out.below S_36.out RK_35.out.lt)
  have RP_37 := Lib.hid (RP_35.out.below S_36.out RP_35.out.lt)
  have B_37 := Lib.hid (B_35.out.trans (S_36.out.mono B_35.out.size))
  clear S_36 RK_35 RP_35 B_35
  clear HDM
  go_upto_region 8 with fail
  rcases HKEY.out with hk | ⟨hk, hk2⟩ | ⟨hk, hk2⟩
  · have c0_0 := RK_37.out.cell 0
    have c0_1 := RK_37.out.cell 1
    have c0_2 := RK_37.out.cell 2
    have c0_3 := RK_37.out.cell 3
    simp at c0_0 c0_1 c0_2 c0_3
    have l0 := RK_37.out.lt
    go_wp2
    go_ret
    exact ⟨rfl, B_37.out⟩
  · have c0_0 := RK_37.out.cell 0
    have c0_1 := RK_37.out.cell 1
    have c0_2 := RK_37.out.cell 2
    have c0_3 := RK_37.out.cell 3
    simp at c0_0 c0_1 c0_2 c0_3
    have l0 := RK_37.out.lt
    go_wp2
    go_ret
    exact ⟨rfl, B_37.out⟩
  · have hX := HX.out hk hk2
    obtain ⟨wxm, b3, b4, hw⟩ := hX
    obtain ⟨ih, il, hi1, hi2, hi⟩ := parts (widM x0 xm * widM y0 y1) (mul_lt (widM_lt a1 b4) (widM_lt a5 a8))
    obtain ⟨jh, jl, hj1, hj2, hj⟩ := parts (widM x0 x1 * widM y0 y1) (mul_lt (widM_lt a1 a4) (widM_lt a5 a8))
    obtain ⟨kh, kl, hk1, hk2', hkk⟩ := parts (widM x0 xm + widM y0 y1) (by have := widM_lt a1 b4; have := widM_lt a5 a8; omega)
    obtain ⟨nh, nl, hn1, hn2, hn⟩ := parts (widM x0 x1 + widM y0 y1) (by have := widM_lt a1 a4; have := widM_lt a5 a8; omega)
    have HA1 := Lib.hid (fun w => Area_any x0 xm y0 y1 ih il w a1 a2 b3 b4 a5 a6 a7 a8 hi1 hi2 hi)
    have HA2 := Lib.hid (fun w => Area_any x0 x1 y0 y1 jh jl w a1 a2 a3 a4 a5 a6 a7 a8 hj1 hj2 hj)
    have HG1 := Lib.hid (fun w => Margin_any x0 xm y0 y1 kh kl w a1 a2 b3 b4 a5 a6 a7 a8 hk1 hk2' hkk)
    have HG2 := Lib.hid (fun w => Margin_any x0 x1 y0 y1 nh nl w a1 a2 a3 a4 a5 a6 a7 a8 hn1 hn2 hn)
    obtain ⟨s5, hs5⟩ : ∃ q, cmpM (ih * 18446744073709551616 + il) (jh * 18446744073709551616 + jl) = q := ⟨_, rfl⟩
    have HA3 := Lib.hid (fun w => Cmp_is ih il jh jl w hi1 hi2 hj1 hj2 hs5)
    have hz5 : s5 ≤ 0 := at_most hs5 (by rw [← hi, ← hj, hw]; exact Nat.mul_le_mul_right _ (Nat.le_succ _))
    have hlt6 : kh * 18446744073709551616 + kl < nh * 18446744073709551616 + nl := by rw [← hkk, ← hn, hw]; omega
    have HG3 := Lib.hid (fun w => Cmp_is kh kl nh nl w hk1 hk2' hn1 hn2 (cmp_l hlt6))
    clear hi hj hkk hn hi1 hi2 hj1 hj2 hk1 hk2' hn1 hn2 hs5 hlt6 hw b3 b4
    have c0_0 := RK_37.out.cell 0
    have c0_1 := RK_37.out.cell 1
    have c0_2 := RK_37.out.cell 2
    have c0_3 := RK_37.out.cell 3
    simp at c0_0 c0_1 c0_2 c0_3
    have l0 := RK_37.out.lt
    have RK_38 := Lib.hid (RK_37.out.alloc (.cells #[.int .i64 x0, .int .i64 xm, .int .i64 y0, .int .i64 y1] 33))
    have RP_38 := Lib.hid (RP_37.out.alloc (.cells #[.int .i64 x0, .int .i64 xm, .int .i64 y0, .int .i64 y1] 33))
    have RL_38 := Lib.hid (Row.new D36 33 [.int .i64 x0, .int .i64 xm, .int .i64 y0, .int .i64 y1])
    have B_38 := Lib.hid (B_37.out.alloc B_37.out.size (.cells #[.int .i64 x0, .int .i64 xm, .int .i64 y0, .int .i64 y1] 33))
    go_upto_region 12 with fail
    obtain ⟨gRL, hgRL⟩ : ∃ g, g = D36.heap.size := ⟨_, rfl⟩
    clear RK_37 RP_37 B_37
    rw [← hgRL] at RL_38 ⊢
    clear hgRL
    generalize D36.alloc (.cells #[.int .i64 x0, .int .i64 xm, .int .i64 y0, .int .i64 y1] 33) = V38 at RK_38 RP_38 RL_38 B_38 ⊢
    clear c0_0 c0_1 c0_2 c0_3 l0
    refine wp_region_held_drew (S := fun w' => Below V38.heap.size V38 w') (by kernel_rfl) (Below.refl _ _).drew (fun hHeld => ?_)
    have S_39 := Lib.hid hHeld
    clear hHeld
    generalize V38.drew = D39 at S_39 ⊢
    refine wpAnyH_take (i := 0) (oi := ⟨some 62, _, _, _, _, _⟩) (v := ?vz39_1) rfl (by kernel_rfl) (by kernel_rfl) (by kernel_rfl) (fun _ _ _ h => h) (Or.inl ⟨by rfl, ?yz39_1⟩) S_39.out ?rz39_1
    case yz39_1 =>
      rintro w' hSw
      have k0 := (RL_38.out.below hSw RL_38.out.lt).cell 0
      have k1 := (RL_38.out.below hSw RL_38.out.lt).cell 1
      have k2 := (RL_38.out.below hSw RL_38.out.lt).cell 2
      have k3 := (RL_38.out.below hSw RL_38.out.lt).cell 3
      simp at k0 k1 k2 k3
      go_simp
      try with_reducible rfl
    try simp only [Act.put, List.setIfInBounds_toArray, List.set_cons_zero, List.set_cons_succ]
    refine wpAnyH_take (i := 2) (oi := ⟨some 64, _, _, _, _, _⟩) (v := ?vz39_2) rfl (by kernel_rfl) (by kernel_rfl) (by kernel_rfl) (fun _ _ _ h => h) (Or.inl ⟨by rfl, ?yz39_2⟩) S_39.out ?rz39_2
    case yz39_2 =>
      rintro w' hSw
      have k0 := (RK_38.out.below hSw RK_38.out.lt).cell 0
      have k1 := (RK_38.out.below hSw RK_38.out.lt).cell 1
      have k2 := (RK_38.out.below hSw RK_38.out.lt).cell 2
      have k3 := (RK_38.out.below hSw RK_38.out.lt).cell 3
      simp at k0 k1 k2 k3
      go_simp
      try with_reducible rfl
    try simp only [Act.put, List.setIfInBounds_toArray, List.set_cons_zero, List.set_cons_succ]
    refine wpAnyH_ready (rs := [1]) (by kernel_rfl) (by simp) ?_
    refine (AllReadyH.cons rfl (fun K hK => ?_) AllReadyH.nil)
    go_simp
    refine (HA1.out _).mono ?_
    rintro e Xz39_3 ⟨rfl, hb⟩
    have Sz39_3 := Lib.hid (S_39.out.trans (hb.mono S_39.out.size))
    clear hb S_39
    refine hK _ _ Sz39_3.out (fun _ => ?_)
    clear hK K
    try simp only [Act.put, List.setIfInBounds_toArray, List.set_cons_zero, List.set_cons_succ]
    refine wpAnyH_ready (rs := [3]) (by kernel_rfl) (by simp) ?_
    refine (AllReadyH.cons rfl (fun K hK => ?_) AllReadyH.nil)
    go_simp
    refine (HA2.out _).mono ?_
    rintro e Xz39_4 ⟨rfl, hb⟩
    have Sz39_4 := Lib.hid (Sz39_3.out.trans (hb.mono Sz39_3.out.size))
    clear hb Sz39_3
    refine hK _ _ Sz39_4.out (fun _ => ?_)
    clear hK K
    try simp only [Act.put, List.setIfInBounds_toArray, List.set_cons_zero, List.set_cons_succ]
    refine wpAnyH_ready (rs := [4]) (by kernel_rfl) (by simp) ?_
    refine (AllReadyH.cons rfl (fun K hK => ?_) AllReadyH.nil)
    go_simp
    refine (HA3.out _).mono ?_
    rintro e Xz39_5 ⟨rfl, hb⟩
    have Sz39_5 := Lib.hid (Sz39_4.out.trans (hb.mono Sz39_4.out.size))
    clear hb Sz39_4
    refine hK _ _ Sz39_5.out (fun _ => ?_)
    clear hK K
    try simp only [Act.put, List.setIfInBounds_toArray, List.set_cons_zero, List.set_cons_succ]
    refine wpAnyH_take (i := 5) (oi := ⟨some 67, _, _, _, _, _⟩) (v := ?vz39_6) rfl (by kernel_rfl) (by kernel_rfl) (by kernel_rfl) (fun _ _ _ h => h) (Or.inl ⟨by rfl, ?yz39_6⟩) Sz39_5.out ?rz39_6
    case yz39_6 =>
      rintro w' hSw
      go_simp
      try with_reducible rfl
    try simp only [Act.put, List.setIfInBounds_toArray, List.set_cons_zero, List.set_cons_succ]
    refine wpAnyH_take (i := 6) (oi := ⟨some 68, _, _, _, _, _⟩) (v := ?vz39_7) rfl (by kernel_rfl) (by kernel_rfl) (by kernel_rfl) (fun _ _ _ h => h) (Or.inl ⟨by rfl, ?yz39_7⟩) Sz39_5.out ?rz39_7
    case yz39_7 =>
      rintro w' hSw
      go_simp
      try with_reducible rfl
    try simp only [Act.put, List.setIfInBounds_toArray, List.set_cons_zero, List.set_cons_succ]
    refine wpAnyH_take (i := 7) (oi := ⟨some 69, _, _, _, _, _⟩) (v := ?vz39_8) rfl (by kernel_rfl) (by kernel_rfl) (by kernel_rfl) (fun _ _ _ h => h) (Or.inl ⟨by rfl, ?yz39_8⟩) Sz39_5.out ?rz39_8
    case yz39_8 =>
      rintro w' hSw
      have k0 := (RL_38.out.below hSw RL_38.out.lt).cell 0
      have k1 := (RL_38.out.below hSw RL_38.out.lt).cell 1
      have k2 := (RL_38.out.below hSw RL_38.out.lt).cell 2
      have k3 := (RL_38.out.below hSw RL_38.out.lt).cell 3
      simp at k0 k1 k2 k3
      go_simp
      try with_reducible rfl
    try simp only [Act.put, List.setIfInBounds_toArray, List.set_cons_zero, List.set_cons_succ]
    refine wpAnyH_take (i := 9) (oi := ⟨some 71, _, _, _, _, _⟩) (v := ?vz39_9) rfl (by kernel_rfl) (by kernel_rfl) (by kernel_rfl) (fun _ _ _ h => h) (Or.inl ⟨by rfl, ?yz39_9⟩) Sz39_5.out ?rz39_9
    case yz39_9 =>
      rintro w' hSw
      have k0 := (RK_38.out.below hSw RK_38.out.lt).cell 0
      have k1 := (RK_38.out.below hSw RK_38.out.lt).cell 1
      have k2 := (RK_38.out.below hSw RK_38.out.lt).cell 2
      have k3 := (RK_38.out.below hSw RK_38.out.lt).cell 3
      simp at k0 k1 k2 k3
      go_simp
      try with_reducible rfl
    try simp only [Act.put, List.setIfInBounds_toArray, List.set_cons_zero, List.set_cons_succ]
    refine wpAnyH_ready (rs := [8]) (by kernel_rfl) (by simp) ?_
    refine (AllReadyH.cons rfl (fun K hK => ?_) AllReadyH.nil)
    go_simp
    refine (HG1.out _).mono ?_
    rintro e Xz39_10 ⟨rfl, hb⟩
    have Sz39_10 := Lib.hid (Sz39_5.out.trans (hb.mono Sz39_5.out.size))
    clear hb Sz39_5
    refine hK _ _ Sz39_10.out (fun _ => ?_)
    clear hK K
    try simp only [Act.put, List.setIfInBounds_toArray, List.set_cons_zero, List.set_cons_succ]
    refine wpAnyH_ready (rs := [10]) (by kernel_rfl) (by simp) ?_
    refine (AllReadyH.cons rfl (fun K hK => ?_) AllReadyH.nil)
    go_simp
    refine (HG2.out _).mono ?_
    rintro e Xz39_11 ⟨rfl, hb⟩
    have Sz39_11 := Lib.hid (Sz39_10.out.trans (hb.mono Sz39_10.out.size))
    clear hb Sz39_10
    refine hK _ _ Sz39_11.out (fun _ => ?_)
    clear hK K
    try simp only [Act.put, List.setIfInBounds_toArray, List.set_cons_zero, List.set_cons_succ]
    refine wpAnyH_ready (rs := [11]) (by kernel_rfl) (by simp) ?_
    refine (AllReadyH.cons rfl (fun K hK => ?_) AllReadyH.nil)
    go_simp
    refine (HG3.out _).mono ?_
    rintro e Xz39_12 ⟨rfl, hb⟩
    have Sz39_12 := Lib.hid (Sz39_11.out.trans (hb.mono Sz39_11.out.size))
    clear hb Sz39_11
    refine hK _ _ Sz39_12.out (fun _ => ?_)
    clear hK K
    try simp only [Act.put, List.setIfInBounds_toArray, List.set_cons_zero, List.set_cons_succ]
    refine wpAnyH_take (i := 12) (oi := ⟨some 74, _, _, _, _, _⟩) (v := ?vz39_13) rfl (by kernel_rfl) (by kernel_rfl) (by kernel_rfl) (fun _ _ _ h => h) (Or.inl ⟨by rfl, ?yz39_13⟩) Sz39_12.out ?rz39_13
    case yz39_13 =>
      rintro w' hSw
      go_simp
      try with_reducible rfl
    try simp only [Act.put, List.setIfInBounds_toArray, List.set_cons_zero, List.set_cons_succ]
    refine wpAnyH_take (i := 13) (oi := ⟨some 75, _, _, _, _, _⟩) (v := ?vz39_14) rfl (by kernel_rfl) (by kernel_rfl) (by kernel_rfl) (fun _ _ _ h => h) (Or.inl ⟨by rfl, ?yz39_14⟩) Sz39_12.out ?rz39_14
    case yz39_14 =>
      rintro w' hSw
      go_simp
      try with_reducible rfl
    try simp only [Act.put, List.setIfInBounds_toArray, List.set_cons_zero, List.set_cons_succ]
    refine wpAnyH_take (i := 14) (oi := ⟨some 6, _, _, _, _, _⟩) (v := ?vz39_15) rfl (by kernel_rfl) (by kernel_rfl) (by kernel_rfl) (fun _ _ _ h => h) (Or.inl ⟨by rfl, ?yz39_15⟩) Sz39_12.out ?rz39_15
    case yz39_15 =>
      rintro w' hSw
      go_simp
      try with_reducible rfl
    try simp only [Act.put, List.setIfInBounds_toArray, List.set_cons_zero, List.set_cons_succ]
    refine wpAnyH_done (by kernel_rfl) ?_ _
    have RK_40 := Lib.hid (RK_38.out.below Sz39_12.out RK_38.out.lt)
    have RP_40 := Lib.hid (RP_38.out.below Sz39_12.out RP_38.out.lt)
    have RL_40 := Lib.hid (RL_38.out.below Sz39_12.out RL_38.out.lt)
    have B_40 := Lib.hid (B_38.out.trans (Sz39_12.out.mono B_38.out.size))
    clear Sz39_12 RK_38 RP_38 RL_38 B_38
    go_wp2
    go_ret
    exact ⟨rfl, B_40.out⟩

set_option maxHeartbeats 8000000 in
theorem walk_10 (a b : Nat) (x0 x1 y0 y1 : Int) (w : World) (h1 : a < 18446744073709551616) (h2 : b < 18446744073709551616) (a1 : -9223372036854775808 ≤ x0) (a2 : x0 ≤ 9223372036854775807) (a3 : -9223372036854775808 ≤ x1) (a4 : x1 ≤ 9223372036854775807) (a5 : -9223372036854775808 ≤ y0) (a6 : y0 ≤ 9223372036854775807) (a7 : -9223372036854775808 ≤ y1) (a8 : y1 ≤ 9223372036854775807)
    (ha : (a : Int) ≤ 0) (ha2 : (a : Int) < 18446744073709551615) (hb : (b : Int) ≤ 0) :
    Calls Try.prog 9 #[.int .u64 (a : Int), .int .u64 (b : Int), .agg #[.int .i64 x0, .int .i64 x1, .int .i64 y0, .int .i64 y1]] w fun e w' => e = .returned (.bool true) ∧ Below w.heap.size w w' := by
  have HW := Lib.hid wakes_any
  obtain ⟨ph, pl, hp1, hp2, hp⟩ := parts (a * b) (mul_lt h1 h2)
  have HM := Lib.hid (fun w => Mul_any a b ph pl w h1 h2 hp1 hp2 hp)
  obtain ⟨s1, hs1⟩ : ∃ q, cmpM (ph * 18446744073709551616 + pl) (0 * 18446744073709551616 + a) = q := ⟨_, rfl⟩
  obtain ⟨s2, hs2⟩ : ∃ q, cmpM (ph * 18446744073709551616 + pl) (0 * 18446744073709551616 + b) = q := ⟨_, rfl⟩
  have H1 := Lib.hid (fun w => Cmp_is ph pl 0 a w hp1 hp2 (by omega) h1 hs1)
  have H2 := Lib.hid (fun w => Cmp_is ph pl 0 b w hp1 hp2 (by omega) h2 hs2)
  have hz1 : 0 < b → ¬ s1 < 0 := fun hb => at_least hs1 (by rw [← hp, Nat.zero_mul, Nat.zero_add]; exact Nat.le_mul_of_pos_right _ hb)
  have hz2 : 0 < a → ¬ s2 < 0 := fun ha => at_least hs2 (by rw [← hp, Nat.zero_mul, Nat.zero_add]; exact Nat.le_mul_of_pos_left _ ha)
  skip
  skip
  clear hz1
  clear hz2
  obtain ⟨m, hm⟩ : ∃ m, m = a + 1 := ⟨_, rfl⟩
  have wm : IntKind.u64.wrap ((a : Int) + 1) = (m : Int) := by rw [IntKind.wrap_u64]; omega
  obtain ⟨rh, rl, hr1, hr2, hr⟩ := parts (m * b) (mul_lt (by omega) h2)
  have H3 := Lib.hid (fun w => Mul_any m b rh rl w (by omega) h2 hr1 hr2 hr)
  obtain ⟨s3, hs3⟩ : ∃ q, cmpM (rh * 18446744073709551616 + rl) (ph * 18446744073709551616 + pl) = q := ⟨_, rfl⟩
  have H4 := Lib.hid (fun w => Cmp_is rh rl ph pl w hr1 hr2 hp1 hp2 hs3)
  have hz3 : ¬ s3 < 0 := at_least hs3 (by rw [← hp, ← hr, hm]; exact Nat.mul_le_mul_right _ (Nat.le_succ a))
  clear hm hr hr1 hr2 hs3
  have HKEY := Lib.hid (show x1 ≤ x0 ∨ (x0 < x1 ∧ y1 < y0) ∨ (x0 < x1 ∧ y0 ≤ y1) from key_ways x0 x1 y0 y1)
  obtain ⟨xm, hxm⟩ : ∃ m, m = x1 - 1 := ⟨_, rfl⟩
  have HX : Hid (x0 < x1 → y0 ≤ y1 → IntKind.i64.wrap (x1 - 1) = xm ∧ -9223372036854775808 ≤ xm ∧ xm ≤ 9223372036854775807 ∧ widM x0 x1 = widM x0 xm + 1) := (show _ → _ → _ from fun hx hy => by
    refine ⟨by rw [IntKind.wrap_i64]; omega, by omega, by omega, ?_⟩
    unfold widM
    rw [if_neg (by omega), if_neg (by omega)]
    omega)
  clear hp hp1 hp2 hs1 hs2 hxm
  have HDM : Most a true := ⟨by simp; omega⟩
  clear ha2
  go_enter Try.func9, Try.ntmps9
  go_upto_region 1 with fail
  have RK_0 := Lib.hid (row_last w (w.heap.size) 33 [.int .i64 x0, .int .i64 x1, .int .i64 y0, .int .i64 y1] (by simp))
  have B_0 := Lib.hid ((Below.refl w.heap.size w).alloc (Nat.le_refl _) (.cells #[.int .i64 x0, .int .i64 x1, .int .i64 y0, .int .i64 y1] 33))
  generalize (w.alloc (.cells #[.int .i64 x0, .int .i64 x1, .int .i64 y0, .int .i64 y1] 33)) = V0 at RK_0 B_0 ⊢
  go_wp2_with fail
  refine (HW.out _).mono ?_
  rintro e W41 ⟨rfl, hb⟩
  have RK_42 := Lib.hid (RK_0.out.below hb RK_0.out.lt)
  have B_42 := Lib.hid (B_0.out.trans (hb.mono B_0.out.size))
  clear hb RK_0 B_0
  go_wp2_with fail
  refine (HM.out _).mono ?_
  rintro e W43 ⟨rfl, hb⟩
  have RK_44 := Lib.hid (RK_42.out.below hb RK_42.out.lt)
  have B_44 := Lib.hid (B_42.out.trans (hb.mono B_42.out.size))
  clear hb RK_42 B_42
  have RK_45 := Lib.hid (RK_44.out.alloc (.cells #[.int .u64 (ph : Int), .int .u64 (pl : Int)] 25))
  have RP_45 := Lib.hid (Row.new W43 25 [.int .u64 (ph : Int), .int .u64 (pl : Int)])
  have B_45 := Lib.hid (B_44.out.alloc B_44.out.size (.cells #[.int .u64 (ph : Int), .int .u64 (pl : Int)] 25))
  go_upto_region 4 with fail
  obtain ⟨gRP, hgRP⟩ : ∃ g, g = W43.heap.size := ⟨_, rfl⟩
  clear RK_44 B_44
  rw [← hgRP] at RP_45 ⊢
  clear hgRP
  generalize W43.alloc (.cells #[.int .u64 (ph : Int), .int .u64 (pl : Int)] 25) = V45 at RK_45 RP_45 B_45 ⊢
  go_wp2_with fail
  refine wp_region_held_drew (S := fun w' => Below V45.heap.size V45 w') (by kernel_rfl) (Below.refl _ _).drew (fun hHeld => ?_)
  have S_46 := Lib.hid hHeld
  clear hHeld
  generalize V45.drew = D46 at S_46 ⊢
  refine wpAnyH_take (i := 0) (oi := ⟨some 34, _, _, _, _, _⟩) (v := ?vz46_1) rfl (by kernel_rfl) (by kernel_rfl) (by kernel_rfl) (fun _ _ _ h => h) (Or.inl ⟨by rfl, ?yz46_1⟩) S_46.out ?rz46_1
  case yz46_1 =>
    rintro w' hSw
    go_simp
    try with_reducible rfl
  try simp only [Act.put, List.setIfInBounds_toArray, List.set_cons_zero, List.set_cons_succ]
  refine wpAnyH_take (i := 1) (oi := ⟨some 35, _, _, _, _, _⟩) (v := .bool true) rfl (by kernel_rfl) (by kernel_rfl) (by kernel_rfl) (fun _ _ _ h => h) (Or.inl ⟨by rfl, ?yz46_2⟩) S_46.out ?rz46_2
  case yz46_2 =>
    rintro w' hSw
    go_simp
    exact of_decide_eq_true HDM.out
  try simp only [Act.put, List.setIfInBounds_toArray, List.set_cons_zero, List.set_cons_succ]
  refine wpAnyH_take (i := 2) (oi := ⟨some 36, _, _, _, _, _⟩) (v := ?vz46_3) rfl (by kernel_rfl) (by kernel_rfl) (by kernel_rfl) (fun _ _ _ h => h) (Or.inl ⟨by rfl, ?yz46_3⟩) S_46.out ?rz46_3
  case yz46_3 =>
    rintro w' hSw
    go_simp
    try with_reducible rfl
  try simp only [Act.put, List.setIfInBounds_toArray, List.set_cons_zero, List.set_cons_succ]
  refine wpAnyH_take (i := 3) (oi := ⟨some 37, _, _, _, _, _⟩) (v := ?vz46_4) rfl (by kernel_rfl) (by kernel_rfl) (by kernel_rfl) (fun _ _ _ h => h) (Or.inl ⟨by rfl, ?yz46_4⟩) S_46.out ?rz46_4
  case yz46_4 =>
    rintro w' hSw
    go_simp
    try with_reducible rfl
  try simp only [Act.put, List.setIfInBounds_toArray, List.set_cons_zero, List.set_cons_succ]
  refine wpAnyH_take (i := 4) (oi := ⟨some 38, _, _, _, _, _⟩) (v := ?vz46_5) rfl (by kernel_rfl) (by kernel_rfl) (by kernel_rfl) (fun _ _ _ h => h) (Or.inl ⟨by rfl, ?yz46_5⟩) S_46.out ?rz46_5
  case yz46_5 =>
    rintro w' hSw
    go_simp
    try with_reducible rfl
  try simp only [Act.put, List.setIfInBounds_toArray, List.set_cons_zero, List.set_cons_succ]
  refine wpAnyH_take (i := 5) (oi := ⟨some 39, _, _, _, _, _⟩) (v := ?vz46_6) rfl (by kernel_rfl) (by kernel_rfl) (by kernel_rfl) (fun _ _ _ h => h) (Or.inl ⟨by rfl, ?yz46_6⟩) S_46.out ?rz46_6
  case yz46_6 =>
    rintro w' hSw
    go_simp
    try with_reducible rfl
  try simp only [Act.put, List.setIfInBounds_toArray, List.set_cons_zero, List.set_cons_succ]
  refine wpAnyH_take (i := 7) (oi := ⟨some 41, _, _, _, _, _⟩) (v := ?vz46_7) rfl (by kernel_rfl) (by kernel_rfl) (by kernel_rfl) (fun _ _ _ h => h) (Or.inl ⟨by rfl, ?yz46_7⟩) S_46.out ?rz46_7
  case yz46_7 =>
    rintro w' hSw
    have k0 := (RP_45.out.below hSw RP_45.out.lt).cell 0
    have k1 := (RP_45.out.below hSw RP_45.out.lt).cell 1
    simp at k0 k1
    go_simp
    try with_reducible rfl
  try simp only [Act.put, List.setIfInBounds_toArray, List.set_cons_zero, List.set_cons_succ]
  refine wpAnyH_ready (rs := [6]) (by kernel_rfl) (by simp) ?_
  refine (AllReadyH.cons rfl (fun K hK => ?_) AllReadyH.nil)
  go_simp
  refine (H3.out _).mono ?_
  rintro e Xz46_8 ⟨rfl, hb⟩
  have Sz46_8 := Lib.hid (S_46.out.trans (hb.mono S_46.out.size))
  clear hb S_46
  refine hK _ _ Sz46_8.out (fun _ => ?_)
  clear hK K
  try simp only [Act.put, List.setIfInBounds_toArray, List.set_cons_zero, List.set_cons_succ]
  refine wpAnyH_ready (rs := [8]) (by kernel_rfl) (by simp) ?_
  refine (AllReadyH.cons rfl (fun K hK => ?_) AllReadyH.nil)
  go_simp
  refine (H4.out _).mono ?_
  rintro e Xz46_9 ⟨rfl, hb⟩
  have Sz46_9 := Lib.hid (Sz46_8.out.trans (hb.mono Sz46_8.out.size))
  clear hb Sz46_8
  refine hK _ _ Sz46_9.out (fun _ => ?_)
  clear hK K
  try simp only [Act.put, List.setIfInBounds_toArray, List.set_cons_zero, List.set_cons_succ]
  refine wpAnyH_take (i := 9) (oi := ⟨some 43, _, _, _, _, _⟩) (v := ?vz46_10) rfl (by kernel_rfl) (by kernel_rfl) (by kernel_rfl) (fun _ _ _ h => h) (Or.inl ⟨by rfl, ?yz46_10⟩) Sz46_9.out ?rz46_10
  case yz46_10 =>
    rintro w' hSw
    go_simp
    try with_reducible rfl
  try simp only [Act.put, List.setIfInBounds_toArray, List.set_cons_zero, List.set_cons_succ]
  refine wpAnyH_take (i := 10) (oi := ⟨some 44, _, _, _, _, _⟩) (v := ?vz46_11) rfl (by kernel_rfl) (by kernel_rfl) (by kernel_rfl) (fun _ _ _ h => h) (Or.inl ⟨by rfl, ?yz46_11⟩) Sz46_9.out ?rz46_11
  case yz46_11 =>
    rintro w' hSw
    go_simp
    try with_reducible rfl
  try simp only [Act.put, List.setIfInBounds_toArray, List.set_cons_zero, List.set_cons_succ]
  refine wpAnyH_done (by kernel_rfl) ?_ _
  have RK_47 := Lib.hid (RK_45.out.below Sz46_9.out RK_45.out.lt)
  have RP_47 := Lib.hid (RP_45.out.below Sz46_9.out RP_45.out.lt)
  have B_47 := Lib.hid (B_45.out.trans (Sz46_9.out.mono B_45.out.size))
  clear Sz46_9 RK_45 RP_45 B_45
  clear HDM
  go_upto_region 8 with fail
  rcases HKEY.out with hk | ⟨hk, hk2⟩ | ⟨hk, hk2⟩
  · have c0_0 := RK_47.out.cell 0
    have c0_1 := RK_47.out.cell 1
    have c0_2 := RK_47.out.cell 2
    have c0_3 := RK_47.out.cell 3
    simp at c0_0 c0_1 c0_2 c0_3
    have l0 := RK_47.out.lt
    go_wp2
    go_ret
    exact ⟨rfl, B_47.out⟩
  · have c0_0 := RK_47.out.cell 0
    have c0_1 := RK_47.out.cell 1
    have c0_2 := RK_47.out.cell 2
    have c0_3 := RK_47.out.cell 3
    simp at c0_0 c0_1 c0_2 c0_3
    have l0 := RK_47.out.lt
    go_wp2
    go_ret
    exact ⟨rfl, B_47.out⟩
  · have hX := HX.out hk hk2
    obtain ⟨wxm, b3, b4, hw⟩ := hX
    obtain ⟨ih, il, hi1, hi2, hi⟩ := parts (widM x0 xm * widM y0 y1) (mul_lt (widM_lt a1 b4) (widM_lt a5 a8))
    obtain ⟨jh, jl, hj1, hj2, hj⟩ := parts (widM x0 x1 * widM y0 y1) (mul_lt (widM_lt a1 a4) (widM_lt a5 a8))
    obtain ⟨kh, kl, hk1, hk2', hkk⟩ := parts (widM x0 xm + widM y0 y1) (by have := widM_lt a1 b4; have := widM_lt a5 a8; omega)
    obtain ⟨nh, nl, hn1, hn2, hn⟩ := parts (widM x0 x1 + widM y0 y1) (by have := widM_lt a1 a4; have := widM_lt a5 a8; omega)
    have HA1 := Lib.hid (fun w => Area_any x0 xm y0 y1 ih il w a1 a2 b3 b4 a5 a6 a7 a8 hi1 hi2 hi)
    have HA2 := Lib.hid (fun w => Area_any x0 x1 y0 y1 jh jl w a1 a2 a3 a4 a5 a6 a7 a8 hj1 hj2 hj)
    have HG1 := Lib.hid (fun w => Margin_any x0 xm y0 y1 kh kl w a1 a2 b3 b4 a5 a6 a7 a8 hk1 hk2' hkk)
    have HG2 := Lib.hid (fun w => Margin_any x0 x1 y0 y1 nh nl w a1 a2 a3 a4 a5 a6 a7 a8 hn1 hn2 hn)
    obtain ⟨s5, hs5⟩ : ∃ q, cmpM (ih * 18446744073709551616 + il) (jh * 18446744073709551616 + jl) = q := ⟨_, rfl⟩
    have HA3 := Lib.hid (fun w => Cmp_is ih il jh jl w hi1 hi2 hj1 hj2 hs5)
    have hz5 : s5 ≤ 0 := at_most hs5 (by rw [← hi, ← hj, hw]; exact Nat.mul_le_mul_right _ (Nat.le_succ _))
    have hlt6 : kh * 18446744073709551616 + kl < nh * 18446744073709551616 + nl := by rw [← hkk, ← hn, hw]; omega
    have HG3 := Lib.hid (fun w => Cmp_is kh kl nh nl w hk1 hk2' hn1 hn2 (cmp_l hlt6))
    clear hi hj hkk hn hi1 hi2 hj1 hj2 hk1 hk2' hn1 hn2 hs5 hlt6 hw b3 b4
    have c0_0 := RK_47.out.cell 0
    have c0_1 := RK_47.out.cell 1
    have c0_2 := RK_47.out.cell 2
    have c0_3 := RK_47.out.cell 3
    simp at c0_0 c0_1 c0_2 c0_3
    have l0 := RK_47.out.lt
    have RK_48 := Lib.hid (RK_47.out.alloc (.cells #[.int .i64 x0, .int .i64 xm, .int .i64 y0, .int .i64 y1] 33))
    have RP_48 := Lib.hid (RP_47.out.alloc (.cells #[.int .i64 x0, .int .i64 xm, .int .i64 y0, .int .i64 y1] 33))
    have RL_48 := Lib.hid (Row.new Xz46_9 33 [.int .i64 x0, .int .i64 xm, .int .i64 y0, .int .i64 y1])
    have B_48 := Lib.hid (B_47.out.alloc B_47.out.size (.cells #[.int .i64 x0, .int .i64 xm, .int .i64 y0, .int .i64 y1] 33))
    go_upto_region 12 with fail
    obtain ⟨gRL, hgRL⟩ : ∃ g, g = Xz46_9.heap.size := ⟨_, rfl⟩
    clear RK_47 RP_47 B_47
    rw [← hgRL] at RL_48 ⊢
    clear hgRL
    generalize Xz46_9.alloc (.cells #[.int .i64 x0, .int .i64 xm, .int .i64 y0, .int .i64 y1] 33) = V48 at RK_48 RP_48 RL_48 B_48 ⊢
    clear c0_0 c0_1 c0_2 c0_3 l0
    refine wp_region_held_drew (S := fun w' => Below V48.heap.size V48 w') (by kernel_rfl) (Below.refl _ _).drew (fun hHeld => ?_)
    have S_49 := Lib.hid hHeld
    clear hHeld
    generalize V48.drew = D49 at S_49 ⊢
    refine wpAnyH_take (i := 0) (oi := ⟨some 62, _, _, _, _, _⟩) (v := ?vz49_1) rfl (by kernel_rfl) (by kernel_rfl) (by kernel_rfl) (fun _ _ _ h => h) (Or.inl ⟨by rfl, ?yz49_1⟩) S_49.out ?rz49_1
    case yz49_1 =>
      rintro w' hSw
      have k0 := (RL_48.out.below hSw RL_48.out.lt).cell 0
      have k1 := (RL_48.out.below hSw RL_48.out.lt).cell 1
      have k2 := (RL_48.out.below hSw RL_48.out.lt).cell 2
      have k3 := (RL_48.out.below hSw RL_48.out.lt).cell 3
      simp at k0 k1 k2 k3
      go_simp
      try with_reducible rfl
    try simp only [Act.put, List.setIfInBounds_toArray, List.set_cons_zero, List.set_cons_succ]
    refine wpAnyH_take (i := 2) (oi := ⟨some 64, _, _, _, _, _⟩) (v := ?vz49_2) rfl (by kernel_rfl) (by kernel_rfl) (by kernel_rfl) (fun _ _ _ h => h) (Or.inl ⟨by rfl, ?yz49_2⟩) S_49.out ?rz49_2
    case yz49_2 =>
      rintro w' hSw
      have k0 := (RK_48.out.below hSw RK_48.out.lt).cell 0
      have k1 := (RK_48.out.below hSw RK_48.out.lt).cell 1
      have k2 := (RK_48.out.below hSw RK_48.out.lt).cell 2
      have k3 := (RK_48.out.below hSw RK_48.out.lt).cell 3
      simp at k0 k1 k2 k3
      go_simp
      try with_reducible rfl
    try simp only [Act.put, List.setIfInBounds_toArray, List.set_cons_zero, List.set_cons_succ]
    refine wpAnyH_ready (rs := [1]) (by kernel_rfl) (by simp) ?_
    refine (AllReadyH.cons rfl (fun K hK => ?_) AllReadyH.nil)
    go_simp
    refine (HA1.out _).mono ?_
    rintro e Xz49_3 ⟨rfl, hb⟩
    have Sz49_3 := Lib.hid (S_49.out.trans (hb.mono S_49.out.size))
    clear hb S_49
    refine hK _ _ Sz49_3.out (fun _ => ?_)
    clear hK K
    try simp only [Act.put, List.setIfInBounds_toArray, List.set_cons_zero, List.set_cons_succ]
    refine wpAnyH_ready (rs := [3]) (by kernel_rfl) (by simp) ?_
    refine (AllReadyH.cons rfl (fun K hK => ?_) AllReadyH.nil)
    go_simp
    refine (HA2.out _).mono ?_
    rintro e Xz49_4 ⟨rfl, hb⟩
    have Sz49_4 := Lib.hid (Sz49_3.out.trans (hb.mono Sz49_3.out.size))
    clear hb Sz49_3
    refine hK _ _ Sz49_4.out (fun _ => ?_)
    clear hK K
    try simp only [Act.put, List.setIfInBounds_toArray, List.set_cons_zero, List.set_cons_succ]
    refine wpAnyH_ready (rs := [4]) (by kernel_rfl) (by simp) ?_
    refine (AllReadyH.cons rfl (fun K hK => ?_) AllReadyH.nil)
    go_simp
    refine (HA3.out _).mono ?_
    rintro e Xz49_5 ⟨rfl, hb⟩
    have Sz49_5 := Lib.hid (Sz49_4.out.trans (hb.mono Sz49_4.out.size))
    clear hb Sz49_4
    refine hK _ _ Sz49_5.out (fun _ => ?_)
    clear hK K
    try simp only [Act.put, List.setIfInBounds_toArray, List.set_cons_zero, List.set_cons_succ]
    refine wpAnyH_take (i := 5) (oi := ⟨some 67, _, _, _, _, _⟩) (v := ?vz49_6) rfl (by kernel_rfl) (by kernel_rfl) (by kernel_rfl) (fun _ _ _ h => h) (Or.inl ⟨by rfl, ?yz49_6⟩) Sz49_5.out ?rz49_6
    case yz49_6 =>
      rintro w' hSw
      go_simp
      try with_reducible rfl
    try simp only [Act.put, List.setIfInBounds_toArray, List.set_cons_zero, List.set_cons_succ]
    refine wpAnyH_take (i := 6) (oi := ⟨some 68, _, _, _, _, _⟩) (v := ?vz49_7) rfl (by kernel_rfl) (by kernel_rfl) (by kernel_rfl) (fun _ _ _ h => h) (Or.inl ⟨by rfl, ?yz49_7⟩) Sz49_5.out ?rz49_7
    case yz49_7 =>
      rintro w' hSw
      go_simp
      try with_reducible rfl
    try simp only [Act.put, List.setIfInBounds_toArray, List.set_cons_zero, List.set_cons_succ]
    refine wpAnyH_take (i := 7) (oi := ⟨some 69, _, _, _, _, _⟩) (v := ?vz49_8) rfl (by kernel_rfl) (by kernel_rfl) (by kernel_rfl) (fun _ _ _ h => h) (Or.inl ⟨by rfl, ?yz49_8⟩) Sz49_5.out ?rz49_8
    case yz49_8 =>
      rintro w' hSw
      have k0 := (RL_48.out.below hSw RL_48.out.lt).cell 0
      have k1 := (RL_48.out.below hSw RL_48.out.lt).cell 1
      have k2 := (RL_48.out.below hSw RL_48.out.lt).cell 2
      have k3 := (RL_48.out.below hSw RL_48.out.lt).cell 3
      simp at k0 k1 k2 k3
      go_simp
      try with_reducible rfl
    try simp only [Act.put, List.setIfInBounds_toArray, List.set_cons_zero, List.set_cons_succ]
    refine wpAnyH_take (i := 9) (oi := ⟨some 71, _, _, _, _, _⟩) (v := ?vz49_9) rfl (by kernel_rfl) (by kernel_rfl) (by kernel_rfl) (fun _ _ _ h => h) (Or.inl ⟨by rfl, ?yz49_9⟩) Sz49_5.out ?rz49_9
    case yz49_9 =>
      rintro w' hSw
      have k0 := (RK_48.out.below hSw RK_48.out.lt).cell 0
      have k1 := (RK_48.out.below hSw RK_48.out.lt).cell 1
      have k2 := (RK_48.out.below hSw RK_48.out.lt).cell 2
      have k3 := (RK_48.out.below hSw RK_48.out.lt).cell 3
      simp at k0 k1 k2 k3
      go_simp
      try with_reducible rfl
    try simp only [Act.put, List.setIfInBounds_toArray, List.set_cons_zero, List.set_cons_succ]
    refine wpAnyH_ready (rs := [8]) (by kernel_rfl) (by simp) ?_
    refine (AllReadyH.cons rfl (fun K hK => ?_) AllReadyH.nil)
    go_simp
    refine (HG1.out _).mono ?_
    rintro e Xz49_10 ⟨rfl, hb⟩
    have Sz49_10 := Lib.hid (Sz49_5.out.trans (hb.mono Sz49_5.out.size))
    clear hb Sz49_5
    refine hK _ _ Sz49_10.out (fun _ => ?_)
    clear hK K
    try simp only [Act.put, List.setIfInBounds_toArray, List.set_cons_zero, List.set_cons_succ]
    refine wpAnyH_ready (rs := [10]) (by kernel_rfl) (by simp) ?_
    refine (AllReadyH.cons rfl (fun K hK => ?_) AllReadyH.nil)
    go_simp
    refine (HG2.out _).mono ?_
    rintro e Xz49_11 ⟨rfl, hb⟩
    have Sz49_11 := Lib.hid (Sz49_10.out.trans (hb.mono Sz49_10.out.size))
    clear hb Sz49_10
    refine hK _ _ Sz49_11.out (fun _ => ?_)
    clear hK K
    try simp only [Act.put, List.setIfInBounds_toArray, List.set_cons_zero, List.set_cons_succ]
    refine wpAnyH_ready (rs := [11]) (by kernel_rfl) (by simp) ?_
    refine (AllReadyH.cons rfl (fun K hK => ?_) AllReadyH.nil)
    go_simp
    refine (HG3.out _).mono ?_
    rintro e Xz49_12 ⟨rfl, hb⟩
    have Sz49_12 := Lib.hid (Sz49_11.out.trans (hb.mono Sz49_11.out.size))
    clear hb Sz49_11
    refine hK _ _ Sz49_12.out (fun _ => ?_)
    clear hK K
    try simp only [Act.put, List.setIfInBounds_toArray, List.set_cons_zero, List.set_cons_succ]
    refine wpAnyH_take (i := 12) (oi := ⟨some 74, _, _, _, _, _⟩) (v := ?vz49_13) rfl (by kernel_rfl) (by kernel_rfl) (by kernel_rfl) (fun _ _ _ h => h) (Or.inl ⟨by rfl, ?yz49_13⟩) Sz49_12.out ?rz49_13
    case yz49_13 =>
      rintro w' hSw
      go_simp
      try with_reducible rfl
    try simp only [Act.put, List.setIfInBounds_toArray, List.set_cons_zero, List.set_cons_succ]
    refine wpAnyH_take (i := 13) (oi := ⟨some 75, _, _, _, _, _⟩) (v := ?vz49_14) rfl (by kernel_rfl) (by kernel_rfl) (by kernel_rfl) (fun _ _ _ h => h) (Or.inl ⟨by rfl, ?yz49_14⟩) Sz49_12.out ?rz49_14
    case yz49_14 =>
      rintro w' hSw
      go_simp
      try with_reducible rfl
    try simp only [Act.put, List.setIfInBounds_toArray, List.set_cons_zero, List.set_cons_succ]
    refine wpAnyH_take (i := 14) (oi := ⟨some 6, _, _, _, _, _⟩) (v := ?vz49_15) rfl (by kernel_rfl) (by kernel_rfl) (by kernel_rfl) (fun _ _ _ h => h) (Or.inl ⟨by rfl, ?yz49_15⟩) Sz49_12.out ?rz49_15
    case yz49_15 =>
      rintro w' hSw
      go_simp
      try with_reducible rfl
    try simp only [Act.put, List.setIfInBounds_toArray, List.set_cons_zero, List.set_cons_succ]
    refine wpAnyH_done (by kernel_rfl) ?_ _
    have RK_50 := Lib.hid (RK_48.out.below Sz49_12.out RK_48.out.lt)
    have RP_50 := Lib.hid (RP_48.out.below Sz49_12.out RP_48.out.lt)
    have RL_50 := Lib.hid (RL_48.out.below Sz49_12.out RL_48.out.lt)
    have B_50 := Lib.hid (B_48.out.trans (Sz49_12.out.mono B_48.out.size))
    clear Sz49_12 RK_48 RP_48 RL_48 B_48
    go_wp2
    go_ret
    exact ⟨rfl, B_50.out⟩

set_option maxHeartbeats 8000000 in
theorem walk_11 (a b : Nat) (x0 x1 y0 y1 : Int) (w : World) (h1 : a < 18446744073709551616) (h2 : b < 18446744073709551616) (a1 : -9223372036854775808 ≤ x0) (a2 : x0 ≤ 9223372036854775807) (a3 : -9223372036854775808 ≤ x1) (a4 : x1 ≤ 9223372036854775807) (a5 : -9223372036854775808 ≤ y0) (a6 : y0 ≤ 9223372036854775807) (a7 : -9223372036854775808 ≤ y1) (a8 : y1 ≤ 9223372036854775807)
    (ha : 0 < (a : Int)) (ha2 : (a : Int) < 18446744073709551615) (hb : (b : Int) ≤ 0) :
    Calls Try.prog 9 #[.int .u64 (a : Int), .int .u64 (b : Int), .agg #[.int .i64 x0, .int .i64 x1, .int .i64 y0, .int .i64 y1]] w fun e w' => e = .returned (.bool true) ∧ Below w.heap.size w w' := by
  have HW := Lib.hid wakes_any
  obtain ⟨ph, pl, hp1, hp2, hp⟩ := parts (a * b) (mul_lt h1 h2)
  have HM := Lib.hid (fun w => Mul_any a b ph pl w h1 h2 hp1 hp2 hp)
  obtain ⟨s1, hs1⟩ : ∃ q, cmpM (ph * 18446744073709551616 + pl) (0 * 18446744073709551616 + a) = q := ⟨_, rfl⟩
  obtain ⟨s2, hs2⟩ : ∃ q, cmpM (ph * 18446744073709551616 + pl) (0 * 18446744073709551616 + b) = q := ⟨_, rfl⟩
  have H1 := Lib.hid (fun w => Cmp_is ph pl 0 a w hp1 hp2 (by omega) h1 hs1)
  have H2 := Lib.hid (fun w => Cmp_is ph pl 0 b w hp1 hp2 (by omega) h2 hs2)
  have hz1 : 0 < b → ¬ s1 < 0 := fun hb => at_least hs1 (by rw [← hp, Nat.zero_mul, Nat.zero_add]; exact Nat.le_mul_of_pos_right _ hb)
  have hz2 : 0 < a → ¬ s2 < 0 := fun ha => at_least hs2 (by rw [← hp, Nat.zero_mul, Nat.zero_add]; exact Nat.le_mul_of_pos_left _ ha)
  skip
  replace hz2 := hz2 (by omega)
  clear hz1
  skip
  obtain ⟨m, hm⟩ : ∃ m, m = a + 1 := ⟨_, rfl⟩
  have wm : IntKind.u64.wrap ((a : Int) + 1) = (m : Int) := by rw [IntKind.wrap_u64]; omega
  obtain ⟨rh, rl, hr1, hr2, hr⟩ := parts (m * b) (mul_lt (by omega) h2)
  have H3 := Lib.hid (fun w => Mul_any m b rh rl w (by omega) h2 hr1 hr2 hr)
  obtain ⟨s3, hs3⟩ : ∃ q, cmpM (rh * 18446744073709551616 + rl) (ph * 18446744073709551616 + pl) = q := ⟨_, rfl⟩
  have H4 := Lib.hid (fun w => Cmp_is rh rl ph pl w hr1 hr2 hp1 hp2 hs3)
  have hz3 : ¬ s3 < 0 := at_least hs3 (by rw [← hp, ← hr, hm]; exact Nat.mul_le_mul_right _ (Nat.le_succ a))
  clear hm hr hr1 hr2 hs3
  have HKEY := Lib.hid (show x1 ≤ x0 ∨ (x0 < x1 ∧ y1 < y0) ∨ (x0 < x1 ∧ y0 ≤ y1) from key_ways x0 x1 y0 y1)
  obtain ⟨xm, hxm⟩ : ∃ m, m = x1 - 1 := ⟨_, rfl⟩
  have HX : Hid (x0 < x1 → y0 ≤ y1 → IntKind.i64.wrap (x1 - 1) = xm ∧ -9223372036854775808 ≤ xm ∧ xm ≤ 9223372036854775807 ∧ widM x0 x1 = widM x0 xm + 1) := (show _ → _ → _ from fun hx hy => by
    refine ⟨by rw [IntKind.wrap_i64]; omega, by omega, by omega, ?_⟩
    unfold widM
    rw [if_neg (by omega), if_neg (by omega)]
    omega)
  clear hp hp1 hp2 hs1 hs2 hxm
  have HDM : Most a true := ⟨by simp; omega⟩
  clear ha2
  go_enter Try.func9, Try.ntmps9
  go_upto_region 1 with fail
  have RK_0 := Lib.hid (row_last w (w.heap.size) 33 [.int .i64 x0, .int .i64 x1, .int .i64 y0, .int .i64 y1] (by simp))
  have B_0 := Lib.hid ((Below.refl w.heap.size w).alloc (Nat.le_refl _) (.cells #[.int .i64 x0, .int .i64 x1, .int .i64 y0, .int .i64 y1] 33))
  generalize (w.alloc (.cells #[.int .i64 x0, .int .i64 x1, .int .i64 y0, .int .i64 y1] 33)) = V0 at RK_0 B_0 ⊢
  go_wp2_with fail
  refine (HW.out _).mono ?_
  rintro e W51 ⟨rfl, hb⟩
  have RK_52 := Lib.hid (RK_0.out.below hb RK_0.out.lt)
  have B_52 := Lib.hid (B_0.out.trans (hb.mono B_0.out.size))
  clear hb RK_0 B_0
  go_wp2_with fail
  refine (HM.out _).mono ?_
  rintro e W53 ⟨rfl, hb⟩
  have RK_54 := Lib.hid (RK_52.out.below hb RK_52.out.lt)
  have B_54 := Lib.hid (B_52.out.trans (hb.mono B_52.out.size))
  clear hb RK_52 B_52
  have RK_55 := Lib.hid (RK_54.out.alloc (.cells #[.int .u64 (ph : Int), .int .u64 (pl : Int)] 25))
  have RP_55 := Lib.hid (Row.new W53 25 [.int .u64 (ph : Int), .int .u64 (pl : Int)])
  have B_55 := Lib.hid (B_54.out.alloc B_54.out.size (.cells #[.int .u64 (ph : Int), .int .u64 (pl : Int)] 25))
  go_upto_region 4 with fail
  obtain ⟨gRP, hgRP⟩ : ∃ g, g = W53.heap.size := ⟨_, rfl⟩
  clear RK_54 B_54
  rw [← hgRP] at RP_55 ⊢
  clear hgRP
  generalize W53.alloc (.cells #[.int .u64 (ph : Int), .int .u64 (pl : Int)] 25) = V55 at RK_55 RP_55 B_55 ⊢
  have c1_0 := RP_55.out.cell 0
  have c1_1 := RP_55.out.cell 1
  simp at c1_0 c1_1
  have l1 := RP_55.out.lt
  go_wp2_with fail
  refine (H2.out _).mono ?_
  rintro e W56 ⟨rfl, hb⟩
  clear c1_0 c1_1 l1
  have RK_57 := Lib.hid (RK_55.out.below hb RK_55.out.lt)
  have RP_57 := Lib.hid (RP_55.out.below hb RP_55.out.lt)
  have B_57 := Lib.hid (B_55.out.trans (hb.mono B_55.out.size))
  clear hb RK_55 RP_55 B_55
  go_wp2_with fail
  refine wp_region_held_drew (S := fun w' => Below W56.heap.size W56 w') (by kernel_rfl) (Below.refl _ _).drew (fun hHeld => ?_)
  have S_58 := Lib.hid hHeld
  clear hHeld
  generalize W56.drew = D58 at S_58 ⊢
  refine wpAnyH_take (i := 0) (oi := ⟨some 34, _, _, _, _, _⟩) (v := ?vz58_1) rfl (by kernel_rfl) (by kernel_rfl) (by kernel_rfl) (fun _ _ _ h => h) (Or.inl ⟨by rfl, ?yz58_1⟩) S_58.out ?rz58_1
  case yz58_1 =>
    rintro w' hSw
    go_simp
    try with_reducible rfl
  try simp only [Act.put, List.setIfInBounds_toArray, List.set_cons_zero, List.set_cons_succ]
  refine wpAnyH_take (i := 1) (oi := ⟨some 35, _, _, _, _, _⟩) (v := .bool true) rfl (by kernel_rfl) (by kernel_rfl) (by kernel_rfl) (fun _ _ _ h => h) (Or.inl ⟨by rfl, ?yz58_2⟩) S_58.out ?rz58_2
  case yz58_2 =>
    rintro w' hSw
    go_simp
    exact of_decide_eq_true HDM.out
  try simp only [Act.put, List.setIfInBounds_toArray, List.set_cons_zero, List.set_cons_succ]
  refine wpAnyH_take (i := 2) (oi := ⟨some 36, _, _, _, _, _⟩) (v := ?vz58_3) rfl (by kernel_rfl) (by kernel_rfl) (by kernel_rfl) (fun _ _ _ h => h) (Or.inl ⟨by rfl, ?yz58_3⟩) S_58.out ?rz58_3
  case yz58_3 =>
    rintro w' hSw
    go_simp
    try with_reducible rfl
  try simp only [Act.put, List.setIfInBounds_toArray, List.set_cons_zero, List.set_cons_succ]
  refine wpAnyH_take (i := 3) (oi := ⟨some 37, _, _, _, _, _⟩) (v := ?vz58_4) rfl (by kernel_rfl) (by kernel_rfl) (by kernel_rfl) (fun _ _ _ h => h) (Or.inl ⟨by rfl, ?yz58_4⟩) S_58.out ?rz58_4
  case yz58_4 =>
    rintro w' hSw
    go_simp
    try with_reducible rfl
  try simp only [Act.put, List.setIfInBounds_toArray, List.set_cons_zero, List.set_cons_succ]
  refine wpAnyH_take (i := 4) (oi := ⟨some 38, _, _, _, _, _⟩) (v := ?vz58_5) rfl (by kernel_rfl) (by kernel_rfl) (by kernel_rfl) (fun _ _ _ h => h) (Or.inl ⟨by rfl, ?yz58_5⟩) S_58.out ?rz58_5
  case yz58_5 =>
    rintro w' hSw
    go_simp
    try with_reducible rfl
  try simp only [Act.put, List.setIfInBounds_toArray, List.set_cons_zero, List.set_cons_succ]
  refine wpAnyH_take (i := 5) (oi := ⟨some 39, _, _, _, _, _⟩) (v := ?vz58_6) rfl (by kernel_rfl) (by kernel_rfl) (by kernel_rfl) (fun _ _ _ h => h) (Or.inl ⟨by rfl, ?yz58_6⟩) S_58.out ?rz58_6
  case yz58_6 =>
    rintro w' hSw
    go_simp
    try with_reducible rfl
  try simp only [Act.put, List.setIfInBounds_toArray, List.set_cons_zero, List.set_cons_succ]
  refine wpAnyH_take (i := 7) (oi := ⟨some 41, _, _, _, _, _⟩) (v := ?vz58_7) rfl (by kernel_rfl) (by kernel_rfl) (by kernel_rfl) (fun _ _ _ h => h) (Or.inl ⟨by rfl, ?yz58_7⟩) S_58.out ?rz58_7
  case yz58_7 =>
    rintro w' hSw
    have k0 := (RP_57.out.below hSw RP_57.out.lt).cell 0
    have k1 := (RP_57.out.below hSw RP_57.out.lt).cell 1
    simp at k0 k1
    go_simp
    try with_reducible rfl
  try simp only [Act.put, List.setIfInBounds_toArray, List.set_cons_zero, List.set_cons_succ]
  refine wpAnyH_ready (rs := [6]) (by kernel_rfl) (by simp) ?_
  refine (AllReadyH.cons rfl (fun K hK => ?_) AllReadyH.nil)
  go_simp
  refine (H3.out _).mono ?_
  rintro e Xz58_8 ⟨rfl, hb⟩
  have Sz58_8 := Lib.hid (S_58.out.trans (hb.mono S_58.out.size))
  clear hb S_58
  refine hK _ _ Sz58_8.out (fun _ => ?_)
  clear hK K
  try simp only [Act.put, List.setIfInBounds_toArray, List.set_cons_zero, List.set_cons_succ]
  refine wpAnyH_ready (rs := [8]) (by kernel_rfl) (by simp) ?_
  refine (AllReadyH.cons rfl (fun K hK => ?_) AllReadyH.nil)
  go_simp
  refine (H4.out _).mono ?_
  rintro e Xz58_9 ⟨rfl, hb⟩
  have Sz58_9 := Lib.hid (Sz58_8.out.trans (hb.mono Sz58_8.out.size))
  clear hb Sz58_8
  refine hK _ _ Sz58_9.out (fun _ => ?_)
  clear hK K
  try simp only [Act.put, List.setIfInBounds_toArray, List.set_cons_zero, List.set_cons_succ]
  refine wpAnyH_take (i := 9) (oi := ⟨some 43, _, _, _, _, _⟩) (v := ?vz58_10) rfl (by kernel_rfl) (by kernel_rfl) (by kernel_rfl) (fun _ _ _ h => h) (Or.inl ⟨by rfl, ?yz58_10⟩) Sz58_9.out ?rz58_10
  case yz58_10 =>
    rintro w' hSw
    go_simp
    try with_reducible rfl
  try simp only [Act.put, List.setIfInBounds_toArray, List.set_cons_zero, List.set_cons_succ]
  refine wpAnyH_take (i := 10) (oi := ⟨some 44, _, _, _, _, _⟩) (v := ?vz58_11) rfl (by kernel_rfl) (by kernel_rfl) (by kernel_rfl) (fun _ _ _ h => h) (Or.inl ⟨by rfl, ?yz58_11⟩) Sz58_9.out ?rz58_11
  case yz58_11 =>
    rintro w' hSw
    go_simp
    try with_reducible rfl
  try simp only [Act.put, List.setIfInBounds_toArray, List.set_cons_zero, List.set_cons_succ]
  refine wpAnyH_done (by kernel_rfl) ?_ _
  have RK_59 := Lib.hid (RK_57.out.below Sz58_9.out RK_57.out.lt)
  have RP_59 := Lib.hid (RP_57.out.below Sz58_9.out RP_57.out.lt)
  have B_59 := Lib.hid (B_57.out.trans (Sz58_9.out.mono B_57.out.size))
  clear Sz58_9 RK_57 RP_57 B_57
  clear HDM
  go_upto_region 8 with fail
  rcases HKEY.out with hk | ⟨hk, hk2⟩ | ⟨hk, hk2⟩
  · have c0_0 := RK_59.out.cell 0
    have c0_1 := RK_59.out.cell 1
    have c0_2 := RK_59.out.cell 2
    have c0_3 := RK_59.out.cell 3
    simp at c0_0 c0_1 c0_2 c0_3
    have l0 := RK_59.out.lt
    go_wp2
    go_ret
    exact ⟨rfl, B_59.out⟩
  · have c0_0 := RK_59.out.cell 0
    have c0_1 := RK_59.out.cell 1
    have c0_2 := RK_59.out.cell 2
    have c0_3 := RK_59.out.cell 3
    simp at c0_0 c0_1 c0_2 c0_3
    have l0 := RK_59.out.lt
    go_wp2
    go_ret
    exact ⟨rfl, B_59.out⟩
  · have hX := HX.out hk hk2
    obtain ⟨wxm, b3, b4, hw⟩ := hX
    obtain ⟨ih, il, hi1, hi2, hi⟩ := parts (widM x0 xm * widM y0 y1) (mul_lt (widM_lt a1 b4) (widM_lt a5 a8))
    obtain ⟨jh, jl, hj1, hj2, hj⟩ := parts (widM x0 x1 * widM y0 y1) (mul_lt (widM_lt a1 a4) (widM_lt a5 a8))
    obtain ⟨kh, kl, hk1, hk2', hkk⟩ := parts (widM x0 xm + widM y0 y1) (by have := widM_lt a1 b4; have := widM_lt a5 a8; omega)
    obtain ⟨nh, nl, hn1, hn2, hn⟩ := parts (widM x0 x1 + widM y0 y1) (by have := widM_lt a1 a4; have := widM_lt a5 a8; omega)
    have HA1 := Lib.hid (fun w => Area_any x0 xm y0 y1 ih il w a1 a2 b3 b4 a5 a6 a7 a8 hi1 hi2 hi)
    have HA2 := Lib.hid (fun w => Area_any x0 x1 y0 y1 jh jl w a1 a2 a3 a4 a5 a6 a7 a8 hj1 hj2 hj)
    have HG1 := Lib.hid (fun w => Margin_any x0 xm y0 y1 kh kl w a1 a2 b3 b4 a5 a6 a7 a8 hk1 hk2' hkk)
    have HG2 := Lib.hid (fun w => Margin_any x0 x1 y0 y1 nh nl w a1 a2 a3 a4 a5 a6 a7 a8 hn1 hn2 hn)
    obtain ⟨s5, hs5⟩ : ∃ q, cmpM (ih * 18446744073709551616 + il) (jh * 18446744073709551616 + jl) = q := ⟨_, rfl⟩
    have HA3 := Lib.hid (fun w => Cmp_is ih il jh jl w hi1 hi2 hj1 hj2 hs5)
    have hz5 : s5 ≤ 0 := at_most hs5 (by rw [← hi, ← hj, hw]; exact Nat.mul_le_mul_right _ (Nat.le_succ _))
    have hlt6 : kh * 18446744073709551616 + kl < nh * 18446744073709551616 + nl := by rw [← hkk, ← hn, hw]; omega
    have HG3 := Lib.hid (fun w => Cmp_is kh kl nh nl w hk1 hk2' hn1 hn2 (cmp_l hlt6))
    clear hi hj hkk hn hi1 hi2 hj1 hj2 hk1 hk2' hn1 hn2 hs5 hlt6 hw b3 b4
    have c0_0 := RK_59.out.cell 0
    have c0_1 := RK_59.out.cell 1
    have c0_2 := RK_59.out.cell 2
    have c0_3 := RK_59.out.cell 3
    simp at c0_0 c0_1 c0_2 c0_3
    have l0 := RK_59.out.lt
    have RK_60 := Lib.hid (RK_59.out.alloc (.cells #[.int .i64 x0, .int .i64 xm, .int .i64 y0, .int .i64 y1] 33))
    have RP_60 := Lib.hid (RP_59.out.alloc (.cells #[.int .i64 x0, .int .i64 xm, .int .i64 y0, .int .i64 y1] 33))
    have RL_60 := Lib.hid (Row.new Xz58_9 33 [.int .i64 x0, .int .i64 xm, .int .i64 y0, .int .i64 y1])
    have B_60 := Lib.hid (B_59.out.alloc B_59.out.size (.cells #[.int .i64 x0, .int .i64 xm, .int .i64 y0, .int .i64 y1] 33))
    go_upto_region 12 with fail
    obtain ⟨gRL, hgRL⟩ : ∃ g, g = Xz58_9.heap.size := ⟨_, rfl⟩
    clear RK_59 RP_59 B_59
    rw [← hgRL] at RL_60 ⊢
    clear hgRL
    generalize Xz58_9.alloc (.cells #[.int .i64 x0, .int .i64 xm, .int .i64 y0, .int .i64 y1] 33) = V60 at RK_60 RP_60 RL_60 B_60 ⊢
    clear c0_0 c0_1 c0_2 c0_3 l0
    refine wp_region_held_drew (S := fun w' => Below V60.heap.size V60 w') (by kernel_rfl) (Below.refl _ _).drew (fun hHeld => ?_)
    have S_61 := Lib.hid hHeld
    clear hHeld
    generalize V60.drew = D61 at S_61 ⊢
    refine wpAnyH_take (i := 0) (oi := ⟨some 62, _, _, _, _, _⟩) (v := ?vz61_1) rfl (by kernel_rfl) (by kernel_rfl) (by kernel_rfl) (fun _ _ _ h => h) (Or.inl ⟨by rfl, ?yz61_1⟩) S_61.out ?rz61_1
    case yz61_1 =>
      rintro w' hSw
      have k0 := (RL_60.out.below hSw RL_60.out.lt).cell 0
      have k1 := (RL_60.out.below hSw RL_60.out.lt).cell 1
      have k2 := (RL_60.out.below hSw RL_60.out.lt).cell 2
      have k3 := (RL_60.out.below hSw RL_60.out.lt).cell 3
      simp at k0 k1 k2 k3
      go_simp
      try with_reducible rfl
    try simp only [Act.put, List.setIfInBounds_toArray, List.set_cons_zero, List.set_cons_succ]
    refine wpAnyH_take (i := 2) (oi := ⟨some 64, _, _, _, _, _⟩) (v := ?vz61_2) rfl (by kernel_rfl) (by kernel_rfl) (by kernel_rfl) (fun _ _ _ h => h) (Or.inl ⟨by rfl, ?yz61_2⟩) S_61.out ?rz61_2
    case yz61_2 =>
      rintro w' hSw
      have k0 := (RK_60.out.below hSw RK_60.out.lt).cell 0
      have k1 := (RK_60.out.below hSw RK_60.out.lt).cell 1
      have k2 := (RK_60.out.below hSw RK_60.out.lt).cell 2
      have k3 := (RK_60.out.below hSw RK_60.out.lt).cell 3
      simp at k0 k1 k2 k3
      go_simp
      try with_reducible rfl
    try simp only [Act.put, List.setIfInBounds_toArray, List.set_cons_zero, List.set_cons_succ]
    refine wpAnyH_ready (rs := [1]) (by kernel_rfl) (by simp) ?_
    refine (AllReadyH.cons rfl (fun K hK => ?_) AllReadyH.nil)
    go_simp
    refine (HA1.out _).mono ?_
    rintro e Xz61_3 ⟨rfl, hb⟩
    have Sz61_3 := Lib.hid (S_61.out.trans (hb.mono S_61.out.size))
    clear hb S_61
    refine hK _ _ Sz61_3.out (fun _ => ?_)
    clear hK K
    try simp only [Act.put, List.setIfInBounds_toArray, List.set_cons_zero, List.set_cons_succ]
    refine wpAnyH_ready (rs := [3]) (by kernel_rfl) (by simp) ?_
    refine (AllReadyH.cons rfl (fun K hK => ?_) AllReadyH.nil)
    go_simp
    refine (HA2.out _).mono ?_
    rintro e Xz61_4 ⟨rfl, hb⟩
    have Sz61_4 := Lib.hid (Sz61_3.out.trans (hb.mono Sz61_3.out.size))
    clear hb Sz61_3
    refine hK _ _ Sz61_4.out (fun _ => ?_)
    clear hK K
    try simp only [Act.put, List.setIfInBounds_toArray, List.set_cons_zero, List.set_cons_succ]
    refine wpAnyH_ready (rs := [4]) (by kernel_rfl) (by simp) ?_
    refine (AllReadyH.cons rfl (fun K hK => ?_) AllReadyH.nil)
    go_simp
    refine (HA3.out _).mono ?_
    rintro e Xz61_5 ⟨rfl, hb⟩
    have Sz61_5 := Lib.hid (Sz61_4.out.trans (hb.mono Sz61_4.out.size))
    clear hb Sz61_4
    refine hK _ _ Sz61_5.out (fun _ => ?_)
    clear hK K
    try simp only [Act.put, List.setIfInBounds_toArray, List.set_cons_zero, List.set_cons_succ]
    refine wpAnyH_take (i := 5) (oi := ⟨some 67, _, _, _, _, _⟩) (v := ?vz61_6) rfl (by kernel_rfl) (by kernel_rfl) (by kernel_rfl) (fun _ _ _ h => h) (Or.inl ⟨by rfl, ?yz61_6⟩) Sz61_5.out ?rz61_6
    case yz61_6 =>
      rintro w' hSw
      go_simp
      try with_reducible rfl
    try simp only [Act.put, List.setIfInBounds_toArray, List.set_cons_zero, List.set_cons_succ]
    refine wpAnyH_take (i := 6) (oi := ⟨some 68, _, _, _, _, _⟩) (v := ?vz61_7) rfl (by kernel_rfl) (by kernel_rfl) (by kernel_rfl) (fun _ _ _ h => h) (Or.inl ⟨by rfl, ?yz61_7⟩) Sz61_5.out ?rz61_7
    case yz61_7 =>
      rintro w' hSw
      go_simp
      try with_reducible rfl
    try simp only [Act.put, List.setIfInBounds_toArray, List.set_cons_zero, List.set_cons_succ]
    refine wpAnyH_take (i := 7) (oi := ⟨some 69, _, _, _, _, _⟩) (v := ?vz61_8) rfl (by kernel_rfl) (by kernel_rfl) (by kernel_rfl) (fun _ _ _ h => h) (Or.inl ⟨by rfl, ?yz61_8⟩) Sz61_5.out ?rz61_8
    case yz61_8 =>
      rintro w' hSw
      have k0 := (RL_60.out.below hSw RL_60.out.lt).cell 0
      have k1 := (RL_60.out.below hSw RL_60.out.lt).cell 1
      have k2 := (RL_60.out.below hSw RL_60.out.lt).cell 2
      have k3 := (RL_60.out.below hSw RL_60.out.lt).cell 3
      simp at k0 k1 k2 k3
      go_simp
      try with_reducible rfl
    try simp only [Act.put, List.setIfInBounds_toArray, List.set_cons_zero, List.set_cons_succ]
    refine wpAnyH_take (i := 9) (oi := ⟨some 71, _, _, _, _, _⟩) (v := ?vz61_9) rfl (by kernel_rfl) (by kernel_rfl) (by kernel_rfl) (fun _ _ _ h => h) (Or.inl ⟨by rfl, ?yz61_9⟩) Sz61_5.out ?rz61_9
    case yz61_9 =>
      rintro w' hSw
      have k0 := (RK_60.out.below hSw RK_60.out.lt).cell 0
      have k1 := (RK_60.out.below hSw RK_60.out.lt).cell 1
      have k2 := (RK_60.out.below hSw RK_60.out.lt).cell 2
      have k3 := (RK_60.out.below hSw RK_60.out.lt).cell 3
      simp at k0 k1 k2 k3
      go_simp
      try with_reducible rfl
    try simp only [Act.put, List.setIfInBounds_toArray, List.set_cons_zero, List.set_cons_succ]
    refine wpAnyH_ready (rs := [8]) (by kernel_rfl) (by simp) ?_
    refine (AllReadyH.cons rfl (fun K hK => ?_) AllReadyH.nil)
    go_simp
    refine (HG1.out _).mono ?_
    rintro e Xz61_10 ⟨rfl, hb⟩
    have Sz61_10 := Lib.hid (Sz61_5.out.trans (hb.mono Sz61_5.out.size))
    clear hb Sz61_5
    refine hK _ _ Sz61_10.out (fun _ => ?_)
    clear hK K
    try simp only [Act.put, List.setIfInBounds_toArray, List.set_cons_zero, List.set_cons_succ]
    refine wpAnyH_ready (rs := [10]) (by kernel_rfl) (by simp) ?_
    refine (AllReadyH.cons rfl (fun K hK => ?_) AllReadyH.nil)
    go_simp
    refine (HG2.out _).mono ?_
    rintro e Xz61_11 ⟨rfl, hb⟩
    have Sz61_11 := Lib.hid (Sz61_10.out.trans (hb.mono Sz61_10.out.size))
    clear hb Sz61_10
    refine hK _ _ Sz61_11.out (fun _ => ?_)
    clear hK K
    try simp only [Act.put, List.setIfInBounds_toArray, List.set_cons_zero, List.set_cons_succ]
    refine wpAnyH_ready (rs := [11]) (by kernel_rfl) (by simp) ?_
    refine (AllReadyH.cons rfl (fun K hK => ?_) AllReadyH.nil)
    go_simp
    refine (HG3.out _).mono ?_
    rintro e Xz61_12 ⟨rfl, hb⟩
    have Sz61_12 := Lib.hid (Sz61_11.out.trans (hb.mono Sz61_11.out.size))
    clear hb Sz61_11
    refine hK _ _ Sz61_12.out (fun _ => ?_)
    clear hK K
    try simp only [Act.put, List.setIfInBounds_toArray, List.set_cons_zero, List.set_cons_succ]
    refine wpAnyH_take (i := 12) (oi := ⟨some 74, _, _, _, _, _⟩) (v := ?vz61_13) rfl (by kernel_rfl) (by kernel_rfl) (by kernel_rfl) (fun _ _ _ h => h) (Or.inl ⟨by rfl, ?yz61_13⟩) Sz61_12.out ?rz61_13
    case yz61_13 =>
      rintro w' hSw
      go_simp
      try with_reducible rfl
    try simp only [Act.put, List.setIfInBounds_toArray, List.set_cons_zero, List.set_cons_succ]
    refine wpAnyH_take (i := 13) (oi := ⟨some 75, _, _, _, _, _⟩) (v := ?vz61_14) rfl (by kernel_rfl) (by kernel_rfl) (by kernel_rfl) (fun _ _ _ h => h) (Or.inl ⟨by rfl, ?yz61_14⟩) Sz61_12.out ?rz61_14
    case yz61_14 =>
      rintro w' hSw
      go_simp
      try with_reducible rfl
    try simp only [Act.put, List.setIfInBounds_toArray, List.set_cons_zero, List.set_cons_succ]
    refine wpAnyH_take (i := 14) (oi := ⟨some 6, _, _, _, _, _⟩) (v := ?vz61_15) rfl (by kernel_rfl) (by kernel_rfl) (by kernel_rfl) (fun _ _ _ h => h) (Or.inl ⟨by rfl, ?yz61_15⟩) Sz61_12.out ?rz61_15
    case yz61_15 =>
      rintro w' hSw
      go_simp
      try with_reducible rfl
    try simp only [Act.put, List.setIfInBounds_toArray, List.set_cons_zero, List.set_cons_succ]
    refine wpAnyH_done (by kernel_rfl) ?_ _
    have RK_62 := Lib.hid (RK_60.out.below Sz61_12.out RK_60.out.lt)
    have RP_62 := Lib.hid (RP_60.out.below Sz61_12.out RP_60.out.lt)
    have RL_62 := Lib.hid (RL_60.out.below Sz61_12.out RL_60.out.lt)
    have B_62 := Lib.hid (B_60.out.trans (Sz61_12.out.mono B_60.out.size))
    clear Sz61_12 RK_60 RP_60 RL_60 B_60
    go_wp2
    go_ret
    exact ⟨rfl, B_62.out⟩

set_option maxHeartbeats 8000000 in
theorem walk_12 (a b : Nat) (x0 x1 y0 y1 : Int) (w : World) (h1 : a < 18446744073709551616) (h2 : b < 18446744073709551616) (a1 : -9223372036854775808 ≤ x0) (a2 : x0 ≤ 9223372036854775807) (a3 : -9223372036854775808 ≤ x1) (a4 : x1 ≤ 9223372036854775807) (a5 : -9223372036854775808 ≤ y0) (a6 : y0 ≤ 9223372036854775807) (a7 : -9223372036854775808 ≤ y1) (a8 : y1 ≤ 9223372036854775807)
    (ha : 0 < (a : Int)) (ha2 : ¬ (a : Int) < 18446744073709551615) (hb : (b : Int) ≤ 0) :
    Calls Try.prog 9 #[.int .u64 (a : Int), .int .u64 (b : Int), .agg #[.int .i64 x0, .int .i64 x1, .int .i64 y0, .int .i64 y1]] w fun e w' => e = .returned (.bool true) ∧ Below w.heap.size w w' := by
  have HW := Lib.hid wakes_any
  obtain ⟨ph, pl, hp1, hp2, hp⟩ := parts (a * b) (mul_lt h1 h2)
  have HM := Lib.hid (fun w => Mul_any a b ph pl w h1 h2 hp1 hp2 hp)
  obtain ⟨s1, hs1⟩ : ∃ q, cmpM (ph * 18446744073709551616 + pl) (0 * 18446744073709551616 + a) = q := ⟨_, rfl⟩
  obtain ⟨s2, hs2⟩ : ∃ q, cmpM (ph * 18446744073709551616 + pl) (0 * 18446744073709551616 + b) = q := ⟨_, rfl⟩
  have H1 := Lib.hid (fun w => Cmp_is ph pl 0 a w hp1 hp2 (by omega) h1 hs1)
  have H2 := Lib.hid (fun w => Cmp_is ph pl 0 b w hp1 hp2 (by omega) h2 hs2)
  have hz1 : 0 < b → ¬ s1 < 0 := fun hb => at_least hs1 (by rw [← hp, Nat.zero_mul, Nat.zero_add]; exact Nat.le_mul_of_pos_right _ hb)
  have hz2 : 0 < a → ¬ s2 < 0 := fun ha => at_least hs2 (by rw [← hp, Nat.zero_mul, Nat.zero_add]; exact Nat.le_mul_of_pos_left _ ha)
  skip
  replace hz2 := hz2 (by omega)
  clear hz1
  skip
  have HKEY := Lib.hid (show x1 ≤ x0 ∨ (x0 < x1 ∧ y1 < y0) ∨ (x0 < x1 ∧ y0 ≤ y1) from key_ways x0 x1 y0 y1)
  obtain ⟨xm, hxm⟩ : ∃ m, m = x1 - 1 := ⟨_, rfl⟩
  have HX : Hid (x0 < x1 → y0 ≤ y1 → IntKind.i64.wrap (x1 - 1) = xm ∧ -9223372036854775808 ≤ xm ∧ xm ≤ 9223372036854775807 ∧ widM x0 x1 = widM x0 xm + 1) := (show _ → _ → _ from fun hx hy => by
    refine ⟨by rw [IntKind.wrap_i64]; omega, by omega, by omega, ?_⟩
    unfold widM
    rw [if_neg (by omega), if_neg (by omega)]
    omega)
  clear hp hp1 hp2 hs1 hs2 hxm
  have HDM : Most a false := ⟨by simp; omega⟩
  clear ha2
  go_enter Try.func9, Try.ntmps9
  go_upto_region 1 with fail
  have RK_0 := Lib.hid (row_last w (w.heap.size) 33 [.int .i64 x0, .int .i64 x1, .int .i64 y0, .int .i64 y1] (by simp))
  have B_0 := Lib.hid ((Below.refl w.heap.size w).alloc (Nat.le_refl _) (.cells #[.int .i64 x0, .int .i64 x1, .int .i64 y0, .int .i64 y1] 33))
  generalize (w.alloc (.cells #[.int .i64 x0, .int .i64 x1, .int .i64 y0, .int .i64 y1] 33)) = V0 at RK_0 B_0 ⊢
  go_wp2_with fail
  refine (HW.out _).mono ?_
  rintro e W63 ⟨rfl, hb⟩
  have RK_64 := Lib.hid (RK_0.out.below hb RK_0.out.lt)
  have B_64 := Lib.hid (B_0.out.trans (hb.mono B_0.out.size))
  clear hb RK_0 B_0
  go_wp2_with fail
  refine (HM.out _).mono ?_
  rintro e W65 ⟨rfl, hb⟩
  have RK_66 := Lib.hid (RK_64.out.below hb RK_64.out.lt)
  have B_66 := Lib.hid (B_64.out.trans (hb.mono B_64.out.size))
  clear hb RK_64 B_64
  have RK_67 := Lib.hid (RK_66.out.alloc (.cells #[.int .u64 (ph : Int), .int .u64 (pl : Int)] 25))
  have RP_67 := Lib.hid (Row.new W65 25 [.int .u64 (ph : Int), .int .u64 (pl : Int)])
  have B_67 := Lib.hid (B_66.out.alloc B_66.out.size (.cells #[.int .u64 (ph : Int), .int .u64 (pl : Int)] 25))
  go_upto_region 4 with fail
  obtain ⟨gRP, hgRP⟩ : ∃ g, g = W65.heap.size := ⟨_, rfl⟩
  clear RK_66 B_66
  rw [← hgRP] at RP_67 ⊢
  clear hgRP
  generalize W65.alloc (.cells #[.int .u64 (ph : Int), .int .u64 (pl : Int)] 25) = V67 at RK_67 RP_67 B_67 ⊢
  have c1_0 := RP_67.out.cell 0
  have c1_1 := RP_67.out.cell 1
  simp at c1_0 c1_1
  have l1 := RP_67.out.lt
  go_wp2_with fail
  refine (H2.out _).mono ?_
  rintro e W68 ⟨rfl, hb⟩
  clear c1_0 c1_1 l1
  have RK_69 := Lib.hid (RK_67.out.below hb RK_67.out.lt)
  have RP_69 := Lib.hid (RP_67.out.below hb RP_67.out.lt)
  have B_69 := Lib.hid (B_67.out.trans (hb.mono B_67.out.size))
  clear hb RK_67 RP_67 B_67
  go_wp2_with fail
  refine wp_region_held_drew (S := fun w' => Below W68.heap.size W68 w') (by kernel_rfl) (Below.refl _ _).drew (fun hHeld => ?_)
  have S_70 := Lib.hid hHeld
  clear hHeld
  generalize W68.drew = D70 at S_70 ⊢
  refine wpAnyH_take (i := 0) (oi := ⟨some 34, _, _, _, _, _⟩) (v := ?vz70_1) rfl (by kernel_rfl) (by kernel_rfl) (by kernel_rfl) (fun _ _ _ h => h) (Or.inl ⟨by rfl, ?yz70_1⟩) S_70.out ?rz70_1
  case yz70_1 =>
    rintro w' hSw
    go_simp
    try with_reducible rfl
  try simp only [Act.put, List.setIfInBounds_toArray, List.set_cons_zero, List.set_cons_succ]
  refine wpAnyH_take (i := 1) (oi := ⟨some 35, _, _, _, _, _⟩) (v := .bool false) rfl (by kernel_rfl) (by kernel_rfl) (by kernel_rfl) (fun _ _ _ h => h) (Or.inl ⟨by rfl, ?yz70_2⟩) S_70.out ?rz70_2
  case yz70_2 =>
    rintro w' hSw
    go_simp
    exact Int.not_lt.1 (of_decide_eq_false HDM.out)
  try simp only [Act.put, List.setIfInBounds_toArray, List.set_cons_zero, List.set_cons_succ]
  refine wpAnyH_take (i := 2) (oi := ⟨some 36, _, _, _, _, _⟩) (v := ?vz70_3) rfl (by kernel_rfl) (by kernel_rfl) (by kernel_rfl) (fun _ _ _ h => h) (Or.inl ⟨by rfl, ?yz70_3⟩) S_70.out ?rz70_3
  case yz70_3 =>
    rintro w' hSw
    go_simp
    try with_reducible rfl
  try simp only [Act.put, List.setIfInBounds_toArray, List.set_cons_zero, List.set_cons_succ]
  refine wpAnyH_take (i := 3) (oi := ⟨some 37, _, _, _, _, _⟩) (v := undef) rfl (by kernel_rfl) (by kernel_rfl) (by kernel_rfl) (fun _ _ _ h => h) (Or.inr ⟨by rfl, rfl⟩) S_70.out ?rz70_4
  try simp only [Act.put, List.setIfInBounds_toArray, List.set_cons_zero, List.set_cons_succ]
  refine wpAnyH_take (i := 4) (oi := ⟨some 38, _, _, _, _, _⟩) (v := undef) rfl (by kernel_rfl) (by kernel_rfl) (by kernel_rfl) (fun _ _ _ h => h) (Or.inr ⟨by rfl, rfl⟩) S_70.out ?rz70_5
  try simp only [Act.put, List.setIfInBounds_toArray, List.set_cons_zero, List.set_cons_succ]
  refine wpAnyH_take (i := 5) (oi := ⟨some 39, _, _, _, _, _⟩) (v := undef) rfl (by kernel_rfl) (by kernel_rfl) (by kernel_rfl) (fun _ _ _ h => h) (Or.inr ⟨by rfl, rfl⟩) S_70.out ?rz70_6
  try simp only [Act.put, List.setIfInBounds_toArray, List.set_cons_zero, List.set_cons_succ]
  refine wpAnyH_take (i := 6) (oi := ⟨some 40, _, _, _, _, _⟩) (v := undef) rfl (by kernel_rfl) (by kernel_rfl) (by kernel_rfl) (fun _ _ _ h => h) (Or.inr ⟨by rfl, rfl⟩) S_70.out ?rz70_7
  try simp only [Act.put, List.setIfInBounds_toArray, List.set_cons_zero, List.set_cons_succ]
  refine wpAnyH_take (i := 7) (oi := ⟨some 41, _, _, _, _, _⟩) (v := undef) rfl (by kernel_rfl) (by kernel_rfl) (by kernel_rfl) (fun _ _ _ h => h) (Or.inr ⟨by rfl, rfl⟩) S_70.out ?rz70_8
  try simp only [Act.put, List.setIfInBounds_toArray, List.set_cons_zero, List.set_cons_succ]
  refine wpAnyH_take (i := 8) (oi := ⟨some 42, _, _, _, _, _⟩) (v := undef) rfl (by kernel_rfl) (by kernel_rfl) (by kernel_rfl) (fun _ _ _ h => h) (Or.inr ⟨by rfl, rfl⟩) S_70.out ?rz70_9
  try simp only [Act.put, List.setIfInBounds_toArray, List.set_cons_zero, List.set_cons_succ]
  refine wpAnyH_take (i := 9) (oi := ⟨some 43, _, _, _, _, _⟩) (v := undef) rfl (by kernel_rfl) (by kernel_rfl) (by kernel_rfl) (fun _ _ _ h => h) (Or.inr ⟨by rfl, rfl⟩) S_70.out ?rz70_10
  try simp only [Act.put, List.setIfInBounds_toArray, List.set_cons_zero, List.set_cons_succ]
  refine wpAnyH_take (i := 10) (oi := ⟨some 44, _, _, _, _, _⟩) (v := ?vz70_11) rfl (by kernel_rfl) (by kernel_rfl) (by kernel_rfl) (fun _ _ _ h => h) (Or.inl ⟨by rfl, ?yz70_11⟩) S_70.out ?rz70_11
  case yz70_11 =>
    rintro w' hSw
    go_simp
    try with_reducible rfl
  try simp only [Act.put, List.setIfInBounds_toArray, List.set_cons_zero, List.set_cons_succ]
  refine wpAnyH_done (by kernel_rfl) ?_ _
  have RK_71 := Lib.hid (RK_69.out.below S_70.out RK_69.out.lt)
  have RP_71 := Lib.hid (RP_69.out.below S_70.out RP_69.out.lt)
  have B_71 := Lib.hid (B_69.out.trans (S_70.out.mono B_69.out.size))
  clear S_70 RK_69 RP_69 B_69
  clear HDM
  go_upto_region 8 with fail
  rcases HKEY.out with hk | ⟨hk, hk2⟩ | ⟨hk, hk2⟩
  · have c0_0 := RK_71.out.cell 0
    have c0_1 := RK_71.out.cell 1
    have c0_2 := RK_71.out.cell 2
    have c0_3 := RK_71.out.cell 3
    simp at c0_0 c0_1 c0_2 c0_3
    have l0 := RK_71.out.lt
    go_wp2
    go_ret
    exact ⟨rfl, B_71.out⟩
  · have c0_0 := RK_71.out.cell 0
    have c0_1 := RK_71.out.cell 1
    have c0_2 := RK_71.out.cell 2
    have c0_3 := RK_71.out.cell 3
    simp at c0_0 c0_1 c0_2 c0_3
    have l0 := RK_71.out.lt
    go_wp2
    go_ret
    exact ⟨rfl, B_71.out⟩
  · have hX := HX.out hk hk2
    obtain ⟨wxm, b3, b4, hw⟩ := hX
    obtain ⟨ih, il, hi1, hi2, hi⟩ := parts (widM x0 xm * widM y0 y1) (mul_lt (widM_lt a1 b4) (widM_lt a5 a8))
    obtain ⟨jh, jl, hj1, hj2, hj⟩ := parts (widM x0 x1 * widM y0 y1) (mul_lt (widM_lt a1 a4) (widM_lt a5 a8))
    obtain ⟨kh, kl, hk1, hk2', hkk⟩ := parts (widM x0 xm + widM y0 y1) (by have := widM_lt a1 b4; have := widM_lt a5 a8; omega)
    obtain ⟨nh, nl, hn1, hn2, hn⟩ := parts (widM x0 x1 + widM y0 y1) (by have := widM_lt a1 a4; have := widM_lt a5 a8; omega)
    have HA1 := Lib.hid (fun w => Area_any x0 xm y0 y1 ih il w a1 a2 b3 b4 a5 a6 a7 a8 hi1 hi2 hi)
    have HA2 := Lib.hid (fun w => Area_any x0 x1 y0 y1 jh jl w a1 a2 a3 a4 a5 a6 a7 a8 hj1 hj2 hj)
    have HG1 := Lib.hid (fun w => Margin_any x0 xm y0 y1 kh kl w a1 a2 b3 b4 a5 a6 a7 a8 hk1 hk2' hkk)
    have HG2 := Lib.hid (fun w => Margin_any x0 x1 y0 y1 nh nl w a1 a2 a3 a4 a5 a6 a7 a8 hn1 hn2 hn)
    obtain ⟨s5, hs5⟩ : ∃ q, cmpM (ih * 18446744073709551616 + il) (jh * 18446744073709551616 + jl) = q := ⟨_, rfl⟩
    have HA3 := Lib.hid (fun w => Cmp_is ih il jh jl w hi1 hi2 hj1 hj2 hs5)
    have hz5 : s5 ≤ 0 := at_most hs5 (by rw [← hi, ← hj, hw]; exact Nat.mul_le_mul_right _ (Nat.le_succ _))
    have hlt6 : kh * 18446744073709551616 + kl < nh * 18446744073709551616 + nl := by rw [← hkk, ← hn, hw]; omega
    have HG3 := Lib.hid (fun w => Cmp_is kh kl nh nl w hk1 hk2' hn1 hn2 (cmp_l hlt6))
    clear hi hj hkk hn hi1 hi2 hj1 hj2 hk1 hk2' hn1 hn2 hs5 hlt6 hw b3 b4
    have c0_0 := RK_71.out.cell 0
    have c0_1 := RK_71.out.cell 1
    have c0_2 := RK_71.out.cell 2
    have c0_3 := RK_71.out.cell 3
    simp at c0_0 c0_1 c0_2 c0_3
    have l0 := RK_71.out.lt
    have RK_72 := Lib.hid (RK_71.out.alloc (.cells #[.int .i64 x0, .int .i64 xm, .int .i64 y0, .int .i64 y1] 33))
    have RP_72 := Lib.hid (RP_71.out.alloc (.cells #[.int .i64 x0, .int .i64 xm, .int .i64 y0, .int .i64 y1] 33))
    have RL_72 := Lib.hid (Row.new D70 33 [.int .i64 x0, .int .i64 xm, .int .i64 y0, .int .i64 y1])
    have B_72 := Lib.hid (B_71.out.alloc B_71.out.size (.cells #[.int .i64 x0, .int .i64 xm, .int .i64 y0, .int .i64 y1] 33))
    go_upto_region 12 with fail
    obtain ⟨gRL, hgRL⟩ : ∃ g, g = D70.heap.size := ⟨_, rfl⟩
    clear RK_71 RP_71 B_71
    rw [← hgRL] at RL_72 ⊢
    clear hgRL
    generalize D70.alloc (.cells #[.int .i64 x0, .int .i64 xm, .int .i64 y0, .int .i64 y1] 33) = V72 at RK_72 RP_72 RL_72 B_72 ⊢
    clear c0_0 c0_1 c0_2 c0_3 l0
    refine wp_region_held_drew (S := fun w' => Below V72.heap.size V72 w') (by kernel_rfl) (Below.refl _ _).drew (fun hHeld => ?_)
    have S_73 := Lib.hid hHeld
    clear hHeld
    generalize V72.drew = D73 at S_73 ⊢
    refine wpAnyH_take (i := 0) (oi := ⟨some 62, _, _, _, _, _⟩) (v := ?vz73_1) rfl (by kernel_rfl) (by kernel_rfl) (by kernel_rfl) (fun _ _ _ h => h) (Or.inl ⟨by rfl, ?yz73_1⟩) S_73.out ?rz73_1
    case yz73_1 =>
      rintro w' hSw
      have k0 := (RL_72.out.below hSw RL_72.out.lt).cell 0
      have k1 := (RL_72.out.below hSw RL_72.out.lt).cell 1
      have k2 := (RL_72.out.below hSw RL_72.out.lt).cell 2
      have k3 := (RL_72.out.below hSw RL_72.out.lt).cell 3
      simp at k0 k1 k2 k3
      go_simp
      try with_reducible rfl
    try simp only [Act.put, List.setIfInBounds_toArray, List.set_cons_zero, List.set_cons_succ]
    refine wpAnyH_take (i := 2) (oi := ⟨some 64, _, _, _, _, _⟩) (v := ?vz73_2) rfl (by kernel_rfl) (by kernel_rfl) (by kernel_rfl) (fun _ _ _ h => h) (Or.inl ⟨by rfl, ?yz73_2⟩) S_73.out ?rz73_2
    case yz73_2 =>
      rintro w' hSw
      have k0 := (RK_72.out.below hSw RK_72.out.lt).cell 0
      have k1 := (RK_72.out.below hSw RK_72.out.lt).cell 1
      have k2 := (RK_72.out.below hSw RK_72.out.lt).cell 2
      have k3 := (RK_72.out.below hSw RK_72.out.lt).cell 3
      simp at k0 k1 k2 k3
      go_simp
      try with_reducible rfl
    try simp only [Act.put, List.setIfInBounds_toArray, List.set_cons_zero, List.set_cons_succ]
    refine wpAnyH_ready (rs := [1]) (by kernel_rfl) (by simp) ?_
    refine (AllReadyH.cons rfl (fun K hK => ?_) AllReadyH.nil)
    go_simp
    refine (HA1.out _).mono ?_
    rintro e Xz73_3 ⟨rfl, hb⟩
    have Sz73_3 := Lib.hid (S_73.out.trans (hb.mono S_73.out.size))
    clear hb S_73
    refine hK _ _ Sz73_3.out (fun _ => ?_)
    clear hK K
    try simp only [Act.put, List.setIfInBounds_toArray, List.set_cons_zero, List.set_cons_succ]
    refine wpAnyH_ready (rs := [3]) (by kernel_rfl) (by simp) ?_
    refine (AllReadyH.cons rfl (fun K hK => ?_) AllReadyH.nil)
    go_simp
    refine (HA2.out _).mono ?_
    rintro e Xz73_4 ⟨rfl, hb⟩
    have Sz73_4 := Lib.hid (Sz73_3.out.trans (hb.mono Sz73_3.out.size))
    clear hb Sz73_3
    refine hK _ _ Sz73_4.out (fun _ => ?_)
    clear hK K
    try simp only [Act.put, List.setIfInBounds_toArray, List.set_cons_zero, List.set_cons_succ]
    refine wpAnyH_ready (rs := [4]) (by kernel_rfl) (by simp) ?_
    refine (AllReadyH.cons rfl (fun K hK => ?_) AllReadyH.nil)
    go_simp
    refine (HA3.out _).mono ?_
    rintro e Xz73_5 ⟨rfl, hb⟩
    have Sz73_5 := Lib.hid (Sz73_4.out.trans (hb.mono Sz73_4.out.size))
    clear hb Sz73_4
    refine hK _ _ Sz73_5.out (fun _ => ?_)
    clear hK K
    try simp only [Act.put, List.setIfInBounds_toArray, List.set_cons_zero, List.set_cons_succ]
    refine wpAnyH_take (i := 5) (oi := ⟨some 67, _, _, _, _, _⟩) (v := ?vz73_6) rfl (by kernel_rfl) (by kernel_rfl) (by kernel_rfl) (fun _ _ _ h => h) (Or.inl ⟨by rfl, ?yz73_6⟩) Sz73_5.out ?rz73_6
    case yz73_6 =>
      rintro w' hSw
      go_simp
      try with_reducible rfl
    try simp only [Act.put, List.setIfInBounds_toArray, List.set_cons_zero, List.set_cons_succ]
    refine wpAnyH_take (i := 6) (oi := ⟨some 68, _, _, _, _, _⟩) (v := ?vz73_7) rfl (by kernel_rfl) (by kernel_rfl) (by kernel_rfl) (fun _ _ _ h => h) (Or.inl ⟨by rfl, ?yz73_7⟩) Sz73_5.out ?rz73_7
    case yz73_7 =>
      rintro w' hSw
      go_simp
      try with_reducible rfl
    try simp only [Act.put, List.setIfInBounds_toArray, List.set_cons_zero, List.set_cons_succ]
    refine wpAnyH_take (i := 7) (oi := ⟨some 69, _, _, _, _, _⟩) (v := ?vz73_8) rfl (by kernel_rfl) (by kernel_rfl) (by kernel_rfl) (fun _ _ _ h => h) (Or.inl ⟨by rfl, ?yz73_8⟩) Sz73_5.out ?rz73_8
    case yz73_8 =>
      rintro w' hSw
      have k0 := (RL_72.out.below hSw RL_72.out.lt).cell 0
      have k1 := (RL_72.out.below hSw RL_72.out.lt).cell 1
      have k2 := (RL_72.out.below hSw RL_72.out.lt).cell 2
      have k3 := (RL_72.out.below hSw RL_72.out.lt).cell 3
      simp at k0 k1 k2 k3
      go_simp
      try with_reducible rfl
    try simp only [Act.put, List.setIfInBounds_toArray, List.set_cons_zero, List.set_cons_succ]
    refine wpAnyH_take (i := 9) (oi := ⟨some 71, _, _, _, _, _⟩) (v := ?vz73_9) rfl (by kernel_rfl) (by kernel_rfl) (by kernel_rfl) (fun _ _ _ h => h) (Or.inl ⟨by rfl, ?yz73_9⟩) Sz73_5.out ?rz73_9
    case yz73_9 =>
      rintro w' hSw
      have k0 := (RK_72.out.below hSw RK_72.out.lt).cell 0
      have k1 := (RK_72.out.below hSw RK_72.out.lt).cell 1
      have k2 := (RK_72.out.below hSw RK_72.out.lt).cell 2
      have k3 := (RK_72.out.below hSw RK_72.out.lt).cell 3
      simp at k0 k1 k2 k3
      go_simp
      try with_reducible rfl
    try simp only [Act.put, List.setIfInBounds_toArray, List.set_cons_zero, List.set_cons_succ]
    refine wpAnyH_ready (rs := [8]) (by kernel_rfl) (by simp) ?_
    refine (AllReadyH.cons rfl (fun K hK => ?_) AllReadyH.nil)
    go_simp
    refine (HG1.out _).mono ?_
    rintro e Xz73_10 ⟨rfl, hb⟩
    have Sz73_10 := Lib.hid (Sz73_5.out.trans (hb.mono Sz73_5.out.size))
    clear hb Sz73_5
    refine hK _ _ Sz73_10.out (fun _ => ?_)
    clear hK K
    try simp only [Act.put, List.setIfInBounds_toArray, List.set_cons_zero, List.set_cons_succ]
    refine wpAnyH_ready (rs := [10]) (by kernel_rfl) (by simp) ?_
    refine (AllReadyH.cons rfl (fun K hK => ?_) AllReadyH.nil)
    go_simp
    refine (HG2.out _).mono ?_
    rintro e Xz73_11 ⟨rfl, hb⟩
    have Sz73_11 := Lib.hid (Sz73_10.out.trans (hb.mono Sz73_10.out.size))
    clear hb Sz73_10
    refine hK _ _ Sz73_11.out (fun _ => ?_)
    clear hK K
    try simp only [Act.put, List.setIfInBounds_toArray, List.set_cons_zero, List.set_cons_succ]
    refine wpAnyH_ready (rs := [11]) (by kernel_rfl) (by simp) ?_
    refine (AllReadyH.cons rfl (fun K hK => ?_) AllReadyH.nil)
    go_simp
    refine (HG3.out _).mono ?_
    rintro e Xz73_12 ⟨rfl, hb⟩
    have Sz73_12 := Lib.hid (Sz73_11.out.trans (hb.mono Sz73_11.out.size))
    clear hb Sz73_11
    refine hK _ _ Sz73_12.out (fun _ => ?_)
    clear hK K
    try simp only [Act.put, List.setIfInBounds_toArray, List.set_cons_zero, List.set_cons_succ]
    refine wpAnyH_take (i := 12) (oi := ⟨some 74, _, _, _, _, _⟩) (v := ?vz73_13) rfl (by kernel_rfl) (by kernel_rfl) (by kernel_rfl) (fun _ _ _ h => h) (Or.inl ⟨by rfl, ?yz73_13⟩) Sz73_12.out ?rz73_13
    case yz73_13 =>
      rintro w' hSw
      go_simp
      try with_reducible rfl
    try simp only [Act.put, List.setIfInBounds_toArray, List.set_cons_zero, List.set_cons_succ]
    refine wpAnyH_take (i := 13) (oi := ⟨some 75, _, _, _, _, _⟩) (v := ?vz73_14) rfl (by kernel_rfl) (by kernel_rfl) (by kernel_rfl) (fun _ _ _ h => h) (Or.inl ⟨by rfl, ?yz73_14⟩) Sz73_12.out ?rz73_14
    case yz73_14 =>
      rintro w' hSw
      go_simp
      try with_reducible rfl
    try simp only [Act.put, List.setIfInBounds_toArray, List.set_cons_zero, List.set_cons_succ]
    refine wpAnyH_take (i := 14) (oi := ⟨some 6, _, _, _, _, _⟩) (v := ?vz73_15) rfl (by kernel_rfl) (by kernel_rfl) (by kernel_rfl) (fun _ _ _ h => h) (Or.inl ⟨by rfl, ?yz73_15⟩) Sz73_12.out ?rz73_15
    case yz73_15 =>
      rintro w' hSw
      go_simp
      try with_reducible rfl
    try simp only [Act.put, List.setIfInBounds_toArray, List.set_cons_zero, List.set_cons_succ]
    refine wpAnyH_done (by kernel_rfl) ?_ _
    have RK_74 := Lib.hid (RK_72.out.below Sz73_12.out RK_72.out.lt)
    have RP_74 := Lib.hid (RP_72.out.below Sz73_12.out RP_72.out.lt)
    have RL_74 := Lib.hid (RL_72.out.below Sz73_12.out RL_72.out.lt)
    have B_74 := Lib.hid (B_72.out.trans (Sz73_12.out.mono B_72.out.size))
    clear Sz73_12 RK_72 RP_72 RL_72 B_72
    go_wp2
    go_ret
    exact ⟨rfl, B_74.out⟩

theorem walk (a b : Nat) (x0 x1 y0 y1 : Int) (w : World) (h1 : a < 18446744073709551616) (h2 : b < 18446744073709551616) (a1 : -9223372036854775808 ≤ x0) (a2 : x0 ≤ 9223372036854775807) (a3 : -9223372036854775808 ≤ x1) (a4 : x1 ≤ 9223372036854775807) (a5 : -9223372036854775808 ≤ y0) (a6 : y0 ≤ 9223372036854775807) (a7 : -9223372036854775808 ≤ y1) (a8 : y1 ≤ 9223372036854775807) :
    Calls Try.prog 9 #[.int .u64 (a : Int), .int .u64 (b : Int), .agg #[.int .i64 x0, .int .i64 x1, .int .i64 y0, .int .i64 y1]] w fun e w' => e = .returned (.bool true) ∧ Below w.heap.size w w' := by
  by_cases hb : 0 < b
  · by_cases ha : 0 < a
    · by_cases hm : a < 18446744073709551615
      · exact walk_01 a b x0 x1 y0 y1 w h1 h2 a1 a2 a3 a4 a5 a6 a7 a8 (by omega) (by omega) (by omega)
      · exact walk_02 a b x0 x1 y0 y1 w h1 h2 a1 a2 a3 a4 a5 a6 a7 a8 (by omega) (by omega) (by omega)
    · exact walk_00 a b x0 x1 y0 y1 w h1 h2 a1 a2 a3 a4 a5 a6 a7 a8 (by omega) (by omega) (by omega)
  · by_cases ha : 0 < a
    · by_cases hm : a < 18446744073709551615
      · exact walk_11 a b x0 x1 y0 y1 w h1 h2 a1 a2 a3 a4 a5 a6 a7 a8 (by omega) (by omega) (by omega)
      · exact walk_12 a b x0 x1 y0 y1 w h1 h2 a1 a2 a3 a4 a5 a6 a7 a8 (by omega) (by omega) (by omega)
    · exact walk_10 a b x0 x1 y0 y1 w h1 h2 a1 a2 a3 a4 a5 a6 a7 a8 (by omega) (by omega) (by omega)

theorem resT_WideGrows : Try.f9.resultTypes = #[4] := by kernel_rfl
set_option maxRecDepth 100000 in
theorem lifted_WideGrows (os : Os) (started : os.Started) (H : Type) (enc : TypeId × Value → H) :
    ReturnsInHanded {} Try.checked os 9 .any (Rows.wideGrowsSpec.pre6 enc Try.prog Try.f9 Rows.wideGrowsRow.domain false) (Rows.wideGrowsSpec.post enc Try.prog Try.f9 false true false false) := by
  refine Lift.law_lift (C := Try.checked) (s := Rows.wideGrowsSpec) (tb := 4) own laidOut started (by kernel_rfl) Try.func9
    (ChangeSpec.witness6 (enc := enc) (C := Try.checked) false ⟨#[], #[.int .u64 0, .int .u64 0, .agg #[.int .i64 0, .int .i64 0, .int .i64 0, .int .i64 0]], []⟩ 8 (by kernel_rfl) (by kernel_rfl) (by kernel_rfl) (by kernel_rfl))
    rfl resT_WideGrows Try.underlying4 (by
      have hr : ∀ t ∈ ([22, 22, 33] : List TypeId), Try.prog.readableRec t = true ∧ t < Try.prog.types.size := by
        intro t ht
        simp only [List.mem_cons, List.not_mem_nil, or_false] at ht
        rcases ht with rfl | rfl | rfl <;> exact ⟨by kernel_rfl, of_decide_eq_true (by kernel_rfl)⟩
      intro t ht
      exact hr t (by
        have ht' : t ∈ Try.f9.params.toList := ht
        rw [Try.params9] at ht'
        exact ht')) ?_
  intro W base args ds p hval0 hA0 hsz0
  have hval : ∀ (j : Nat) t v, Try.f9.params[j]? = some t → args[j]? = some v → Value.okWide Try.prog W .any base t v := hval0
  have hA : DataW.TrodAll enc Try.prog W 0 (fun _ => true) true Try.f9.params.toList args.toList ds p := hA0
  have hsz : (DataW.weightsEach Try.prog Try.f9.params.toList ds).all (· ≤ reachBytes) = true := hsz0
  clear hval0 hA0 hsz0
  rw [Try.params9] at hA hval hsz
  obtain ⟨v0, vs0, d0, ds0, p0, q0, hargs, rfl, rfl, h0, r0⟩ := trodAll_cons hA
  obtain ⟨v1, vs1, d1, ds1, p1, q1, rfl, rfl, rfl, h1, r1⟩ := trodAll_cons r0
  obtain ⟨v2, vs2, d2, ds2, p2, q2, rfl, rfl, rfl, h2, r2⟩ := trodAll_cons r1
  obtain ⟨rfl, rfl, rfl⟩ := trodAll_nil r2
  obtain rfl : args = #[v0, v1, v2] := by cases args; simp_all
  obtain ⟨a0, rfl, rfl, rfl, w0⟩ := open_int Try.underlying22 (hval 0 22 v0 rfl rfl) h0
  have w0' : 0 ≤ a0 ∧ a0 ≤ 18446744073709551615 := by simpa [Lit.wf, IntKind.min, IntKind.max, IntKind.signed, IntKind.bits] using w0
  obtain ⟨u0, rfl⟩ := Int.eq_ofNat_of_zero_le w0'.1
  obtain ⟨a1, rfl, rfl, rfl, w1⟩ := open_int Try.underlying22 (hval 1 22 v1 rfl rfl) h1
  have w1' : 0 ≤ a1 ∧ a1 ≤ 18446744073709551615 := by simpa [Lit.wf, IntKind.min, IntKind.max, IntKind.signed, IntKind.bits] using w1
  obtain ⟨u1, rfl⟩ := Int.eq_ofNat_of_zero_le w1'.1
  obtain ⟨k2a, k2b, k2c, k2d, ⟨m2a, n2a⟩, ⟨m2b, n2b⟩, ⟨m2c, n2c⟩, ⟨m2d, n2d⟩, rfl⟩ := open_key (hval 2 33 v2 rfl rfl) h2
  exact ⟨rfl, walk u0 u1 k2a k2b k2c k2d W (by omega) (by omega) m2a n2a m2b n2b m2c n2c m2d n2d⟩

theorem proved_WideGrows : Rows.WideGrowsSaid :=
  OpenClaim.holds_of_wide 9 Try.f9 rfl rfl rfl rfl rfl rfl rfl ⟨rfl, rfl, rfl, rfl, rfl⟩ rfl rfl rfl rfl rfl (by kernel_rfl) Try.func9 (by kernel_rfl)
    (of_decide_eq_true (by kernel_rfl)) (by unfold Func.isWrapper; first | (rw [if_pos (by decide +kernel)]; kernel_rfl) | (rw [if_neg (by decide +kernel)]; exact ⟨rfl, rfl⟩))
    (fun os started H enc _ => lifted_WideGrows os started H enc)
end Go.Proofs.Ytleeanbfhfklmaa.WideGrows
