/-
  WideOrder: numbers have one order, and sums that lose nothing keep it. No condition.
-/
import Derived.Test.YtleeanbfhfklmaaWi5
import Derived.Test.YtleeanbfhfklmaaWiO
import Derived.Deep.RegionHeld
import Derived.Deep.Cut
import Derived.WalkLawsBesides
namespace Go.Proofs.Ytleeanbfhfklmaa.WideOrder
set_option maxRecDepth 100000
open Go.ChangeShapes Go.WideShapes Go.ChangeAt Go.RowKit Go.Proofs.Ytleeanbfhfklmaa.Wd Go.Proofs.Ytleeanbfhfklmaa.Wi

theorem own : ownKnob Try.prog.godebug = none := by kernel_rfl
theorem laidOut : laidOutB Try.prog = true := by kernel_rfl


theorem sum_parts (a b : Nat) (ha : a < 340282366920938463463374607431768211456) (hb : b < 340282366920938463463374607431768211456) : ∃ c h l : Nat, h < 18446744073709551616 ∧ l < 18446744073709551616 ∧ c ≤ 1 ∧ a + b = c * 340282366920938463463374607431768211456 + (h * 18446744073709551616 + l) := by
  obtain ⟨h, l, h1, h2, h3⟩ := parts ((a + b) % 340282366920938463463374607431768211456) (by omega)
  exact ⟨(a + b) / 340282366920938463463374607431768211456, h, l, h1, h2, by omega, by omega⟩
theorem cmp_l {a b : Nat} (h : a < b) : cmpM a b = -1 := by unfold cmpM; rw [if_pos h]
theorem cmp_g {a b : Nat} (h : b < a) : cmpM a b = 1 := by unfold cmpM; rw [if_neg (by omega), if_neg (by omega)]
theorem cmp_e {a : Nat} : cmpM a a = 0 := by unfold cmpM; rw [if_neg (by omega), if_pos rfl]
theorem cmp_way {a b c : Nat} {q r : Int} (h : a ≤ b) (hq : cmpM b c = q) (hr : cmpM a c = r) : 0 < q ∨ (q ≤ 0 ∧ r ≤ 0) := by
  subst hq hr
  unfold cmpM
  repeat' split
  all_goals omega
theorem Cmp_is (ah al bh bl : Nat) {q : Int} (w : World) (h1 : ah < 18446744073709551616) (h2 : al < 18446744073709551616) (h3 : bh < 18446744073709551616) (h4 : bl < 18446744073709551616) (hq : cmpM (ah * 18446744073709551616 + al) (bh * 18446744073709551616 + bl) = q) :
    Calls Try.prog 17 #[.agg #[.int .u64 (ah : Int), .int .u64 (al : Int)], .agg #[.int .u64 (bh : Int), .int .u64 (bl : Int)]] w fun e w' => e = .returned (.int .i64 q) ∧ Below w.heap.size w w' := hq ▸ Cmp_any ah al bh bl w h1 h2 h3 h4
theorem flags {a b z c d x y : Nat} {s p : Int} (hs : a + z = c * 340282366920938463463374607431768211456 + x) (ht : b + z = d * 340282366920938463463374607431768211456 + y) (hxy : cmpM x y = s) (hab : cmpM a b = p) : decide (c = 0) = false ∨ (decide (c = 0) = true ∧ decide (d = 0) = false) ∨ (decide (c = 0) = true ∧ decide (d = 0) = true ∧ s = p) := by
  subst hxy hab
  by_cases h1 : c = 0
  · by_cases h2 : d = 0
    · subst h1 h2
      rw [Nat.zero_mul, Nat.zero_add] at hs ht
      subst hs ht
      refine .inr (.inr ⟨rfl, rfl, ?_⟩)
      unfold cmpM
      repeat' split
      all_goals first | rfl | omega
    · exact .inr (.inl ⟨by simp [h1], by simp [h2]⟩)
  · exact .inl (by simp [h1])

set_option maxHeartbeats 8000000 in
theorem walk_l (ah al bh bl ch cl : Nat) (w : World) (h1 : ah < 18446744073709551616) (h2 : al < 18446744073709551616) (h3 : bh < 18446744073709551616) (h4 : bl < 18446744073709551616) (h5 : ch < 18446744073709551616) (h6 : cl < 18446744073709551616) (hlt : ah * 18446744073709551616 + al < bh * 18446744073709551616 + bl) (hne : ¬ (ah : Int) = (bh : Int)) :
    Calls Try.prog 8 #[.agg #[.int .u64 (ah : Int), .int .u64 (al : Int)], .agg #[.int .u64 (bh : Int), .int .u64 (bl : Int)], .agg #[.int .u64 (ch : Int), .int .u64 (cl : Int)]] w fun e w' => e = .returned (.bool true) ∧ Below w.heap.size w w' := by
  have HW := Lib.hid wakes_any
  have hwm : IntKind.i64.wrap (-1) = -1 := by decide
  have hab : cmpM (ah * 18446744073709551616 + al) (bh * 18446744073709551616 + bl) = -1 := cmp_l hlt
  have hba : cmpM (bh * 18446744073709551616 + bl) (ah * 18446744073709551616 + al) = 1 := cmp_g hlt
  obtain ⟨q, hbc⟩ : ∃ q, cmpM (bh * 18446744073709551616 + bl) (ch * 18446744073709551616 + cl) = q := ⟨_, rfl⟩
  obtain ⟨r, hac⟩ : ∃ q, cmpM (ah * 18446744073709551616 + al) (ch * 18446744073709551616 + cl) = q := ⟨_, rfl⟩
  have HAB := Lib.hid (fun w => Cmp_is ah al bh bl w h1 h2 h3 h4 hab)
  have HBA := Lib.hid (fun w => Cmp_is bh bl ah al w h3 h4 h1 h2 hba)
  have HBC := Lib.hid (fun w => Cmp_is bh bl ch cl w h3 h4 h5 h6 hbc)
  have HAC := Lib.hid (fun w => Cmp_is ah al ch cl w h1 h2 h5 h6 hac)
  have hqq := cmp_way (Nat.le_of_lt hlt) hbc hac
  obtain ⟨c, xh, xl, hx1, hx2, hc, hs⟩ := sum_parts (ah * 18446744073709551616 + al) (ch * 18446744073709551616 + cl) (two_lt h1 h2) (two_lt h5 h6)
  obtain ⟨d, yh, yl, hy1, hy2, hd, ht⟩ := sum_parts (bh * 18446744073709551616 + bl) (ch * 18446744073709551616 + cl) (two_lt h3 h4) (two_lt h5 h6)
  have HS := Lib.hid (fun w => Add_any ah al ch cl xh xl c w h1 h2 h5 h6 hx1 hx2 hs)
  have HT := Lib.hid (fun w => Add_any bh bl ch cl yh yl d w h3 h4 h5 h6 hy1 hy2 ht)
  obtain ⟨s, hxy⟩ : ∃ q, cmpM (xh * 18446744073709551616 + xl) (yh * 18446744073709551616 + yl) = q := ⟨_, rfl⟩
  have HXY := Lib.hid (fun w => Cmp_is xh xl yh yl w hx1 hx2 hy1 hy2 hxy)
  have hfl := flags hs ht hxy hab
  clear hs ht hc hd hxy hab hba hbc hac
  generalize decide (c = 0) = f1 at HS hfl
  generalize decide (d = 0) = f2 at HT hfl
  clear h1 h2 h3 h4 h5 h6 hx1 hx2 hy1 hy2 hlt
  go_enter Try.func8, Try.ntmps8
  go_upto_region 1 with fail
  have RA_0 := Lib.hid (((row_last w (w.heap.size) 25 [.int .u64 (ah : Int), .int .u64 (al : Int)] (by simp)).alloc (.cells #[.int .u64 (bh : Int), .int .u64 (bl : Int)] 25)).alloc (.cells #[.int .u64 (ch : Int), .int .u64 (cl : Int)] 25))
  have RB_0 := Lib.hid ((row_last (w.alloc (.cells #[.int .u64 (ah : Int), .int .u64 (al : Int)] 25)) (w.heap.size + 1) 25 [.int .u64 (bh : Int), .int .u64 (bl : Int)] (by simp)).alloc (.cells #[.int .u64 (ch : Int), .int .u64 (cl : Int)] 25))
  have RC_0 := Lib.hid (row_last ((w.alloc (.cells #[.int .u64 (ah : Int), .int .u64 (al : Int)] 25)).alloc (.cells #[.int .u64 (bh : Int), .int .u64 (bl : Int)] 25)) (w.heap.size + 1 + 1) 25 [.int .u64 (ch : Int), .int .u64 (cl : Int)] (by simp))
  have B_0 := Lib.hid ((((Below.refl w.heap.size w).alloc (Nat.le_refl _) (.cells #[.int .u64 (ah : Int), .int .u64 (al : Int)] 25)).alloc (by simp <;> omega) (.cells #[.int .u64 (bh : Int), .int .u64 (bl : Int)] 25)).alloc (by simp <;> omega) (.cells #[.int .u64 (ch : Int), .int .u64 (cl : Int)] 25))
  generalize (((w.alloc (.cells #[.int .u64 (ah : Int), .int .u64 (al : Int)] 25)).alloc (.cells #[.int .u64 (bh : Int), .int .u64 (bl : Int)] 25)).alloc (.cells #[.int .u64 (ch : Int), .int .u64 (cl : Int)] 25)) = V0 at RA_0 RB_0 RC_0 B_0 ⊢
  go_wp2_with fail
  refine (HW.out _).mono ?_
  rintro e W1 ⟨rfl, hb⟩
  have RA_2 := Lib.hid (RA_0.out.below hb RA_0.out.lt)
  have RB_2 := Lib.hid (RB_0.out.below hb RB_0.out.lt)
  have RC_2 := Lib.hid (RC_0.out.below hb RC_0.out.lt)
  have B_2 := Lib.hid (B_0.out.trans (hb.mono B_0.out.size))
  clear hb RA_0 RB_0 RC_0 B_0
  go_wp2_with fail
  refine wp_region_held_drew (S := fun w' => Below W1.heap.size W1 w') (by kernel_rfl) (Below.refl _ _).drew (fun hHeld => ?_)
  have S_3 := Lib.hid hHeld
  clear hHeld
  generalize W1.drew = D3 at S_3 ⊢
  refine wpAnyH_take (i := 0) (oi := ⟨some 13, _, _, _, _, _⟩) (v := ?vz3_1) rfl (by kernel_rfl) (by kernel_rfl) (by kernel_rfl) (fun _ _ _ h => h) (Or.inl ⟨by rfl, ?yz3_1⟩) S_3.out ?rz3_1
  case yz3_1 =>
    rintro w' hSw
    have k0 := (RA_2.out.below hSw RA_2.out.lt).cell 0
    have k1 := (RA_2.out.below hSw RA_2.out.lt).cell 1
    simp at k0 k1
    go_simp
    try with_reducible rfl
  try simp only [Act.put, List.setIfInBounds_toArray, List.set_cons_zero, List.set_cons_succ]
  refine wpAnyH_take (i := 1) (oi := ⟨some 14, _, _, _, _, _⟩) (v := ?vz3_2) rfl (by kernel_rfl) (by kernel_rfl) (by kernel_rfl) (fun _ _ _ h => h) (Or.inl ⟨by rfl, ?yz3_2⟩) S_3.out ?rz3_2
  case yz3_2 =>
    rintro w' hSw
    have k0 := (RB_2.out.below hSw RB_2.out.lt).cell 0
    have k1 := (RB_2.out.below hSw RB_2.out.lt).cell 1
    simp at k0 k1
    go_simp
    try with_reducible rfl
  try simp only [Act.put, List.setIfInBounds_toArray, List.set_cons_zero, List.set_cons_succ]
  refine wpAnyH_take (i := 3) (oi := ⟨some 16, _, _, _, _, _⟩) (v := ?vz3_3) rfl (by kernel_rfl) (by kernel_rfl) (by kernel_rfl) (fun _ _ _ h => h) (Or.inl ⟨by rfl, ?yz3_3⟩) S_3.out ?rz3_3
  case yz3_3 =>
    rintro w' hSw
    have k0 := (RB_2.out.below hSw RB_2.out.lt).cell 0
    have k1 := (RB_2.out.below hSw RB_2.out.lt).cell 1
    simp at k0 k1
    go_simp
    try with_reducible rfl
  try simp only [Act.put, List.setIfInBounds_toArray, List.set_cons_zero, List.set_cons_succ]
  refine wpAnyH_take (i := 4) (oi := ⟨some 17, _, _, _, _, _⟩) (v := ?vz3_4) rfl (by kernel_rfl) (by kernel_rfl) (by kernel_rfl) (fun _ _ _ h => h) (Or.inl ⟨by rfl, ?yz3_4⟩) S_3.out ?rz3_4
  case yz3_4 =>
    rintro w' hSw
    have k0 := (RA_2.out.below hSw RA_2.out.lt).cell 0
    have k1 := (RA_2.out.below hSw RA_2.out.lt).cell 1
    simp at k0 k1
    go_simp
    try with_reducible rfl
  try simp only [Act.put, List.setIfInBounds_toArray, List.set_cons_zero, List.set_cons_succ]
  refine wpAnyH_ready (rs := [2]) (by kernel_rfl) (by simp) ?_
  refine (AllReadyH.cons rfl (fun K hK => ?_) AllReadyH.nil)
  go_simp
  refine (HAB.out _).mono ?_
  rintro e Xz3_5 ⟨rfl, hb⟩
  have Sz3_5 := Lib.hid (S_3.out.trans (hb.mono S_3.out.size))
  clear hb S_3
  refine hK _ _ Sz3_5.out (fun _ => ?_)
  clear hK K
  try simp only [Act.put, List.setIfInBounds_toArray, List.set_cons_zero, List.set_cons_succ]
  refine wpAnyH_ready (rs := [5]) (by kernel_rfl) (by simp) ?_
  refine (AllReadyH.cons rfl (fun K hK => ?_) AllReadyH.nil)
  go_simp
  refine (HBA.out _).mono ?_
  rintro e Xz3_6 ⟨rfl, hb⟩
  have Sz3_6 := Lib.hid (Sz3_5.out.trans (hb.mono Sz3_5.out.size))
  clear hb Sz3_5
  refine hK _ _ Sz3_6.out (fun _ => ?_)
  clear hK K
  try simp only [Act.put, List.setIfInBounds_toArray, List.set_cons_zero, List.set_cons_succ]
  refine wpAnyH_take (i := 6) (oi := ⟨some 19, _, _, _, _, _⟩) (v := ?vz3_7) rfl (by kernel_rfl) (by kernel_rfl) (by kernel_rfl) (fun _ _ _ h => h) (Or.inl ⟨by rfl, ?yz3_7⟩) Sz3_6.out ?rz3_7
  case yz3_7 =>
    rintro w' hSw
    go_simp
    try with_reducible rfl
  try simp only [Act.put, List.setIfInBounds_toArray, List.set_cons_zero, List.set_cons_succ]
  refine wpAnyH_take (i := 7) (oi := ⟨some 20, _, _, _, _, _⟩) (v := ?vz3_8) rfl (by kernel_rfl) (by kernel_rfl) (by kernel_rfl) (fun _ _ _ h => h) (Or.inl ⟨by rfl, ?yz3_8⟩) Sz3_6.out ?rz3_8
  case yz3_8 =>
    rintro w' hSw
    go_simp
    try with_reducible rfl
  try simp only [Act.put, List.setIfInBounds_toArray, List.set_cons_zero, List.set_cons_succ]
  refine wpAnyH_take (i := 8) (oi := ⟨some 21, _, _, _, _, _⟩) (v := ?vz3_9) rfl (by kernel_rfl) (by kernel_rfl) (by kernel_rfl) (fun _ _ _ h => h) (Or.inl ⟨by rfl, ?yz3_9⟩) Sz3_6.out ?rz3_9
  case yz3_9 =>
    rintro w' hSw
    go_simp
    try with_reducible rfl
  try simp only [Act.put, List.setIfInBounds_toArray, List.set_cons_zero, List.set_cons_succ]
  refine wpAnyH_take (i := 9) (oi := ⟨some 22, _, _, _, _, _⟩) (v := ?vz3_10) rfl (by kernel_rfl) (by kernel_rfl) (by kernel_rfl) (fun _ _ _ h => h) (Or.inl ⟨by rfl, ?yz3_10⟩) Sz3_6.out ?rz3_10
  case yz3_10 =>
    rintro w' hSw
    have k0 := (RA_2.out.below hSw RA_2.out.lt).cell 0
    have k1 := (RA_2.out.below hSw RA_2.out.lt).cell 1
    simp at k0 k1
    go_simp
    try with_reducible rfl
  try simp only [Act.put, List.setIfInBounds_toArray, List.set_cons_zero, List.set_cons_succ]
  refine wpAnyH_take (i := 10) (oi := ⟨some 23, _, _, _, _, _⟩) (v := ?vz3_11) rfl (by kernel_rfl) (by kernel_rfl) (by kernel_rfl) (fun _ _ _ h => h) (Or.inl ⟨by rfl, ?yz3_11⟩) Sz3_6.out ?rz3_11
  case yz3_11 =>
    rintro w' hSw
    have k0 := (RB_2.out.below hSw RB_2.out.lt).cell 0
    have k1 := (RB_2.out.below hSw RB_2.out.lt).cell 1
    simp at k0 k1
    go_simp
    try with_reducible rfl
  try simp only [Act.put, List.setIfInBounds_toArray, List.set_cons_zero, List.set_cons_succ]
  refine wpAnyH_take (i := 13) (oi := ⟨some 26, _, _, _, _, _⟩) (v := ?vz3_12) rfl (by kernel_rfl) (by kernel_rfl) (by kernel_rfl) (fun _ _ _ h => h) (Or.inl ⟨by rfl, ?yz3_12⟩) Sz3_6.out ?rz3_12
  case yz3_12 =>
    rintro w' hSw
    have k0 := (RA_2.out.below hSw RA_2.out.lt).cell 0
    have k1 := (RA_2.out.below hSw RA_2.out.lt).cell 1
    simp at k0 k1
    go_simp
    try with_reducible rfl
  try simp only [Act.put, List.setIfInBounds_toArray, List.set_cons_zero, List.set_cons_succ]
  refine wpAnyH_take (i := 14) (oi := ⟨some 27, _, _, _, _, _⟩) (v := ?vz3_13) rfl (by kernel_rfl) (by kernel_rfl) (by kernel_rfl) (fun _ _ _ h => h) (Or.inl ⟨by rfl, ?yz3_13⟩) Sz3_6.out ?rz3_13
  case yz3_13 =>
    rintro w' hSw
    have k0 := (RB_2.out.below hSw RB_2.out.lt).cell 0
    have k1 := (RB_2.out.below hSw RB_2.out.lt).cell 1
    simp at k0 k1
    go_simp
    try with_reducible rfl
  try simp only [Act.put, List.setIfInBounds_toArray, List.set_cons_zero, List.set_cons_succ]
  refine wpAnyH_take (i := 15) (oi := ⟨some 28, _, _, _, _, _⟩) (v := ?vz3_14) rfl (by kernel_rfl) (by kernel_rfl) (by kernel_rfl) (fun _ _ _ h => h) (Or.inl ⟨by rfl, ?yz3_14⟩) Sz3_6.out ?rz3_14
  case yz3_14 =>
    rintro w' hSw
    go_simp
    try with_reducible rfl
  try simp only [Act.put, List.setIfInBounds_toArray, List.set_cons_zero, List.set_cons_succ]
  refine wpAnyH_ready (rs := [11]) (by kernel_rfl) (by simp) ?_
  refine (AllReadyH.cons rfl (fun K hK => ?_) AllReadyH.nil)
  go_simp
  refine (HAB.out _).mono ?_
  rintro e Xz3_15 ⟨rfl, hb⟩
  have Sz3_15 := Lib.hid (Sz3_6.out.trans (hb.mono Sz3_6.out.size))
  clear hb Sz3_6
  refine hK _ _ Sz3_15.out (fun _ => ?_)
  clear hK K
  try simp only [Act.put, List.setIfInBounds_toArray, List.set_cons_zero, List.set_cons_succ]
  refine wpAnyH_take (i := 12) (oi := ⟨some 25, _, _, _, _, _⟩) (v := ?vz3_16) rfl (by kernel_rfl) (by kernel_rfl) (by kernel_rfl) (fun _ _ _ h => h) (Or.inl ⟨by rfl, ?yz3_16⟩) Sz3_15.out ?rz3_16
  case yz3_16 =>
    rintro w' hSw
    go_simp
    try with_reducible rfl
  try simp only [Act.put, List.setIfInBounds_toArray, List.set_cons_zero, List.set_cons_succ]
  refine wpAnyH_take (i := 16) (oi := ⟨some 29, _, _, _, _, _⟩) (v := ?vz3_17) rfl (by kernel_rfl) (by kernel_rfl) (by kernel_rfl) (fun _ _ _ h => h) (Or.inl ⟨by rfl, ?yz3_17⟩) Sz3_15.out ?rz3_17
  case yz3_17 =>
    rintro w' hSw
    go_simp
    try with_reducible rfl
  try simp only [Act.put, List.setIfInBounds_toArray, List.set_cons_zero, List.set_cons_succ]
  refine wpAnyH_take (i := 17) (oi := ⟨some 30, _, _, _, _, _⟩) (v := ?vz3_18) rfl (by kernel_rfl) (by kernel_rfl) (by kernel_rfl) (fun _ _ _ h => h) (Or.inl ⟨by rfl, ?yz3_18⟩) Sz3_15.out ?rz3_18
  case yz3_18 =>
    rintro w' hSw
    go_simp
    try with_reducible rfl
  try simp only [Act.put, List.setIfInBounds_toArray, List.set_cons_zero, List.set_cons_succ]
  refine wpAnyH_done (by kernel_rfl) ?_ _
  have RA_4 := Lib.hid (RA_2.out.below Sz3_15.out RA_2.out.lt)
  have RB_4 := Lib.hid (RB_2.out.below Sz3_15.out RB_2.out.lt)
  have RC_4 := Lib.hid (RC_2.out.below Sz3_15.out RC_2.out.lt)
  have B_4 := Lib.hid (B_2.out.trans (Sz3_15.out.mono B_2.out.size))
  clear Sz3_15 RA_2 RB_2 RC_2 B_2
  have c0_0 := RA_4.out.cell 0
  have c0_1 := RA_4.out.cell 1
  simp at c0_0 c0_1
  have l0 := RA_4.out.lt
  have c1_0 := RB_4.out.cell 0
  have c1_1 := RB_4.out.cell 1
  simp at c1_0 c1_1
  have l1 := RB_4.out.lt
  have c2_0 := RC_4.out.cell 0
  have c2_1 := RC_4.out.cell 1
  simp at c2_0 c2_1
  have l2 := RC_4.out.lt
  go_wp2_with fail
  refine (HAB.out _).mono ?_
  rintro e W5 ⟨rfl, hb⟩
  clear c0_0 c0_1 l0 c1_0 c1_1 l1 c2_0 c2_1 l2
  have RA_6 := Lib.hid (RA_4.out.below hb RA_4.out.lt)
  have RB_6 := Lib.hid (RB_4.out.below hb RB_4.out.lt)
  have RC_6 := Lib.hid (RC_4.out.below hb RC_4.out.lt)
  have B_6 := Lib.hid (B_4.out.trans (hb.mono B_4.out.size))
  clear hb RA_4 RB_4 RC_4 B_4
  have c0_0 := RA_6.out.cell 0
  have c0_1 := RA_6.out.cell 1
  simp at c0_0 c0_1
  have l0 := RA_6.out.lt
  have c1_0 := RB_6.out.cell 0
  have c1_1 := RB_6.out.cell 1
  simp at c1_0 c1_1
  have l1 := RB_6.out.lt
  have c2_0 := RC_6.out.cell 0
  have c2_1 := RC_6.out.cell 1
  simp at c2_0 c2_1
  have l2 := RC_6.out.lt
  go_wp2_with fail
  refine (HBC.out _).mono ?_
  rintro e W7 ⟨rfl, hb⟩
  clear c0_0 c0_1 l0 c1_0 c1_1 l1 c2_0 c2_1 l2
  have RA_8 := Lib.hid (RA_6.out.below hb RA_6.out.lt)
  have RB_8 := Lib.hid (RB_6.out.below hb RB_6.out.lt)
  have RC_8 := Lib.hid (RC_6.out.below hb RC_6.out.lt)
  have B_8 := Lib.hid (B_6.out.trans (hb.mono B_6.out.size))
  clear hb RA_6 RB_6 RC_6 B_6
  rcases hqq with hq | ⟨hq, hr⟩
  · have c0_0 := RA_8.out.cell 0
    have c0_1 := RA_8.out.cell 1
    simp at c0_0 c0_1
    have l0 := RA_8.out.lt
    have c1_0 := RB_8.out.cell 0
    have c1_1 := RB_8.out.cell 1
    simp at c1_0 c1_1
    have l1 := RB_8.out.lt
    have c2_0 := RC_8.out.cell 0
    have c2_1 := RC_8.out.cell 1
    simp at c2_0 c2_1
    have l2 := RC_8.out.lt
    go_wp2_with fail
    refine (HS.out _).mono ?_
    rintro e W9 ⟨rfl, hb⟩
    clear c0_0 c0_1 l0 c1_0 c1_1 l1 c2_0 c2_1 l2
    have RA_10 := Lib.hid (RA_8.out.below hb RA_8.out.lt)
    have RB_10 := Lib.hid (RB_8.out.below hb RB_8.out.lt)
    have RC_10 := Lib.hid (RC_8.out.below hb RC_8.out.lt)
    have B_10 := Lib.hid (B_8.out.trans (hb.mono B_8.out.size))
    clear hb RA_8 RB_8 RC_8 B_8
    have RA_11 := Lib.hid (RA_10.out.alloc (.cells #[.int .u64 (xh : Int), .int .u64 (xl : Int)] 25))
    have RB_11 := Lib.hid (RB_10.out.alloc (.cells #[.int .u64 (xh : Int), .int .u64 (xl : Int)] 25))
    have RC_11 := Lib.hid (RC_10.out.alloc (.cells #[.int .u64 (xh : Int), .int .u64 (xl : Int)] 25))
    have RX_11 := Lib.hid (Row.new W9 25 [.int .u64 (xh : Int), .int .u64 (xl : Int)])
    have B_11 := Lib.hid (B_10.out.alloc B_10.out.size (.cells #[.int .u64 (xh : Int), .int .u64 (xl : Int)] 25))
    go_upto_region 8 with fail
    obtain ⟨gRX, hgRX⟩ : ∃ g, g = W9.heap.size := ⟨_, rfl⟩
    clear RA_10 RB_10 RC_10 B_10
    rw [← hgRX] at RX_11 ⊢
    clear hgRX
    generalize W9.alloc (.cells #[.int .u64 (xh : Int), .int .u64 (xl : Int)] 25) = V11 at RA_11 RB_11 RC_11 RX_11 B_11 ⊢
    have c0_0 := RA_11.out.cell 0
    have c0_1 := RA_11.out.cell 1
    simp at c0_0 c0_1
    have l0 := RA_11.out.lt
    have c1_0 := RB_11.out.cell 0
    have c1_1 := RB_11.out.cell 1
    simp at c1_0 c1_1
    have l1 := RB_11.out.lt
    have c2_0 := RC_11.out.cell 0
    have c2_1 := RC_11.out.cell 1
    simp at c2_0 c2_1
    have l2 := RC_11.out.lt
    have c3_0 := RX_11.out.cell 0
    have c3_1 := RX_11.out.cell 1
    simp at c3_0 c3_1
    have l3 := RX_11.out.lt
    go_wp2_with fail
    refine (HT.out _).mono ?_
    rintro e W12 ⟨rfl, hb⟩
    clear c0_0 c0_1 l0 c1_0 c1_1 l1 c2_0 c2_1 l2 c3_0 c3_1 l3
    have RA_13 := Lib.hid (RA_11.out.below hb RA_11.out.lt)
    have RB_13 := Lib.hid (RB_11.out.below hb RB_11.out.lt)
    have RC_13 := Lib.hid (RC_11.out.below hb RC_11.out.lt)
    have RX_13 := Lib.hid (RX_11.out.below hb RX_11.out.lt)
    have B_13 := Lib.hid (B_11.out.trans (hb.mono B_11.out.size))
    clear hb RA_11 RB_11 RC_11 RX_11 B_11
    have RA_14 := Lib.hid (RA_13.out.alloc (.cells #[.int .u64 (yh : Int), .int .u64 (yl : Int)] 25))
    have RB_14 := Lib.hid (RB_13.out.alloc (.cells #[.int .u64 (yh : Int), .int .u64 (yl : Int)] 25))
    have RC_14 := Lib.hid (RC_13.out.alloc (.cells #[.int .u64 (yh : Int), .int .u64 (yl : Int)] 25))
    have RX_14 := Lib.hid (RX_13.out.alloc (.cells #[.int .u64 (yh : Int), .int .u64 (yl : Int)] 25))
    have RY_14 := Lib.hid (Row.new W12 25 [.int .u64 (yh : Int), .int .u64 (yl : Int)])
    have B_14 := Lib.hid (B_13.out.alloc B_13.out.size (.cells #[.int .u64 (yh : Int), .int .u64 (yl : Int)] 25))
    go_upto_region 9 with fail
    obtain ⟨gRY, hgRY⟩ : ∃ g, g = W12.heap.size := ⟨_, rfl⟩
    clear RA_13 RB_13 RC_13 RX_13 B_13
    rw [← hgRY] at RY_14 ⊢
    clear hgRY
    generalize W12.alloc (.cells #[.int .u64 (yh : Int), .int .u64 (yl : Int)] 25) = V14 at RA_14 RB_14 RC_14 RX_14 RY_14 B_14 ⊢
    rcases hfl with rfl | ⟨rfl, rfl⟩ | ⟨rfl, rfl, rfl⟩
    · refine wp_region_held_drew (S := fun w' => Below V14.heap.size V14 w') (by kernel_rfl) (Below.refl _ _).drew (fun hHeld => ?_)
      have S_15 := Lib.hid hHeld
      clear hHeld
      generalize V14.drew = D15 at S_15 ⊢
      refine wpAnyH_take (i := 0) (oi := ⟨some 59, _, _, _, _, _⟩) (v := ?vz15_1) rfl (by kernel_rfl) (by kernel_rfl) (by kernel_rfl) (fun _ _ _ h => h) (Or.inl ⟨by rfl, ?yz15_1⟩) S_15.out ?rz15_1
      case yz15_1 =>
        rintro w' hSw
        go_simp
        try with_reducible rfl
      try simp only [Act.put, List.setIfInBounds_toArray, List.set_cons_zero, List.set_cons_succ]
      refine wpAnyH_take (i := 1) (oi := ⟨some 60, _, _, _, _, _⟩) (v := ?vz15_2) rfl (by kernel_rfl) (by kernel_rfl) (by kernel_rfl) (fun _ _ _ h => h) (Or.inl ⟨by rfl, ?yz15_2⟩) S_15.out ?rz15_2
      case yz15_2 =>
        rintro w' hSw
        go_simp
        try with_reducible rfl
      try simp only [Act.put, List.setIfInBounds_toArray, List.set_cons_zero, List.set_cons_succ]
      refine wpAnyH_take (i := 2) (oi := ⟨some 61, _, _, _, _, _⟩) (v := ?vz15_3) rfl (by kernel_rfl) (by kernel_rfl) (by kernel_rfl) (fun _ _ _ h => h) (Or.inl ⟨by rfl, ?yz15_3⟩) S_15.out ?rz15_3
      case yz15_3 =>
        rintro w' hSw
        go_simp
        try with_reducible rfl
      try simp only [Act.put, List.setIfInBounds_toArray, List.set_cons_zero, List.set_cons_succ]
      refine wpAnyH_take (i := 3) (oi := ⟨some 62, _, _, _, _, _⟩) (v := undef) rfl (by kernel_rfl) (by kernel_rfl) (by kernel_rfl) (fun _ _ _ h => h) (Or.inr ⟨by rfl, rfl⟩) S_15.out ?rz15_4
      try simp only [Act.put, List.setIfInBounds_toArray, List.set_cons_zero, List.set_cons_succ]
      refine wpAnyH_take (i := 4) (oi := ⟨some 63, _, _, _, _, _⟩) (v := undef) rfl (by kernel_rfl) (by kernel_rfl) (by kernel_rfl) (fun _ _ _ h => h) (Or.inr ⟨by rfl, rfl⟩) S_15.out ?rz15_5
      try simp only [Act.put, List.setIfInBounds_toArray, List.set_cons_zero, List.set_cons_succ]
      refine wpAnyH_take (i := 5) (oi := ⟨some 64, _, _, _, _, _⟩) (v := ?vz15_6) rfl (by kernel_rfl) (by kernel_rfl) (by kernel_rfl) (fun _ _ _ h => h) (Or.inl ⟨by rfl, ?yz15_6⟩) S_15.out ?rz15_6
      case yz15_6 =>
        rintro w' hSw
        go_simp
        try with_reducible rfl
      try simp only [Act.put, List.setIfInBounds_toArray, List.set_cons_zero, List.set_cons_succ]
      refine wpAnyH_take (i := 6) (oi := ⟨some 65, _, _, _, _, _⟩) (v := ?vz15_7) rfl (by kernel_rfl) (by kernel_rfl) (by kernel_rfl) (fun _ _ _ h => h) (Or.inl ⟨by rfl, ?yz15_7⟩) S_15.out ?rz15_7
      case yz15_7 =>
        rintro w' hSw
        go_simp
        try with_reducible rfl
      try simp only [Act.put, List.setIfInBounds_toArray, List.set_cons_zero, List.set_cons_succ]
      refine wpAnyH_take (i := 7) (oi := ⟨some 66, _, _, _, _, _⟩) (v := undef) rfl (by kernel_rfl) (by kernel_rfl) (by kernel_rfl) (fun _ _ _ h => h) (Or.inr ⟨by rfl, rfl⟩) S_15.out ?rz15_8
      try simp only [Act.put, List.setIfInBounds_toArray, List.set_cons_zero, List.set_cons_succ]
      refine wpAnyH_take (i := 8) (oi := ⟨some 67, _, _, _, _, _⟩) (v := undef) rfl (by kernel_rfl) (by kernel_rfl) (by kernel_rfl) (fun _ _ _ h => h) (Or.inr ⟨by rfl, rfl⟩) S_15.out ?rz15_9
      try simp only [Act.put, List.setIfInBounds_toArray, List.set_cons_zero, List.set_cons_succ]
      refine wpAnyH_take (i := 9) (oi := ⟨some 68, _, _, _, _, _⟩) (v := undef) rfl (by kernel_rfl) (by kernel_rfl) (by kernel_rfl) (fun _ _ _ h => h) (Or.inr ⟨by rfl, rfl⟩) S_15.out ?rz15_10
      try simp only [Act.put, List.setIfInBounds_toArray, List.set_cons_zero, List.set_cons_succ]
      refine wpAnyH_take (i := 10) (oi := ⟨some 69, _, _, _, _, _⟩) (v := undef) rfl (by kernel_rfl) (by kernel_rfl) (by kernel_rfl) (fun _ _ _ h => h) (Or.inr ⟨by rfl, rfl⟩) S_15.out ?rz15_11
      try simp only [Act.put, List.setIfInBounds_toArray, List.set_cons_zero, List.set_cons_succ]
      refine wpAnyH_take (i := 11) (oi := ⟨some 70, _, _, _, _, _⟩) (v := undef) rfl (by kernel_rfl) (by kernel_rfl) (by kernel_rfl) (fun _ _ _ h => h) (Or.inr ⟨by rfl, rfl⟩) S_15.out ?rz15_12
      try simp only [Act.put, List.setIfInBounds_toArray, List.set_cons_zero, List.set_cons_succ]
      refine wpAnyH_take (i := 12) (oi := ⟨some 71, _, _, _, _, _⟩) (v := undef) rfl (by kernel_rfl) (by kernel_rfl) (by kernel_rfl) (fun _ _ _ h => h) (Or.inr ⟨by rfl, rfl⟩) S_15.out ?rz15_13
      try simp only [Act.put, List.setIfInBounds_toArray, List.set_cons_zero, List.set_cons_succ]
      refine wpAnyH_take (i := 13) (oi := ⟨some 72, _, _, _, _, _⟩) (v := undef) rfl (by kernel_rfl) (by kernel_rfl) (by kernel_rfl) (fun _ _ _ h => h) (Or.inr ⟨by rfl, rfl⟩) S_15.out ?rz15_14
      try simp only [Act.put, List.setIfInBounds_toArray, List.set_cons_zero, List.set_cons_succ]
      refine wpAnyH_take (i := 14) (oi := ⟨some 73, _, _, _, _, _⟩) (v := ?vz15_15) rfl (by kernel_rfl) (by kernel_rfl) (by kernel_rfl) (fun _ _ _ h => h) (Or.inl ⟨by rfl, ?yz15_15⟩) S_15.out ?rz15_15
      case yz15_15 =>
        rintro w' hSw
        go_simp
        try with_reducible rfl
      try simp only [Act.put, List.setIfInBounds_toArray, List.set_cons_zero, List.set_cons_succ]
      refine wpAnyH_take (i := 15) (oi := ⟨some 6, _, _, _, _, _⟩) (v := ?vz15_16) rfl (by kernel_rfl) (by kernel_rfl) (by kernel_rfl) (fun _ _ _ h => h) (Or.inl ⟨by rfl, ?yz15_16⟩) S_15.out ?rz15_16
      case yz15_16 =>
        rintro w' hSw
        go_simp
        try with_reducible rfl
      try simp only [Act.put, List.setIfInBounds_toArray, List.set_cons_zero, List.set_cons_succ]
      refine wpAnyH_done (by kernel_rfl) ?_ _
      have RA_16 := Lib.hid (RA_14.out.below S_15.out RA_14.out.lt)
      have RB_16 := Lib.hid (RB_14.out.below S_15.out RB_14.out.lt)
      have RC_16 := Lib.hid (RC_14.out.below S_15.out RC_14.out.lt)
      have RX_16 := Lib.hid (RX_14.out.below S_15.out RX_14.out.lt)
      have RY_16 := Lib.hid (RY_14.out.below S_15.out RY_14.out.lt)
      have B_16 := Lib.hid (B_14.out.trans (S_15.out.mono B_14.out.size))
      clear S_15 RA_14 RB_14 RC_14 RX_14 RY_14 B_14
      go_wp2
      go_ret
      exact ⟨rfl, B_16.out⟩
    · refine wp_region_held_drew (S := fun w' => Below V14.heap.size V14 w') (by kernel_rfl) (Below.refl _ _).drew (fun hHeld => ?_)
      have S_17 := Lib.hid hHeld
      clear hHeld
      generalize V14.drew = D17 at S_17 ⊢
      refine wpAnyH_take (i := 0) (oi := ⟨some 59, _, _, _, _, _⟩) (v := ?vz17_1) rfl (by kernel_rfl) (by kernel_rfl) (by kernel_rfl) (fun _ _ _ h => h) (Or.inl ⟨by rfl, ?yz17_1⟩) S_17.out ?rz17_1
      case yz17_1 =>
        rintro w' hSw
        go_simp
        try with_reducible rfl
      try simp only [Act.put, List.setIfInBounds_toArray, List.set_cons_zero, List.set_cons_succ]
      refine wpAnyH_take (i := 1) (oi := ⟨some 60, _, _, _, _, _⟩) (v := ?vz17_2) rfl (by kernel_rfl) (by kernel_rfl) (by kernel_rfl) (fun _ _ _ h => h) (Or.inl ⟨by rfl, ?yz17_2⟩) S_17.out ?rz17_2
      case yz17_2 =>
        rintro w' hSw
        go_simp
        try with_reducible rfl
      try simp only [Act.put, List.setIfInBounds_toArray, List.set_cons_zero, List.set_cons_succ]
      refine wpAnyH_take (i := 2) (oi := ⟨some 61, _, _, _, _, _⟩) (v := ?vz17_3) rfl (by kernel_rfl) (by kernel_rfl) (by kernel_rfl) (fun _ _ _ h => h) (Or.inl ⟨by rfl, ?yz17_3⟩) S_17.out ?rz17_3
      case yz17_3 =>
        rintro w' hSw
        go_simp
        try with_reducible rfl
      try simp only [Act.put, List.setIfInBounds_toArray, List.set_cons_zero, List.set_cons_succ]
      refine wpAnyH_take (i := 3) (oi := ⟨some 62, _, _, _, _, _⟩) (v := ?vz17_4) rfl (by kernel_rfl) (by kernel_rfl) (by kernel_rfl) (fun _ _ _ h => h) (Or.inl ⟨by rfl, ?yz17_4⟩) S_17.out ?rz17_4
      case yz17_4 =>
        rintro w' hSw
        go_simp
        try with_reducible rfl
      try simp only [Act.put, List.setIfInBounds_toArray, List.set_cons_zero, List.set_cons_succ]
      refine wpAnyH_take (i := 4) (oi := ⟨some 63, _, _, _, _, _⟩) (v := ?vz17_5) rfl (by kernel_rfl) (by kernel_rfl) (by kernel_rfl) (fun _ _ _ h => h) (Or.inl ⟨by rfl, ?yz17_5⟩) S_17.out ?rz17_5
      case yz17_5 =>
        rintro w' hSw
        go_simp
        try with_reducible rfl
      try simp only [Act.put, List.setIfInBounds_toArray, List.set_cons_zero, List.set_cons_succ]
      refine wpAnyH_take (i := 5) (oi := ⟨some 64, _, _, _, _, _⟩) (v := ?vz17_6) rfl (by kernel_rfl) (by kernel_rfl) (by kernel_rfl) (fun _ _ _ h => h) (Or.inl ⟨by rfl, ?yz17_6⟩) S_17.out ?rz17_6
      case yz17_6 =>
        rintro w' hSw
        go_simp
        try with_reducible rfl
      try simp only [Act.put, List.setIfInBounds_toArray, List.set_cons_zero, List.set_cons_succ]
      refine wpAnyH_take (i := 6) (oi := ⟨some 65, _, _, _, _, _⟩) (v := ?vz17_7) rfl (by kernel_rfl) (by kernel_rfl) (by kernel_rfl) (fun _ _ _ h => h) (Or.inl ⟨by rfl, ?yz17_7⟩) S_17.out ?rz17_7
      case yz17_7 =>
        rintro w' hSw
        go_simp
        try with_reducible rfl
      try simp only [Act.put, List.setIfInBounds_toArray, List.set_cons_zero, List.set_cons_succ]
      refine wpAnyH_take (i := 7) (oi := ⟨some 66, _, _, _, _, _⟩) (v := undef) rfl (by kernel_rfl) (by kernel_rfl) (by kernel_rfl) (fun _ _ _ h => h) (Or.inr ⟨by rfl, rfl⟩) S_17.out ?rz17_8
      try simp only [Act.put, List.setIfInBounds_toArray, List.set_cons_zero, List.set_cons_succ]
      refine wpAnyH_take (i := 8) (oi := ⟨some 67, _, _, _, _, _⟩) (v := undef) rfl (by kernel_rfl) (by kernel_rfl) (by kernel_rfl) (fun _ _ _ h => h) (Or.inr ⟨by rfl, rfl⟩) S_17.out ?rz17_9
      try simp only [Act.put, List.setIfInBounds_toArray, List.set_cons_zero, List.set_cons_succ]
      refine wpAnyH_take (i := 9) (oi := ⟨some 68, _, _, _, _, _⟩) (v := undef) rfl (by kernel_rfl) (by kernel_rfl) (by kernel_rfl) (fun _ _ _ h => h) (Or.inr ⟨by rfl, rfl⟩) S_17.out ?rz17_10
      try simp only [Act.put, List.setIfInBounds_toArray, List.set_cons_zero, List.set_cons_succ]
      refine wpAnyH_take (i := 10) (oi := ⟨some 69, _, _, _, _, _⟩) (v := undef) rfl (by kernel_rfl) (by kernel_rfl) (by kernel_rfl) (fun _ _ _ h => h) (Or.inr ⟨by rfl, rfl⟩) S_17.out ?rz17_11
      try simp only [Act.put, List.setIfInBounds_toArray, List.set_cons_zero, List.set_cons_succ]
      refine wpAnyH_take (i := 11) (oi := ⟨some 70, _, _, _, _, _⟩) (v := undef) rfl (by kernel_rfl) (by kernel_rfl) (by kernel_rfl) (fun _ _ _ h => h) (Or.inr ⟨by rfl, rfl⟩) S_17.out ?rz17_12
      try simp only [Act.put, List.setIfInBounds_toArray, List.set_cons_zero, List.set_cons_succ]
      refine wpAnyH_take (i := 12) (oi := ⟨some 71, _, _, _, _, _⟩) (v := undef) rfl (by kernel_rfl) (by kernel_rfl) (by kernel_rfl) (fun _ _ _ h => h) (Or.inr ⟨by rfl, rfl⟩) S_17.out ?rz17_13
      try simp only [Act.put, List.setIfInBounds_toArray, List.set_cons_zero, List.set_cons_succ]
      refine wpAnyH_take (i := 13) (oi := ⟨some 72, _, _, _, _, _⟩) (v := undef) rfl (by kernel_rfl) (by kernel_rfl) (by kernel_rfl) (fun _ _ _ h => h) (Or.inr ⟨by rfl, rfl⟩) S_17.out ?rz17_14
      try simp only [Act.put, List.setIfInBounds_toArray, List.set_cons_zero, List.set_cons_succ]
      refine wpAnyH_take (i := 14) (oi := ⟨some 73, _, _, _, _, _⟩) (v := ?vz17_15) rfl (by kernel_rfl) (by kernel_rfl) (by kernel_rfl) (fun _ _ _ h => h) (Or.inl ⟨by rfl, ?yz17_15⟩) S_17.out ?rz17_15
      case yz17_15 =>
        rintro w' hSw
        go_simp
        try with_reducible rfl
      try simp only [Act.put, List.setIfInBounds_toArray, List.set_cons_zero, List.set_cons_succ]
      refine wpAnyH_take (i := 15) (oi := ⟨some 6, _, _, _, _, _⟩) (v := ?vz17_16) rfl (by kernel_rfl) (by kernel_rfl) (by kernel_rfl) (fun _ _ _ h => h) (Or.inl ⟨by rfl, ?yz17_16⟩) S_17.out ?rz17_16
      case yz17_16 =>
        rintro w' hSw
        go_simp
        try with_reducible rfl
      try simp only [Act.put, List.setIfInBounds_toArray, List.set_cons_zero, List.set_cons_succ]
      refine wpAnyH_done (by kernel_rfl) ?_ _
      have RA_18 := Lib.hid (RA_14.out.below S_17.out RA_14.out.lt)
      have RB_18 := Lib.hid (RB_14.out.below S_17.out RB_14.out.lt)
      have RC_18 := Lib.hid (RC_14.out.below S_17.out RC_14.out.lt)
      have RX_18 := Lib.hid (RX_14.out.below S_17.out RX_14.out.lt)
      have RY_18 := Lib.hid (RY_14.out.below S_17.out RY_14.out.lt)
      have B_18 := Lib.hid (B_14.out.trans (S_17.out.mono B_14.out.size))
      clear S_17 RA_14 RB_14 RC_14 RX_14 RY_14 B_14
      go_wp2
      go_ret
      exact ⟨rfl, B_18.out⟩
    · refine wp_region_held_drew (S := fun w' => Below V14.heap.size V14 w') (by kernel_rfl) (Below.refl _ _).drew (fun hHeld => ?_)
      have S_19 := Lib.hid hHeld
      clear hHeld
      generalize V14.drew = D19 at S_19 ⊢
      refine wpAnyH_take (i := 0) (oi := ⟨some 59, _, _, _, _, _⟩) (v := ?vz19_1) rfl (by kernel_rfl) (by kernel_rfl) (by kernel_rfl) (fun _ _ _ h => h) (Or.inl ⟨by rfl, ?yz19_1⟩) S_19.out ?rz19_1
      case yz19_1 =>
        rintro w' hSw
        go_simp
        try with_reducible rfl
      try simp only [Act.put, List.setIfInBounds_toArray, List.set_cons_zero, List.set_cons_succ]
      refine wpAnyH_take (i := 1) (oi := ⟨some 60, _, _, _, _, _⟩) (v := ?vz19_2) rfl (by kernel_rfl) (by kernel_rfl) (by kernel_rfl) (fun _ _ _ h => h) (Or.inl ⟨by rfl, ?yz19_2⟩) S_19.out ?rz19_2
      case yz19_2 =>
        rintro w' hSw
        go_simp
        try with_reducible rfl
      try simp only [Act.put, List.setIfInBounds_toArray, List.set_cons_zero, List.set_cons_succ]
      refine wpAnyH_take (i := 2) (oi := ⟨some 61, _, _, _, _, _⟩) (v := ?vz19_3) rfl (by kernel_rfl) (by kernel_rfl) (by kernel_rfl) (fun _ _ _ h => h) (Or.inl ⟨by rfl, ?yz19_3⟩) S_19.out ?rz19_3
      case yz19_3 =>
        rintro w' hSw
        go_simp
        try with_reducible rfl
      try simp only [Act.put, List.setIfInBounds_toArray, List.set_cons_zero, List.set_cons_succ]
      refine wpAnyH_take (i := 3) (oi := ⟨some 62, _, _, _, _, _⟩) (v := ?vz19_4) rfl (by kernel_rfl) (by kernel_rfl) (by kernel_rfl) (fun _ _ _ h => h) (Or.inl ⟨by rfl, ?yz19_4⟩) S_19.out ?rz19_4
      case yz19_4 =>
        rintro w' hSw
        go_simp
        try with_reducible rfl
      try simp only [Act.put, List.setIfInBounds_toArray, List.set_cons_zero, List.set_cons_succ]
      refine wpAnyH_take (i := 4) (oi := ⟨some 63, _, _, _, _, _⟩) (v := ?vz19_5) rfl (by kernel_rfl) (by kernel_rfl) (by kernel_rfl) (fun _ _ _ h => h) (Or.inl ⟨by rfl, ?yz19_5⟩) S_19.out ?rz19_5
      case yz19_5 =>
        rintro w' hSw
        go_simp
        try with_reducible rfl
      try simp only [Act.put, List.setIfInBounds_toArray, List.set_cons_zero, List.set_cons_succ]
      refine wpAnyH_take (i := 5) (oi := ⟨some 64, _, _, _, _, _⟩) (v := ?vz19_6) rfl (by kernel_rfl) (by kernel_rfl) (by kernel_rfl) (fun _ _ _ h => h) (Or.inl ⟨by rfl, ?yz19_6⟩) S_19.out ?rz19_6
      case yz19_6 =>
        rintro w' hSw
        go_simp
        try with_reducible rfl
      try simp only [Act.put, List.setIfInBounds_toArray, List.set_cons_zero, List.set_cons_succ]
      refine wpAnyH_take (i := 6) (oi := ⟨some 65, _, _, _, _, _⟩) (v := ?vz19_7) rfl (by kernel_rfl) (by kernel_rfl) (by kernel_rfl) (fun _ _ _ h => h) (Or.inl ⟨by rfl, ?yz19_7⟩) S_19.out ?rz19_7
      case yz19_7 =>
        rintro w' hSw
        go_simp
        try with_reducible rfl
      try simp only [Act.put, List.setIfInBounds_toArray, List.set_cons_zero, List.set_cons_succ]
      refine wpAnyH_take (i := 7) (oi := ⟨some 66, _, _, _, _, _⟩) (v := ?vz19_8) rfl (by kernel_rfl) (by kernel_rfl) (by kernel_rfl) (fun _ _ _ h => h) (Or.inl ⟨by rfl, ?yz19_8⟩) S_19.out ?rz19_8
      case yz19_8 =>
        rintro w' hSw
        have k0 := (RX_14.out.below hSw RX_14.out.lt).cell 0
        have k1 := (RX_14.out.below hSw RX_14.out.lt).cell 1
        simp at k0 k1
        go_simp
        try with_reducible rfl
      try simp only [Act.put, List.setIfInBounds_toArray, List.set_cons_zero, List.set_cons_succ]
      refine wpAnyH_take (i := 8) (oi := ⟨some 67, _, _, _, _, _⟩) (v := ?vz19_9) rfl (by kernel_rfl) (by kernel_rfl) (by kernel_rfl) (fun _ _ _ h => h) (Or.inl ⟨by rfl, ?yz19_9⟩) S_19.out ?rz19_9
      case yz19_9 =>
        rintro w' hSw
        have k0 := (RY_14.out.below hSw RY_14.out.lt).cell 0
        have k1 := (RY_14.out.below hSw RY_14.out.lt).cell 1
        simp at k0 k1
        go_simp
        try with_reducible rfl
      try simp only [Act.put, List.setIfInBounds_toArray, List.set_cons_zero, List.set_cons_succ]
      refine wpAnyH_take (i := 10) (oi := ⟨some 69, _, _, _, _, _⟩) (v := ?vz19_10) rfl (by kernel_rfl) (by kernel_rfl) (by kernel_rfl) (fun _ _ _ h => h) (Or.inl ⟨by rfl, ?yz19_10⟩) S_19.out ?rz19_10
      case yz19_10 =>
        rintro w' hSw
        have k0 := (RA_14.out.below hSw RA_14.out.lt).cell 0
        have k1 := (RA_14.out.below hSw RA_14.out.lt).cell 1
        simp at k0 k1
        go_simp
        try with_reducible rfl
      try simp only [Act.put, List.setIfInBounds_toArray, List.set_cons_zero, List.set_cons_succ]
      refine wpAnyH_take (i := 11) (oi := ⟨some 70, _, _, _, _, _⟩) (v := ?vz19_11) rfl (by kernel_rfl) (by kernel_rfl) (by kernel_rfl) (fun _ _ _ h => h) (Or.inl ⟨by rfl, ?yz19_11⟩) S_19.out ?rz19_11
      case yz19_11 =>
        rintro w' hSw
        have k0 := (RB_14.out.below hSw RB_14.out.lt).cell 0
        have k1 := (RB_14.out.below hSw RB_14.out.lt).cell 1
        simp at k0 k1
        go_simp
        try with_reducible rfl
      try simp only [Act.put, List.setIfInBounds_toArray, List.set_cons_zero, List.set_cons_succ]
      refine wpAnyH_ready (rs := [9]) (by kernel_rfl) (by simp) ?_
      refine (AllReadyH.cons rfl (fun K hK => ?_) AllReadyH.nil)
      go_simp
      refine (HXY.out _).mono ?_
      rintro e Xz19_12 ⟨rfl, hb⟩
      have Sz19_12 := Lib.hid (S_19.out.trans (hb.mono S_19.out.size))
      clear hb S_19
      refine hK _ _ Sz19_12.out (fun _ => ?_)
      clear hK K
      try simp only [Act.put, List.setIfInBounds_toArray, List.set_cons_zero, List.set_cons_succ]
      refine wpAnyH_ready (rs := [12]) (by kernel_rfl) (by simp) ?_
      refine (AllReadyH.cons rfl (fun K hK => ?_) AllReadyH.nil)
      go_simp
      refine (HAB.out _).mono ?_
      rintro e Xz19_13 ⟨rfl, hb⟩
      have Sz19_13 := Lib.hid (Sz19_12.out.trans (hb.mono Sz19_12.out.size))
      clear hb Sz19_12
      refine hK _ _ Sz19_13.out (fun _ => ?_)
      clear hK K
      try simp only [Act.put, List.setIfInBounds_toArray, List.set_cons_zero, List.set_cons_succ]
      refine wpAnyH_take (i := 13) (oi := ⟨some 72, _, _, _, _, _⟩) (v := ?vz19_14) rfl (by kernel_rfl) (by kernel_rfl) (by kernel_rfl) (fun _ _ _ h => h) (Or.inl ⟨by rfl, ?yz19_14⟩) Sz19_13.out ?rz19_14
      case yz19_14 =>
        rintro w' hSw
        go_simp
        try with_reducible rfl
      try simp only [Act.put, List.setIfInBounds_toArray, List.set_cons_zero, List.set_cons_succ]
      refine wpAnyH_take (i := 14) (oi := ⟨some 73, _, _, _, _, _⟩) (v := ?vz19_15) rfl (by kernel_rfl) (by kernel_rfl) (by kernel_rfl) (fun _ _ _ h => h) (Or.inl ⟨by rfl, ?yz19_15⟩) Sz19_13.out ?rz19_15
      case yz19_15 =>
        rintro w' hSw
        go_simp
        try with_reducible rfl
      try simp only [Act.put, List.setIfInBounds_toArray, List.set_cons_zero, List.set_cons_succ]
      refine wpAnyH_take (i := 15) (oi := ⟨some 6, _, _, _, _, _⟩) (v := ?vz19_16) rfl (by kernel_rfl) (by kernel_rfl) (by kernel_rfl) (fun _ _ _ h => h) (Or.inl ⟨by rfl, ?yz19_16⟩) Sz19_13.out ?rz19_16
      case yz19_16 =>
        rintro w' hSw
        go_simp
        try with_reducible rfl
      try simp only [Act.put, List.setIfInBounds_toArray, List.set_cons_zero, List.set_cons_succ]
      refine wpAnyH_done (by kernel_rfl) ?_ _
      have RA_20 := Lib.hid (RA_14.out.below Sz19_13.out RA_14.out.lt)
      have RB_20 := Lib.hid (RB_14.out.below Sz19_13.out RB_14.out.lt)
      have RC_20 := Lib.hid (RC_14.out.below Sz19_13.out RC_14.out.lt)
      have RX_20 := Lib.hid (RX_14.out.below Sz19_13.out RX_14.out.lt)
      have RY_20 := Lib.hid (RY_14.out.below Sz19_13.out RY_14.out.lt)
      have B_20 := Lib.hid (B_14.out.trans (Sz19_13.out.mono B_14.out.size))
      clear Sz19_13 RA_14 RB_14 RC_14 RX_14 RY_14 B_14
      go_wp2
      go_ret
      exact ⟨rfl, B_20.out⟩
  · have c0_0 := RA_8.out.cell 0
    have c0_1 := RA_8.out.cell 1
    simp at c0_0 c0_1
    have l0 := RA_8.out.lt
    have c1_0 := RB_8.out.cell 0
    have c1_1 := RB_8.out.cell 1
    simp at c1_0 c1_1
    have l1 := RB_8.out.lt
    have c2_0 := RC_8.out.cell 0
    have c2_1 := RC_8.out.cell 1
    simp at c2_0 c2_1
    have l2 := RC_8.out.lt
    go_wp2_with fail
    refine (HAC.out _).mono ?_
    rintro e W21 ⟨rfl, hb⟩
    clear c0_0 c0_1 l0 c1_0 c1_1 l1 c2_0 c2_1 l2
    have RA_22 := Lib.hid (RA_8.out.below hb RA_8.out.lt)
    have RB_22 := Lib.hid (RB_8.out.below hb RB_8.out.lt)
    have RC_22 := Lib.hid (RC_8.out.below hb RC_8.out.lt)
    have B_22 := Lib.hid (B_8.out.trans (hb.mono B_8.out.size))
    clear hb RA_8 RB_8 RC_8 B_8
    have c0_0 := RA_22.out.cell 0
    have c0_1 := RA_22.out.cell 1
    simp at c0_0 c0_1
    have l0 := RA_22.out.lt
    have c1_0 := RB_22.out.cell 0
    have c1_1 := RB_22.out.cell 1
    simp at c1_0 c1_1
    have l1 := RB_22.out.lt
    have c2_0 := RC_22.out.cell 0
    have c2_1 := RC_22.out.cell 1
    simp at c2_0 c2_1
    have l2 := RC_22.out.lt
    go_wp2_with fail
    refine (HS.out _).mono ?_
    rintro e W23 ⟨rfl, hb⟩
    clear c0_0 c0_1 l0 c1_0 c1_1 l1 c2_0 c2_1 l2
    have RA_24 := Lib.hid (RA_22.out.below hb RA_22.out.lt)
    have RB_24 := Lib.hid (RB_22.out.below hb RB_22.out.lt)
    have RC_24 := Lib.hid (RC_22.out.below hb RC_22.out.lt)
    have B_24 := Lib.hid (B_22.out.trans (hb.mono B_22.out.size))
    clear hb RA_22 RB_22 RC_22 B_22
    have RA_25 := Lib.hid (RA_24.out.alloc (.cells #[.int .u64 (xh : Int), .int .u64 (xl : Int)] 25))
    have RB_25 := Lib.hid (RB_24.out.alloc (.cells #[.int .u64 (xh : Int), .int .u64 (xl : Int)] 25))
    have RC_25 := Lib.hid (RC_24.out.alloc (.cells #[.int .u64 (xh : Int), .int .u64 (xl : Int)] 25))
    have RX_25 := Lib.hid (Row.new W23 25 [.int .u64 (xh : Int), .int .u64 (xl : Int)])
    have B_25 := Lib.hid (B_24.out.alloc B_24.out.size (.cells #[.int .u64 (xh : Int), .int .u64 (xl : Int)] 25))
    go_upto_region 8 with fail
    obtain ⟨gRX, hgRX⟩ : ∃ g, g = W23.heap.size := ⟨_, rfl⟩
    clear RA_24 RB_24 RC_24 B_24
    rw [← hgRX] at RX_25 ⊢
    clear hgRX
    generalize W23.alloc (.cells #[.int .u64 (xh : Int), .int .u64 (xl : Int)] 25) = V25 at RA_25 RB_25 RC_25 RX_25 B_25 ⊢
    have c0_0 := RA_25.out.cell 0
    have c0_1 := RA_25.out.cell 1
    simp at c0_0 c0_1
    have l0 := RA_25.out.lt
    have c1_0 := RB_25.out.cell 0
    have c1_1 := RB_25.out.cell 1
    simp at c1_0 c1_1
    have l1 := RB_25.out.lt
    have c2_0 := RC_25.out.cell 0
    have c2_1 := RC_25.out.cell 1
    simp at c2_0 c2_1
    have l2 := RC_25.out.lt
    have c3_0 := RX_25.out.cell 0
    have c3_1 := RX_25.out.cell 1
    simp at c3_0 c3_1
    have l3 := RX_25.out.lt
    go_wp2_with fail
    refine (HT.out _).mono ?_
    rintro e W26 ⟨rfl, hb⟩
    clear c0_0 c0_1 l0 c1_0 c1_1 l1 c2_0 c2_1 l2 c3_0 c3_1 l3
    have RA_27 := Lib.hid (RA_25.out.below hb RA_25.out.lt)
    have RB_27 := Lib.hid (RB_25.out.below hb RB_25.out.lt)
    have RC_27 := Lib.hid (RC_25.out.below hb RC_25.out.lt)
    have RX_27 := Lib.hid (RX_25.out.below hb RX_25.out.lt)
    have B_27 := Lib.hid (B_25.out.trans (hb.mono B_25.out.size))
    clear hb RA_25 RB_25 RC_25 RX_25 B_25
    have RA_28 := Lib.hid (RA_27.out.alloc (.cells #[.int .u64 (yh : Int), .int .u64 (yl : Int)] 25))
    have RB_28 := Lib.hid (RB_27.out.alloc (.cells #[.int .u64 (yh : Int), .int .u64 (yl : Int)] 25))
    have RC_28 := Lib.hid (RC_27.out.alloc (.cells #[.int .u64 (yh : Int), .int .u64 (yl : Int)] 25))
    have RX_28 := Lib.hid (RX_27.out.alloc (.cells #[.int .u64 (yh : Int), .int .u64 (yl : Int)] 25))
    have RY_28 := Lib.hid (Row.new W26 25 [.int .u64 (yh : Int), .int .u64 (yl : Int)])
    have B_28 := Lib.hid (B_27.out.alloc B_27.out.size (.cells #[.int .u64 (yh : Int), .int .u64 (yl : Int)] 25))
    go_upto_region 9 with fail
    obtain ⟨gRY, hgRY⟩ : ∃ g, g = W26.heap.size := ⟨_, rfl⟩
    clear RA_27 RB_27 RC_27 RX_27 B_27
    rw [← hgRY] at RY_28 ⊢
    clear hgRY
    generalize W26.alloc (.cells #[.int .u64 (yh : Int), .int .u64 (yl : Int)] 25) = V28 at RA_28 RB_28 RC_28 RX_28 RY_28 B_28 ⊢
    rcases hfl with rfl | ⟨rfl, rfl⟩ | ⟨rfl, rfl, rfl⟩
    · refine wp_region_held_drew (S := fun w' => Below V28.heap.size V28 w') (by kernel_rfl) (Below.refl _ _).drew (fun hHeld => ?_)
      have S_29 := Lib.hid hHeld
      clear hHeld
      generalize V28.drew = D29 at S_29 ⊢
      refine wpAnyH_take (i := 0) (oi := ⟨some 59, _, _, _, _, _⟩) (v := ?vz29_1) rfl (by kernel_rfl) (by kernel_rfl) (by kernel_rfl) (fun _ _ _ h => h) (Or.inl ⟨by rfl, ?yz29_1⟩) S_29.out ?rz29_1
      case yz29_1 =>
        rintro w' hSw
        go_simp
        try with_reducible rfl
      try simp only [Act.put, List.setIfInBounds_toArray, List.set_cons_zero, List.set_cons_succ]
      refine wpAnyH_take (i := 1) (oi := ⟨some 60, _, _, _, _, _⟩) (v := ?vz29_2) rfl (by kernel_rfl) (by kernel_rfl) (by kernel_rfl) (fun _ _ _ h => h) (Or.inl ⟨by rfl, ?yz29_2⟩) S_29.out ?rz29_2
      case yz29_2 =>
        rintro w' hSw
        go_simp
        try with_reducible rfl
      try simp only [Act.put, List.setIfInBounds_toArray, List.set_cons_zero, List.set_cons_succ]
      refine wpAnyH_take (i := 2) (oi := ⟨some 61, _, _, _, _, _⟩) (v := ?vz29_3) rfl (by kernel_rfl) (by kernel_rfl) (by kernel_rfl) (fun _ _ _ h => h) (Or.inl ⟨by rfl, ?yz29_3⟩) S_29.out ?rz29_3
      case yz29_3 =>
        rintro w' hSw
        go_simp
        try with_reducible rfl
      try simp only [Act.put, List.setIfInBounds_toArray, List.set_cons_zero, List.set_cons_succ]
      refine wpAnyH_take (i := 3) (oi := ⟨some 62, _, _, _, _, _⟩) (v := undef) rfl (by kernel_rfl) (by kernel_rfl) (by kernel_rfl) (fun _ _ _ h => h) (Or.inr ⟨by rfl, rfl⟩) S_29.out ?rz29_4
      try simp only [Act.put, List.setIfInBounds_toArray, List.set_cons_zero, List.set_cons_succ]
      refine wpAnyH_take (i := 4) (oi := ⟨some 63, _, _, _, _, _⟩) (v := undef) rfl (by kernel_rfl) (by kernel_rfl) (by kernel_rfl) (fun _ _ _ h => h) (Or.inr ⟨by rfl, rfl⟩) S_29.out ?rz29_5
      try simp only [Act.put, List.setIfInBounds_toArray, List.set_cons_zero, List.set_cons_succ]
      refine wpAnyH_take (i := 5) (oi := ⟨some 64, _, _, _, _, _⟩) (v := ?vz29_6) rfl (by kernel_rfl) (by kernel_rfl) (by kernel_rfl) (fun _ _ _ h => h) (Or.inl ⟨by rfl, ?yz29_6⟩) S_29.out ?rz29_6
      case yz29_6 =>
        rintro w' hSw
        go_simp
        try with_reducible rfl
      try simp only [Act.put, List.setIfInBounds_toArray, List.set_cons_zero, List.set_cons_succ]
      refine wpAnyH_take (i := 6) (oi := ⟨some 65, _, _, _, _, _⟩) (v := ?vz29_7) rfl (by kernel_rfl) (by kernel_rfl) (by kernel_rfl) (fun _ _ _ h => h) (Or.inl ⟨by rfl, ?yz29_7⟩) S_29.out ?rz29_7
      case yz29_7 =>
        rintro w' hSw
        go_simp
        try with_reducible rfl
      try simp only [Act.put, List.setIfInBounds_toArray, List.set_cons_zero, List.set_cons_succ]
      refine wpAnyH_take (i := 7) (oi := ⟨some 66, _, _, _, _, _⟩) (v := undef) rfl (by kernel_rfl) (by kernel_rfl) (by kernel_rfl) (fun _ _ _ h => h) (Or.inr ⟨by rfl, rfl⟩) S_29.out ?rz29_8
      try simp only [Act.put, List.setIfInBounds_toArray, List.set_cons_zero, List.set_cons_succ]
      refine wpAnyH_take (i := 8) (oi := ⟨some 67, _, _, _, _, _⟩) (v := undef) rfl (by kernel_rfl) (by kernel_rfl) (by kernel_rfl) (fun _ _ _ h => h) (Or.inr ⟨by rfl, rfl⟩) S_29.out ?rz29_9
      try simp only [Act.put, List.setIfInBounds_toArray, List.set_cons_zero, List.set_cons_succ]
      refine wpAnyH_take (i := 9) (oi := ⟨some 68, _, _, _, _, _⟩) (v := undef) rfl (by kernel_rfl) (by kernel_rfl) (by kernel_rfl) (fun _ _ _ h => h) (Or.inr ⟨by rfl, rfl⟩) S_29.out ?rz29_10
      try simp only [Act.put, List.setIfInBounds_toArray, List.set_cons_zero, List.set_cons_succ]
      refine wpAnyH_take (i := 10) (oi := ⟨some 69, _, _, _, _, _⟩) (v := undef) rfl (by kernel_rfl) (by kernel_rfl) (by kernel_rfl) (fun _ _ _ h => h) (Or.inr ⟨by rfl, rfl⟩) S_29.out ?rz29_11
      try simp only [Act.put, List.setIfInBounds_toArray, List.set_cons_zero, List.set_cons_succ]
      refine wpAnyH_take (i := 11) (oi := ⟨some 70, _, _, _, _, _⟩) (v := undef) rfl (by kernel_rfl) (by kernel_rfl) (by kernel_rfl) (fun _ _ _ h => h) (Or.inr ⟨by rfl, rfl⟩) S_29.out ?rz29_12
      try simp only [Act.put, List.setIfInBounds_toArray, List.set_cons_zero, List.set_cons_succ]
      refine wpAnyH_take (i := 12) (oi := ⟨some 71, _, _, _, _, _⟩) (v := undef) rfl (by kernel_rfl) (by kernel_rfl) (by kernel_rfl) (fun _ _ _ h => h) (Or.inr ⟨by rfl, rfl⟩) S_29.out ?rz29_13
      try simp only [Act.put, List.setIfInBounds_toArray, List.set_cons_zero, List.set_cons_succ]
      refine wpAnyH_take (i := 13) (oi := ⟨some 72, _, _, _, _, _⟩) (v := undef) rfl (by kernel_rfl) (by kernel_rfl) (by kernel_rfl) (fun _ _ _ h => h) (Or.inr ⟨by rfl, rfl⟩) S_29.out ?rz29_14
      try simp only [Act.put, List.setIfInBounds_toArray, List.set_cons_zero, List.set_cons_succ]
      refine wpAnyH_take (i := 14) (oi := ⟨some 73, _, _, _, _, _⟩) (v := ?vz29_15) rfl (by kernel_rfl) (by kernel_rfl) (by kernel_rfl) (fun _ _ _ h => h) (Or.inl ⟨by rfl, ?yz29_15⟩) S_29.out ?rz29_15
      case yz29_15 =>
        rintro w' hSw
        go_simp
        try with_reducible rfl
      try simp only [Act.put, List.setIfInBounds_toArray, List.set_cons_zero, List.set_cons_succ]
      refine wpAnyH_take (i := 15) (oi := ⟨some 6, _, _, _, _, _⟩) (v := ?vz29_16) rfl (by kernel_rfl) (by kernel_rfl) (by kernel_rfl) (fun _ _ _ h => h) (Or.inl ⟨by rfl, ?yz29_16⟩) S_29.out ?rz29_16
      case yz29_16 =>
        rintro w' hSw
        go_simp
        try with_reducible rfl
      try simp only [Act.put, List.setIfInBounds_toArray, List.set_cons_zero, List.set_cons_succ]
      refine wpAnyH_done (by kernel_rfl) ?_ _
      have RA_30 := Lib.hid (RA_28.out.below S_29.out RA_28.out.lt)
      have RB_30 := Lib.hid (RB_28.out.below S_29.out RB_28.out.lt)
      have RC_30 := Lib.hid (RC_28.out.below S_29.out RC_28.out.lt)
      have RX_30 := Lib.hid (RX_28.out.below S_29.out RX_28.out.lt)
      have RY_30 := Lib.hid (RY_28.out.below S_29.out RY_28.out.lt)
      have B_30 := Lib.hid (B_28.out.trans (S_29.out.mono B_28.out.size))
      clear S_29 RA_28 RB_28 RC_28 RX_28 RY_28 B_28
      go_wp2
      go_ret
      exact ⟨rfl, B_30.out⟩
    · refine wp_region_held_drew (S := fun w' => Below V28.heap.size V28 w') (by kernel_rfl) (Below.refl _ _).drew (fun hHeld => ?_)
      have S_31 := Lib.hid hHeld
      clear hHeld
      generalize V28.drew = D31 at S_31 ⊢
      refine wpAnyH_take (i := 0) (oi := ⟨some 59, _, _, _, _, _⟩) (v := ?vz31_1) rfl (by kernel_rfl) (by kernel_rfl) (by kernel_rfl) (fun _ _ _ h => h) (Or.inl ⟨by rfl, ?yz31_1⟩) S_31.out ?rz31_1
      case yz31_1 =>
        rintro w' hSw
        go_simp
        try with_reducible rfl
      try simp only [Act.put, List.setIfInBounds_toArray, List.set_cons_zero, List.set_cons_succ]
      refine wpAnyH_take (i := 1) (oi := ⟨some 60, _, _, _, _, _⟩) (v := ?vz31_2) rfl (by kernel_rfl) (by kernel_rfl) (by kernel_rfl) (fun _ _ _ h => h) (Or.inl ⟨by rfl, ?yz31_2⟩) S_31.out ?rz31_2
      case yz31_2 =>
        rintro w' hSw
        go_simp
        try with_reducible rfl
      try simp only [Act.put, List.setIfInBounds_toArray, List.set_cons_zero, List.set_cons_succ]
      refine wpAnyH_take (i := 2) (oi := ⟨some 61, _, _, _, _, _⟩) (v := ?vz31_3) rfl (by kernel_rfl) (by kernel_rfl) (by kernel_rfl) (fun _ _ _ h => h) (Or.inl ⟨by rfl, ?yz31_3⟩) S_31.out ?rz31_3
      case yz31_3 =>
        rintro w' hSw
        go_simp
        try with_reducible rfl
      try simp only [Act.put, List.setIfInBounds_toArray, List.set_cons_zero, List.set_cons_succ]
      refine wpAnyH_take (i := 3) (oi := ⟨some 62, _, _, _, _, _⟩) (v := ?vz31_4) rfl (by kernel_rfl) (by kernel_rfl) (by kernel_rfl) (fun _ _ _ h => h) (Or.inl ⟨by rfl, ?yz31_4⟩) S_31.out ?rz31_4
      case yz31_4 =>
        rintro w' hSw
        go_simp
        try with_reducible rfl
      try simp only [Act.put, List.setIfInBounds_toArray, List.set_cons_zero, List.set_cons_succ]
      refine wpAnyH_take (i := 4) (oi := ⟨some 63, _, _, _, _, _⟩) (v := ?vz31_5) rfl (by kernel_rfl) (by kernel_rfl) (by kernel_rfl) (fun _ _ _ h => h) (Or.inl ⟨by rfl, ?yz31_5⟩) S_31.out ?rz31_5
      case yz31_5 =>
        rintro w' hSw
        go_simp
        try with_reducible rfl
      try simp only [Act.put, List.setIfInBounds_toArray, List.set_cons_zero, List.set_cons_succ]
      refine wpAnyH_take (i := 5) (oi := ⟨some 64, _, _, _, _, _⟩) (v := ?vz31_6) rfl (by kernel_rfl) (by kernel_rfl) (by kernel_rfl) (fun _ _ _ h => h) (Or.inl ⟨by rfl, ?yz31_6⟩) S_31.out ?rz31_6
      case yz31_6 =>
        rintro w' hSw
        go_simp
        try with_reducible rfl
      try simp only [Act.put, List.setIfInBounds_toArray, List.set_cons_zero, List.set_cons_succ]
      refine wpAnyH_take (i := 6) (oi := ⟨some 65, _, _, _, _, _⟩) (v := ?vz31_7) rfl (by kernel_rfl) (by kernel_rfl) (by kernel_rfl) (fun _ _ _ h => h) (Or.inl ⟨by rfl, ?yz31_7⟩) S_31.out ?rz31_7
      case yz31_7 =>
        rintro w' hSw
        go_simp
        try with_reducible rfl
      try simp only [Act.put, List.setIfInBounds_toArray, List.set_cons_zero, List.set_cons_succ]
      refine wpAnyH_take (i := 7) (oi := ⟨some 66, _, _, _, _, _⟩) (v := undef) rfl (by kernel_rfl) (by kernel_rfl) (by kernel_rfl) (fun _ _ _ h => h) (Or.inr ⟨by rfl, rfl⟩) S_31.out ?rz31_8
      try simp only [Act.put, List.setIfInBounds_toArray, List.set_cons_zero, List.set_cons_succ]
      refine wpAnyH_take (i := 8) (oi := ⟨some 67, _, _, _, _, _⟩) (v := undef) rfl (by kernel_rfl) (by kernel_rfl) (by kernel_rfl) (fun _ _ _ h => h) (Or.inr ⟨by rfl, rfl⟩) S_31.out ?rz31_9
      try simp only [Act.put, List.setIfInBounds_toArray, List.set_cons_zero, List.set_cons_succ]
      refine wpAnyH_take (i := 9) (oi := ⟨some 68, _, _, _, _, _⟩) (v := undef) rfl (by kernel_rfl) (by kernel_rfl) (by kernel_rfl) (fun _ _ _ h => h) (Or.inr ⟨by rfl, rfl⟩) S_31.out ?rz31_10
      try simp only [Act.put, List.setIfInBounds_toArray, List.set_cons_zero, List.set_cons_succ]
      refine wpAnyH_take (i := 10) (oi := ⟨some 69, _, _, _, _, _⟩) (v := undef) rfl (by kernel_rfl) (by kernel_rfl) (by kernel_rfl) (fun _ _ _ h => h) (Or.inr ⟨by rfl, rfl⟩) S_31.out ?rz31_11
      try simp only [Act.put, List.setIfInBounds_toArray, List.set_cons_zero, List.set_cons_succ]
      refine wpAnyH_take (i := 11) (oi := ⟨some 70, _, _, _, _, _⟩) (v := undef) rfl (by kernel_rfl) (by kernel_rfl) (by kernel_rfl) (fun _ _ _ h => h) (Or.inr ⟨by rfl, rfl⟩) S_31.out ?rz31_12
      try simp only [Act.put, List.setIfInBounds_toArray, List.set_cons_zero, List.set_cons_succ]
      refine wpAnyH_take (i := 12) (oi := ⟨some 71, _, _, _, _, _⟩) (v := undef) rfl (by kernel_rfl) (by kernel_rfl) (by kernel_rfl) (fun _ _ _ h => h) (Or.inr ⟨by rfl, rfl⟩) S_31.out ?rz31_13
      try simp only [Act.put, List.setIfInBounds_toArray, List.set_cons_zero, List.set_cons_succ]
      refine wpAnyH_take (i := 13) (oi := ⟨some 72, _, _, _, _, _⟩) (v := undef) rfl (by kernel_rfl) (by kernel_rfl) (by kernel_rfl) (fun _ _ _ h => h) (Or.inr ⟨by rfl, rfl⟩) S_31.out ?rz31_14
      try simp only [Act.put, List.setIfInBounds_toArray, List.set_cons_zero, List.set_cons_succ]
      refine wpAnyH_take (i := 14) (oi := ⟨some 73, _, _, _, _, _⟩) (v := ?vz31_15) rfl (by kernel_rfl) (by kernel_rfl) (by kernel_rfl) (fun _ _ _ h => h) (Or.inl ⟨by rfl, ?yz31_15⟩) S_31.out ?rz31_15
      case yz31_15 =>
        rintro w' hSw
        go_simp
        try with_reducible rfl
      try simp only [Act.put, List.setIfInBounds_toArray, List.set_cons_zero, List.set_cons_succ]
      refine wpAnyH_take (i := 15) (oi := ⟨some 6, _, _, _, _, _⟩) (v := ?vz31_16) rfl (by kernel_rfl) (by kernel_rfl) (by kernel_rfl) (fun _ _ _ h => h) (Or.inl ⟨by rfl, ?yz31_16⟩) S_31.out ?rz31_16
      case yz31_16 =>
        rintro w' hSw
        go_simp
        try with_reducible rfl
      try simp only [Act.put, List.setIfInBounds_toArray, List.set_cons_zero, List.set_cons_succ]
      refine wpAnyH_done (by kernel_rfl) ?_ _
      have RA_32 := Lib.hid (RA_28.out.below S_31.out RA_28.out.lt)
      have RB_32 := Lib.hid (RB_28.out.below S_31.out RB_28.out.lt)
      have RC_32 := Lib.hid (RC_28.out.below S_31.out RC_28.out.lt)
      have RX_32 := Lib.hid (RX_28.out.below S_31.out RX_28.out.lt)
      have RY_32 := Lib.hid (RY_28.out.below S_31.out RY_28.out.lt)
      have B_32 := Lib.hid (B_28.out.trans (S_31.out.mono B_28.out.size))
      clear S_31 RA_28 RB_28 RC_28 RX_28 RY_28 B_28
      go_wp2
      go_ret
      exact ⟨rfl, B_32.out⟩
    · refine wp_region_held_drew (S := fun w' => Below V28.heap.size V28 w') (by kernel_rfl) (Below.refl _ _).drew (fun hHeld => ?_)
      have S_33 := Lib.hid hHeld
      clear hHeld
      generalize V28.drew = D33 at S_33 ⊢
      refine wpAnyH_take (i := 0) (oi := ⟨some 59, _, _, _, _, _⟩) (v := ?vz33_1) rfl (by kernel_rfl) (by kernel_rfl) (by kernel_rfl) (fun _ _ _ h => h) (Or.inl ⟨by rfl, ?yz33_1⟩) S_33.out ?rz33_1
      case yz33_1 =>
        rintro w' hSw
        go_simp
        try with_reducible rfl
      try simp only [Act.put, List.setIfInBounds_toArray, List.set_cons_zero, List.set_cons_succ]
      refine wpAnyH_take (i := 1) (oi := ⟨some 60, _, _, _, _, _⟩) (v := ?vz33_2) rfl (by kernel_rfl) (by kernel_rfl) (by kernel_rfl) (fun _ _ _ h => h) (Or.inl ⟨by rfl, ?yz33_2⟩) S_33.out ?rz33_2
      case yz33_2 =>
        rintro w' hSw
        go_simp
        try with_reducible rfl
      try simp only [Act.put, List.setIfInBounds_toArray, List.set_cons_zero, List.set_cons_succ]
      refine wpAnyH_take (i := 2) (oi := ⟨some 61, _, _, _, _, _⟩) (v := ?vz33_3) rfl (by kernel_rfl) (by kernel_rfl) (by kernel_rfl) (fun _ _ _ h => h) (Or.inl ⟨by rfl, ?yz33_3⟩) S_33.out ?rz33_3
      case yz33_3 =>
        rintro w' hSw
        go_simp
        try with_reducible rfl
      try simp only [Act.put, List.setIfInBounds_toArray, List.set_cons_zero, List.set_cons_succ]
      refine wpAnyH_take (i := 3) (oi := ⟨some 62, _, _, _, _, _⟩) (v := ?vz33_4) rfl (by kernel_rfl) (by kernel_rfl) (by kernel_rfl) (fun _ _ _ h => h) (Or.inl ⟨by rfl, ?yz33_4⟩) S_33.out ?rz33_4
      case yz33_4 =>
        rintro w' hSw
        go_simp
        try with_reducible rfl
      try simp only [Act.put, List.setIfInBounds_toArray, List.set_cons_zero, List.set_cons_succ]
      refine wpAnyH_take (i := 4) (oi := ⟨some 63, _, _, _, _, _⟩) (v := ?vz33_5) rfl (by kernel_rfl) (by kernel_rfl) (by kernel_rfl) (fun _ _ _ h => h) (Or.inl ⟨by rfl, ?yz33_5⟩) S_33.out ?rz33_5
      case yz33_5 =>
        rintro w' hSw
        go_simp
        try with_reducible rfl
      try simp only [Act.put, List.setIfInBounds_toArray, List.set_cons_zero, List.set_cons_succ]
      refine wpAnyH_take (i := 5) (oi := ⟨some 64, _, _, _, _, _⟩) (v := ?vz33_6) rfl (by kernel_rfl) (by kernel_rfl) (by kernel_rfl) (fun _ _ _ h => h) (Or.inl ⟨by rfl, ?yz33_6⟩) S_33.out ?rz33_6
      case yz33_6 =>
        rintro w' hSw
        go_simp
        try with_reducible rfl
      try simp only [Act.put, List.setIfInBounds_toArray, List.set_cons_zero, List.set_cons_succ]
      refine wpAnyH_take (i := 6) (oi := ⟨some 65, _, _, _, _, _⟩) (v := ?vz33_7) rfl (by kernel_rfl) (by kernel_rfl) (by kernel_rfl) (fun _ _ _ h => h) (Or.inl ⟨by rfl, ?yz33_7⟩) S_33.out ?rz33_7
      case yz33_7 =>
        rintro w' hSw
        go_simp
        try with_reducible rfl
      try simp only [Act.put, List.setIfInBounds_toArray, List.set_cons_zero, List.set_cons_succ]
      refine wpAnyH_take (i := 7) (oi := ⟨some 66, _, _, _, _, _⟩) (v := ?vz33_8) rfl (by kernel_rfl) (by kernel_rfl) (by kernel_rfl) (fun _ _ _ h => h) (Or.inl ⟨by rfl, ?yz33_8⟩) S_33.out ?rz33_8
      case yz33_8 =>
        rintro w' hSw
        have k0 := (RX_28.out.below hSw RX_28.out.lt).cell 0
        have k1 := (RX_28.out.below hSw RX_28.out.lt).cell 1
        simp at k0 k1
        go_simp
        try with_reducible rfl
      try simp only [Act.put, List.setIfInBounds_toArray, List.set_cons_zero, List.set_cons_succ]
      refine wpAnyH_take (i := 8) (oi := ⟨some 67, _, _, _, _, _⟩) (v := ?vz33_9) rfl (by kernel_rfl) (by kernel_rfl) (by kernel_rfl) (fun _ _ _ h => h) (Or.inl ⟨by rfl, ?yz33_9⟩) S_33.out ?rz33_9
      case yz33_9 =>
        rintro w' hSw
        have k0 := (RY_28.out.below hSw RY_28.out.lt).cell 0
        have k1 := (RY_28.out.below hSw RY_28.out.lt).cell 1
        simp at k0 k1
        go_simp
        try with_reducible rfl
      try simp only [Act.put, List.setIfInBounds_toArray, List.set_cons_zero, List.set_cons_succ]
      refine wpAnyH_take (i := 10) (oi := ⟨some 69, _, _, _, _, _⟩) (v := ?vz33_10) rfl (by kernel_rfl) (by kernel_rfl) (by kernel_rfl) (fun _ _ _ h => h) (Or.inl ⟨by rfl, ?yz33_10⟩) S_33.out ?rz33_10
      case yz33_10 =>
        rintro w' hSw
        have k0 := (RA_28.out.below hSw RA_28.out.lt).cell 0
        have k1 := (RA_28.out.below hSw RA_28.out.lt).cell 1
        simp at k0 k1
        go_simp
        try with_reducible rfl
      try simp only [Act.put, List.setIfInBounds_toArray, List.set_cons_zero, List.set_cons_succ]
      refine wpAnyH_take (i := 11) (oi := ⟨some 70, _, _, _, _, _⟩) (v := ?vz33_11) rfl (by kernel_rfl) (by kernel_rfl) (by kernel_rfl) (fun _ _ _ h => h) (Or.inl ⟨by rfl, ?yz33_11⟩) S_33.out ?rz33_11
      case yz33_11 =>
        rintro w' hSw
        have k0 := (RB_28.out.below hSw RB_28.out.lt).cell 0
        have k1 := (RB_28.out.below hSw RB_28.out.lt).cell 1
        simp at k0 k1
        go_simp
        try with_reducible rfl
      try simp only [Act.put, List.setIfInBounds_toArray, List.set_cons_zero, List.set_cons_succ]
      refine wpAnyH_ready (rs := [9]) (by kernel_rfl) (by simp) ?_
      refine (AllReadyH.cons rfl (fun K hK => ?_) AllReadyH.nil)
      go_simp
      refine (HXY.out _).mono ?_
      rintro e Xz33_12 ⟨rfl, hb⟩
      have Sz33_12 := Lib.hid (S_33.out.trans (hb.mono S_33.out.size))
      clear hb S_33
      refine hK _ _ Sz33_12.out (fun _ => ?_)
      clear hK K
      try simp only [Act.put, List.setIfInBounds_toArray, List.set_cons_zero, List.set_cons_succ]
      refine wpAnyH_ready (rs := [12]) (by kernel_rfl) (by simp) ?_
      refine (AllReadyH.cons rfl (fun K hK => ?_) AllReadyH.nil)
      go_simp
      refine (HAB.out _).mono ?_
      rintro e Xz33_13 ⟨rfl, hb⟩
      have Sz33_13 := Lib.hid (Sz33_12.out.trans (hb.mono Sz33_12.out.size))
      clear hb Sz33_12
      refine hK _ _ Sz33_13.out (fun _ => ?_)
      clear hK K
      try simp only [Act.put, List.setIfInBounds_toArray, List.set_cons_zero, List.set_cons_succ]
      refine wpAnyH_take (i := 13) (oi := ⟨some 72, _, _, _, _, _⟩) (v := ?vz33_14) rfl (by kernel_rfl) (by kernel_rfl) (by kernel_rfl) (fun _ _ _ h => h) (Or.inl ⟨by rfl, ?yz33_14⟩) Sz33_13.out ?rz33_14
      case yz33_14 =>
        rintro w' hSw
        go_simp
        try with_reducible rfl
      try simp only [Act.put, List.setIfInBounds_toArray, List.set_cons_zero, List.set_cons_succ]
      refine wpAnyH_take (i := 14) (oi := ⟨some 73, _, _, _, _, _⟩) (v := ?vz33_15) rfl (by kernel_rfl) (by kernel_rfl) (by kernel_rfl) (fun _ _ _ h => h) (Or.inl ⟨by rfl, ?yz33_15⟩) Sz33_13.out ?rz33_15
      case yz33_15 =>
        rintro w' hSw
        go_simp
        try with_reducible rfl
      try simp only [Act.put, List.setIfInBounds_toArray, List.set_cons_zero, List.set_cons_succ]
      refine wpAnyH_take (i := 15) (oi := ⟨some 6, _, _, _, _, _⟩) (v := ?vz33_16) rfl (by kernel_rfl) (by kernel_rfl) (by kernel_rfl) (fun _ _ _ h => h) (Or.inl ⟨by rfl, ?yz33_16⟩) Sz33_13.out ?rz33_16
      case yz33_16 =>
        rintro w' hSw
        go_simp
        try with_reducible rfl
      try simp only [Act.put, List.setIfInBounds_toArray, List.set_cons_zero, List.set_cons_succ]
      refine wpAnyH_done (by kernel_rfl) ?_ _
      have RA_34 := Lib.hid (RA_28.out.below Sz33_13.out RA_28.out.lt)
      have RB_34 := Lib.hid (RB_28.out.below Sz33_13.out RB_28.out.lt)
      have RC_34 := Lib.hid (RC_28.out.below Sz33_13.out RC_28.out.lt)
      have RX_34 := Lib.hid (RX_28.out.below Sz33_13.out RX_28.out.lt)
      have RY_34 := Lib.hid (RY_28.out.below Sz33_13.out RY_28.out.lt)
      have B_34 := Lib.hid (B_28.out.trans (Sz33_13.out.mono B_28.out.size))
      clear Sz33_13 RA_28 RB_28 RC_28 RX_28 RY_28 B_28
      go_wp2
      go_ret
      exact ⟨rfl, B_34.out⟩

set_option maxHeartbeats 8000000 in
theorem walk_l2 (ah al bl ch cl : Nat) (w : World) (h1 : ah < 18446744073709551616) (h2 : al < 18446744073709551616) (h4 : bl < 18446744073709551616) (h5 : ch < 18446744073709551616) (h6 : cl < 18446744073709551616) (hlt : ah * 18446744073709551616 + al < ah * 18446744073709551616 + bl) (hne : ¬ (al : Int) = (bl : Int)) :
    Calls Try.prog 8 #[.agg #[.int .u64 (ah : Int), .int .u64 (al : Int)], .agg #[.int .u64 (ah : Int), .int .u64 (bl : Int)], .agg #[.int .u64 (ch : Int), .int .u64 (cl : Int)]] w fun e w' => e = .returned (.bool true) ∧ Below w.heap.size w w' := by
  have HW := Lib.hid wakes_any
  have hwm : IntKind.i64.wrap (-1) = -1 := by decide
  have hab : cmpM (ah * 18446744073709551616 + al) (ah * 18446744073709551616 + bl) = -1 := cmp_l hlt
  have hba : cmpM (ah * 18446744073709551616 + bl) (ah * 18446744073709551616 + al) = 1 := cmp_g hlt
  obtain ⟨q, hbc⟩ : ∃ q, cmpM (ah * 18446744073709551616 + bl) (ch * 18446744073709551616 + cl) = q := ⟨_, rfl⟩
  obtain ⟨r, hac⟩ : ∃ q, cmpM (ah * 18446744073709551616 + al) (ch * 18446744073709551616 + cl) = q := ⟨_, rfl⟩
  have HAB := Lib.hid (fun w => Cmp_is ah al ah bl w h1 h2 h1 h4 hab)
  have HBA := Lib.hid (fun w => Cmp_is ah bl ah al w h1 h4 h1 h2 hba)
  have HBC := Lib.hid (fun w => Cmp_is ah bl ch cl w h1 h4 h5 h6 hbc)
  have HAC := Lib.hid (fun w => Cmp_is ah al ch cl w h1 h2 h5 h6 hac)
  have hqq := cmp_way (Nat.le_of_lt hlt) hbc hac
  obtain ⟨c, xh, xl, hx1, hx2, hc, hs⟩ := sum_parts (ah * 18446744073709551616 + al) (ch * 18446744073709551616 + cl) (two_lt h1 h2) (two_lt h5 h6)
  obtain ⟨d, yh, yl, hy1, hy2, hd, ht⟩ := sum_parts (ah * 18446744073709551616 + bl) (ch * 18446744073709551616 + cl) (two_lt h1 h4) (two_lt h5 h6)
  have HS := Lib.hid (fun w => Add_any ah al ch cl xh xl c w h1 h2 h5 h6 hx1 hx2 hs)
  have HT := Lib.hid (fun w => Add_any ah bl ch cl yh yl d w h1 h4 h5 h6 hy1 hy2 ht)
  obtain ⟨s, hxy⟩ : ∃ q, cmpM (xh * 18446744073709551616 + xl) (yh * 18446744073709551616 + yl) = q := ⟨_, rfl⟩
  have HXY := Lib.hid (fun w => Cmp_is xh xl yh yl w hx1 hx2 hy1 hy2 hxy)
  have hfl := flags hs ht hxy hab
  clear hs ht hc hd hxy hab hba hbc hac
  generalize decide (c = 0) = f1 at HS hfl
  generalize decide (d = 0) = f2 at HT hfl
  clear h1 h2 h4 h5 h6 hx1 hx2 hy1 hy2 hlt
  go_enter Try.func8, Try.ntmps8
  go_upto_region 1 with fail
  have RA_0 := Lib.hid (((row_last w (w.heap.size) 25 [.int .u64 (ah : Int), .int .u64 (al : Int)] (by simp)).alloc (.cells #[.int .u64 (ah : Int), .int .u64 (bl : Int)] 25)).alloc (.cells #[.int .u64 (ch : Int), .int .u64 (cl : Int)] 25))
  have RB_0 := Lib.hid ((row_last (w.alloc (.cells #[.int .u64 (ah : Int), .int .u64 (al : Int)] 25)) (w.heap.size + 1) 25 [.int .u64 (ah : Int), .int .u64 (bl : Int)] (by simp)).alloc (.cells #[.int .u64 (ch : Int), .int .u64 (cl : Int)] 25))
  have RC_0 := Lib.hid (row_last ((w.alloc (.cells #[.int .u64 (ah : Int), .int .u64 (al : Int)] 25)).alloc (.cells #[.int .u64 (ah : Int), .int .u64 (bl : Int)] 25)) (w.heap.size + 1 + 1) 25 [.int .u64 (ch : Int), .int .u64 (cl : Int)] (by simp))
  have B_0 := Lib.hid ((((Below.refl w.heap.size w).alloc (Nat.le_refl _) (.cells #[.int .u64 (ah : Int), .int .u64 (al : Int)] 25)).alloc (by simp <;> omega) (.cells #[.int .u64 (ah : Int), .int .u64 (bl : Int)] 25)).alloc (by simp <;> omega) (.cells #[.int .u64 (ch : Int), .int .u64 (cl : Int)] 25))
  generalize (((w.alloc (.cells #[.int .u64 (ah : Int), .int .u64 (al : Int)] 25)).alloc (.cells #[.int .u64 (ah : Int), .int .u64 (bl : Int)] 25)).alloc (.cells #[.int .u64 (ch : Int), .int .u64 (cl : Int)] 25)) = V0 at RA_0 RB_0 RC_0 B_0 ⊢
  go_wp2_with fail
  refine (HW.out _).mono ?_
  rintro e W35 ⟨rfl, hb⟩
  have RA_36 := Lib.hid (RA_0.out.below hb RA_0.out.lt)
  have RB_36 := Lib.hid (RB_0.out.below hb RB_0.out.lt)
  have RC_36 := Lib.hid (RC_0.out.below hb RC_0.out.lt)
  have B_36 := Lib.hid (B_0.out.trans (hb.mono B_0.out.size))
  clear hb RA_0 RB_0 RC_0 B_0
  go_wp2_with fail
  refine wp_region_held_drew (S := fun w' => Below W35.heap.size W35 w') (by kernel_rfl) (Below.refl _ _).drew (fun hHeld => ?_)
  have S_37 := Lib.hid hHeld
  clear hHeld
  generalize W35.drew = D37 at S_37 ⊢
  refine wpAnyH_take (i := 0) (oi := ⟨some 13, _, _, _, _, _⟩) (v := ?vz37_1) rfl (by kernel_rfl) (by kernel_rfl) (by kernel_rfl) (fun _ _ _ h => h) (Or.inl ⟨by rfl, ?yz37_1⟩) S_37.out ?rz37_1
  case yz37_1 =>
    rintro w' hSw
    have k0 := (RA_36.out.below hSw RA_36.out.lt).cell 0
    have k1 := (RA_36.out.below hSw RA_36.out.lt).cell 1
    simp at k0 k1
    go_simp
    try with_reducible rfl
  try simp only [Act.put, List.setIfInBounds_toArray, List.set_cons_zero, List.set_cons_succ]
  refine wpAnyH_take (i := 1) (oi := ⟨some 14, _, _, _, _, _⟩) (v := ?vz37_2) rfl (by kernel_rfl) (by kernel_rfl) (by kernel_rfl) (fun _ _ _ h => h) (Or.inl ⟨by rfl, ?yz37_2⟩) S_37.out ?rz37_2
  case yz37_2 =>
    rintro w' hSw
    have k0 := (RB_36.out.below hSw RB_36.out.lt).cell 0
    have k1 := (RB_36.out.below hSw RB_36.out.lt).cell 1
    simp at k0 k1
    go_simp
    try with_reducible rfl
  try simp only [Act.put, List.setIfInBounds_toArray, List.set_cons_zero, List.set_cons_succ]
  refine wpAnyH_take (i := 3) (oi := ⟨some 16, _, _, _, _, _⟩) (v := ?vz37_3) rfl (by kernel_rfl) (by kernel_rfl) (by kernel_rfl) (fun _ _ _ h => h) (Or.inl ⟨by rfl, ?yz37_3⟩) S_37.out ?rz37_3
  case yz37_3 =>
    rintro w' hSw
    have k0 := (RB_36.out.below hSw RB_36.out.lt).cell 0
    have k1 := (RB_36.out.below hSw RB_36.out.lt).cell 1
    simp at k0 k1
    go_simp
    try with_reducible rfl
  try simp only [Act.put, List.setIfInBounds_toArray, List.set_cons_zero, List.set_cons_succ]
  refine wpAnyH_take (i := 4) (oi := ⟨some 17, _, _, _, _, _⟩) (v := ?vz37_4) rfl (by kernel_rfl) (by kernel_rfl) (by kernel_rfl) (fun _ _ _ h => h) (Or.inl ⟨by rfl, ?yz37_4⟩) S_37.out ?rz37_4
  case yz37_4 =>
    rintro w' hSw
    have k0 := (RA_36.out.below hSw RA_36.out.lt).cell 0
    have k1 := (RA_36.out.below hSw RA_36.out.lt).cell 1
    simp at k0 k1
    go_simp
    try with_reducible rfl
  try simp only [Act.put, List.setIfInBounds_toArray, List.set_cons_zero, List.set_cons_succ]
  refine wpAnyH_ready (rs := [2]) (by kernel_rfl) (by simp) ?_
  refine (AllReadyH.cons rfl (fun K hK => ?_) AllReadyH.nil)
  go_simp
  refine (HAB.out _).mono ?_
  rintro e Xz37_5 ⟨rfl, hb⟩
  have Sz37_5 := Lib.hid (S_37.out.trans (hb.mono S_37.out.size))
  clear hb S_37
  refine hK _ _ Sz37_5.out (fun _ => ?_)
  clear hK K
  try simp only [Act.put, List.setIfInBounds_toArray, List.set_cons_zero, List.set_cons_succ]
  refine wpAnyH_ready (rs := [5]) (by kernel_rfl) (by simp) ?_
  refine (AllReadyH.cons rfl (fun K hK => ?_) AllReadyH.nil)
  go_simp
  refine (HBA.out _).mono ?_
  rintro e Xz37_6 ⟨rfl, hb⟩
  have Sz37_6 := Lib.hid (Sz37_5.out.trans (hb.mono Sz37_5.out.size))
  clear hb Sz37_5
  refine hK _ _ Sz37_6.out (fun _ => ?_)
  clear hK K
  try simp only [Act.put, List.setIfInBounds_toArray, List.set_cons_zero, List.set_cons_succ]
  refine wpAnyH_take (i := 6) (oi := ⟨some 19, _, _, _, _, _⟩) (v := ?vz37_7) rfl (by kernel_rfl) (by kernel_rfl) (by kernel_rfl) (fun _ _ _ h => h) (Or.inl ⟨by rfl, ?yz37_7⟩) Sz37_6.out ?rz37_7
  case yz37_7 =>
    rintro w' hSw
    go_simp
    try with_reducible rfl
  try simp only [Act.put, List.setIfInBounds_toArray, List.set_cons_zero, List.set_cons_succ]
  refine wpAnyH_take (i := 7) (oi := ⟨some 20, _, _, _, _, _⟩) (v := ?vz37_8) rfl (by kernel_rfl) (by kernel_rfl) (by kernel_rfl) (fun _ _ _ h => h) (Or.inl ⟨by rfl, ?yz37_8⟩) Sz37_6.out ?rz37_8
  case yz37_8 =>
    rintro w' hSw
    go_simp
    try with_reducible rfl
  try simp only [Act.put, List.setIfInBounds_toArray, List.set_cons_zero, List.set_cons_succ]
  refine wpAnyH_take (i := 8) (oi := ⟨some 21, _, _, _, _, _⟩) (v := ?vz37_9) rfl (by kernel_rfl) (by kernel_rfl) (by kernel_rfl) (fun _ _ _ h => h) (Or.inl ⟨by rfl, ?yz37_9⟩) Sz37_6.out ?rz37_9
  case yz37_9 =>
    rintro w' hSw
    go_simp
    try with_reducible rfl
  try simp only [Act.put, List.setIfInBounds_toArray, List.set_cons_zero, List.set_cons_succ]
  refine wpAnyH_take (i := 9) (oi := ⟨some 22, _, _, _, _, _⟩) (v := ?vz37_10) rfl (by kernel_rfl) (by kernel_rfl) (by kernel_rfl) (fun _ _ _ h => h) (Or.inl ⟨by rfl, ?yz37_10⟩) Sz37_6.out ?rz37_10
  case yz37_10 =>
    rintro w' hSw
    have k0 := (RA_36.out.below hSw RA_36.out.lt).cell 0
    have k1 := (RA_36.out.below hSw RA_36.out.lt).cell 1
    simp at k0 k1
    go_simp
    try with_reducible rfl
  try simp only [Act.put, List.setIfInBounds_toArray, List.set_cons_zero, List.set_cons_succ]
  refine wpAnyH_take (i := 10) (oi := ⟨some 23, _, _, _, _, _⟩) (v := ?vz37_11) rfl (by kernel_rfl) (by kernel_rfl) (by kernel_rfl) (fun _ _ _ h => h) (Or.inl ⟨by rfl, ?yz37_11⟩) Sz37_6.out ?rz37_11
  case yz37_11 =>
    rintro w' hSw
    have k0 := (RB_36.out.below hSw RB_36.out.lt).cell 0
    have k1 := (RB_36.out.below hSw RB_36.out.lt).cell 1
    simp at k0 k1
    go_simp
    try with_reducible rfl
  try simp only [Act.put, List.setIfInBounds_toArray, List.set_cons_zero, List.set_cons_succ]
  refine wpAnyH_take (i := 13) (oi := ⟨some 26, _, _, _, _, _⟩) (v := ?vz37_12) rfl (by kernel_rfl) (by kernel_rfl) (by kernel_rfl) (fun _ _ _ h => h) (Or.inl ⟨by rfl, ?yz37_12⟩) Sz37_6.out ?rz37_12
  case yz37_12 =>
    rintro w' hSw
    have k0 := (RA_36.out.below hSw RA_36.out.lt).cell 0
    have k1 := (RA_36.out.below hSw RA_36.out.lt).cell 1
    simp at k0 k1
    go_simp
    try with_reducible rfl
  try simp only [Act.put, List.setIfInBounds_toArray, List.set_cons_zero, List.set_cons_succ]
  refine wpAnyH_take (i := 14) (oi := ⟨some 27, _, _, _, _, _⟩) (v := ?vz37_13) rfl (by kernel_rfl) (by kernel_rfl) (by kernel_rfl) (fun _ _ _ h => h) (Or.inl ⟨by rfl, ?yz37_13⟩) Sz37_6.out ?rz37_13
  case yz37_13 =>
    rintro w' hSw
    have k0 := (RB_36.out.below hSw RB_36.out.lt).cell 0
    have k1 := (RB_36.out.below hSw RB_36.out.lt).cell 1
    simp at k0 k1
    go_simp
    try with_reducible rfl
  try simp only [Act.put, List.setIfInBounds_toArray, List.set_cons_zero, List.set_cons_succ]
  refine wpAnyH_take (i := 15) (oi := ⟨some 28, _, _, _, _, _⟩) (v := ?vz37_14) rfl (by kernel_rfl) (by kernel_rfl) (by kernel_rfl) (fun _ _ _ h => h) (Or.inl ⟨by rfl, ?yz37_14⟩) Sz37_6.out ?rz37_14
  case yz37_14 =>
    rintro w' hSw
    go_simp
    try with_reducible rfl
  try simp only [Act.put, List.setIfInBounds_toArray, List.set_cons_zero, List.set_cons_succ]
  refine wpAnyH_ready (rs := [11]) (by kernel_rfl) (by simp) ?_
  refine (AllReadyH.cons rfl (fun K hK => ?_) AllReadyH.nil)
  go_simp
  refine (HAB.out _).mono ?_
  rintro e Xz37_15 ⟨rfl, hb⟩
  have Sz37_15 := Lib.hid (Sz37_6.out.trans (hb.mono Sz37_6.out.size))
  clear hb Sz37_6
  refine hK _ _ Sz37_15.out (fun _ => ?_)
  clear hK K
  try simp only [Act.put, List.setIfInBounds_toArray, List.set_cons_zero, List.set_cons_succ]
  refine wpAnyH_take (i := 12) (oi := ⟨some 25, _, _, _, _, _⟩) (v := ?vz37_16) rfl (by kernel_rfl) (by kernel_rfl) (by kernel_rfl) (fun _ _ _ h => h) (Or.inl ⟨by rfl, ?yz37_16⟩) Sz37_15.out ?rz37_16
  case yz37_16 =>
    rintro w' hSw
    go_simp
    try with_reducible rfl
  try simp only [Act.put, List.setIfInBounds_toArray, List.set_cons_zero, List.set_cons_succ]
  refine wpAnyH_take (i := 16) (oi := ⟨some 29, _, _, _, _, _⟩) (v := ?vz37_17) rfl (by kernel_rfl) (by kernel_rfl) (by kernel_rfl) (fun _ _ _ h => h) (Or.inl ⟨by rfl, ?yz37_17⟩) Sz37_15.out ?rz37_17
  case yz37_17 =>
    rintro w' hSw
    go_simp
    try with_reducible rfl
  try simp only [Act.put, List.setIfInBounds_toArray, List.set_cons_zero, List.set_cons_succ]
  refine wpAnyH_take (i := 17) (oi := ⟨some 30, _, _, _, _, _⟩) (v := ?vz37_18) rfl (by kernel_rfl) (by kernel_rfl) (by kernel_rfl) (fun _ _ _ h => h) (Or.inl ⟨by rfl, ?yz37_18⟩) Sz37_15.out ?rz37_18
  case yz37_18 =>
    rintro w' hSw
    go_simp
    try with_reducible rfl
  try simp only [Act.put, List.setIfInBounds_toArray, List.set_cons_zero, List.set_cons_succ]
  refine wpAnyH_done (by kernel_rfl) ?_ _
  have RA_38 := Lib.hid (RA_36.out.below Sz37_15.out RA_36.out.lt)
  have RB_38 := Lib.hid (RB_36.out.below Sz37_15.out RB_36.out.lt)
  have RC_38 := Lib.hid (RC_36.out.below Sz37_15.out RC_36.out.lt)
  have B_38 := Lib.hid (B_36.out.trans (Sz37_15.out.mono B_36.out.size))
  clear Sz37_15 RA_36 RB_36 RC_36 B_36
  have c0_0 := RA_38.out.cell 0
  have c0_1 := RA_38.out.cell 1
  simp at c0_0 c0_1
  have l0 := RA_38.out.lt
  have c1_0 := RB_38.out.cell 0
  have c1_1 := RB_38.out.cell 1
  simp at c1_0 c1_1
  have l1 := RB_38.out.lt
  have c2_0 := RC_38.out.cell 0
  have c2_1 := RC_38.out.cell 1
  simp at c2_0 c2_1
  have l2 := RC_38.out.lt
  go_wp2_with fail
  refine (HAB.out _).mono ?_
  rintro e W39 ⟨rfl, hb⟩
  clear c0_0 c0_1 l0 c1_0 c1_1 l1 c2_0 c2_1 l2
  have RA_40 := Lib.hid (RA_38.out.below hb RA_38.out.lt)
  have RB_40 := Lib.hid (RB_38.out.below hb RB_38.out.lt)
  have RC_40 := Lib.hid (RC_38.out.below hb RC_38.out.lt)
  have B_40 := Lib.hid (B_38.out.trans (hb.mono B_38.out.size))
  clear hb RA_38 RB_38 RC_38 B_38
  have c0_0 := RA_40.out.cell 0
  have c0_1 := RA_40.out.cell 1
  simp at c0_0 c0_1
  have l0 := RA_40.out.lt
  have c1_0 := RB_40.out.cell 0
  have c1_1 := RB_40.out.cell 1
  simp at c1_0 c1_1
  have l1 := RB_40.out.lt
  have c2_0 := RC_40.out.cell 0
  have c2_1 := RC_40.out.cell 1
  simp at c2_0 c2_1
  have l2 := RC_40.out.lt
  go_wp2_with fail
  refine (HBC.out _).mono ?_
  rintro e W41 ⟨rfl, hb⟩
  clear c0_0 c0_1 l0 c1_0 c1_1 l1 c2_0 c2_1 l2
  have RA_42 := Lib.hid (RA_40.out.below hb RA_40.out.lt)
  have RB_42 := Lib.hid (RB_40.out.below hb RB_40.out.lt)
  have RC_42 := Lib.hid (RC_40.out.below hb RC_40.out.lt)
  have B_42 := Lib.hid (B_40.out.trans (hb.mono B_40.out.size))
  clear hb RA_40 RB_40 RC_40 B_40
  rcases hqq with hq | ⟨hq, hr⟩
  · have c0_0 := RA_42.out.cell 0
    have c0_1 := RA_42.out.cell 1
    simp at c0_0 c0_1
    have l0 := RA_42.out.lt
    have c1_0 := RB_42.out.cell 0
    have c1_1 := RB_42.out.cell 1
    simp at c1_0 c1_1
    have l1 := RB_42.out.lt
    have c2_0 := RC_42.out.cell 0
    have c2_1 := RC_42.out.cell 1
    simp at c2_0 c2_1
    have l2 := RC_42.out.lt
    go_wp2_with fail
    refine (HS.out _).mono ?_
    rintro e W43 ⟨rfl, hb⟩
    clear c0_0 c0_1 l0 c1_0 c1_1 l1 c2_0 c2_1 l2
    have RA_44 := Lib.hid (RA_42.out.below hb RA_42.out.lt)
    have RB_44 := Lib.hid (RB_42.out.below hb RB_42.out.lt)
    have RC_44 := Lib.hid (RC_42.out.below hb RC_42.out.lt)
    have B_44 := Lib.hid (B_42.out.trans (hb.mono B_42.out.size))
    clear hb RA_42 RB_42 RC_42 B_42
    have RA_45 := Lib.hid (RA_44.out.alloc (.cells #[.int .u64 (xh : Int), .int .u64 (xl : Int)] 25))
    have RB_45 := Lib.hid (RB_44.out.alloc (.cells #[.int .u64 (xh : Int), .int .u64 (xl : Int)] 25))
    have RC_45 := Lib.hid (RC_44.out.alloc (.cells #[.int .u64 (xh : Int), .int .u64 (xl : Int)] 25))
    have RX_45 := Lib.hid (Row.new W43 25 [.int .u64 (xh : Int), .int .u64 (xl : Int)])
    have B_45 := Lib.hid (B_44.out.alloc B_44.out.size (.cells #[.int .u64 (xh : Int), .int .u64 (xl : Int)] 25))
    go_upto_region 8 with fail
    obtain ⟨gRX, hgRX⟩ : ∃ g, g = W43.heap.size := ⟨_, rfl⟩
    clear RA_44 RB_44 RC_44 B_44
    rw [← hgRX] at RX_45 ⊢
    clear hgRX
    generalize W43.alloc (.cells #[.int .u64 (xh : Int), .int .u64 (xl : Int)] 25) = V45 at RA_45 RB_45 RC_45 RX_45 B_45 ⊢
    have c0_0 := RA_45.out.cell 0
    have c0_1 := RA_45.out.cell 1
    simp at c0_0 c0_1
    have l0 := RA_45.out.lt
    have c1_0 := RB_45.out.cell 0
    have c1_1 := RB_45.out.cell 1
    simp at c1_0 c1_1
    have l1 := RB_45.out.lt
    have c2_0 := RC_45.out.cell 0
    have c2_1 := RC_45.out.cell 1
    simp at c2_0 c2_1
    have l2 := RC_45.out.lt
    have c3_0 := RX_45.out.cell 0
    have c3_1 := RX_45.out.cell 1
    simp at c3_0 c3_1
    have l3 := RX_45.out.lt
    go_wp2_with fail
    refine (HT.out _).mono ?_
    rintro e W46 ⟨rfl, hb⟩
    clear c0_0 c0_1 l0 c1_0 c1_1 l1 c2_0 c2_1 l2 c3_0 c3_1 l3
    have RA_47 := Lib.hid (RA_45.out.below hb RA_45.out.lt)
    have RB_47 := Lib.hid (RB_45.out.below hb RB_45.out.lt)
    have RC_47 := Lib.hid (RC_45.out.below hb RC_45.out.lt)
    have RX_47 := Lib.hid (RX_45.out.below hb RX_45.out.lt)
    have B_47 := Lib.hid (B_45.out.trans (hb.mono B_45.out.size))
    clear hb RA_45 RB_45 RC_45 RX_45 B_45
    have RA_48 := Lib.hid (RA_47.out.alloc (.cells #[.int .u64 (yh : Int), .int .u64 (yl : Int)] 25))
    have RB_48 := Lib.hid (RB_47.out.alloc (.cells #[.int .u64 (yh : Int), .int .u64 (yl : Int)] 25))
    have RC_48 := Lib.hid (RC_47.out.alloc (.cells #[.int .u64 (yh : Int), .int .u64 (yl : Int)] 25))
    have RX_48 := Lib.hid (RX_47.out.alloc (.cells #[.int .u64 (yh : Int), .int .u64 (yl : Int)] 25))
    have RY_48 := Lib.hid (Row.new W46 25 [.int .u64 (yh : Int), .int .u64 (yl : Int)])
    have B_48 := Lib.hid (B_47.out.alloc B_47.out.size (.cells #[.int .u64 (yh : Int), .int .u64 (yl : Int)] 25))
    go_upto_region 9 with fail
    obtain ⟨gRY, hgRY⟩ : ∃ g, g = W46.heap.size := ⟨_, rfl⟩
    clear RA_47 RB_47 RC_47 RX_47 B_47
    rw [← hgRY] at RY_48 ⊢
    clear hgRY
    generalize W46.alloc (.cells #[.int .u64 (yh : Int), .int .u64 (yl : Int)] 25) = V48 at RA_48 RB_48 RC_48 RX_48 RY_48 B_48 ⊢
    rcases hfl with rfl | ⟨rfl, rfl⟩ | ⟨rfl, rfl, rfl⟩
    · refine wp_region_held_drew (S := fun w' => Below V48.heap.size V48 w') (by kernel_rfl) (Below.refl _ _).drew (fun hHeld => ?_)
      have S_49 := Lib.hid hHeld
      clear hHeld
      generalize V48.drew = D49 at S_49 ⊢
      refine wpAnyH_take (i := 0) (oi := ⟨some 59, _, _, _, _, _⟩) (v := ?vz49_1) rfl (by kernel_rfl) (by kernel_rfl) (by kernel_rfl) (fun _ _ _ h => h) (Or.inl ⟨by rfl, ?yz49_1⟩) S_49.out ?rz49_1
      case yz49_1 =>
        rintro w' hSw
        go_simp
        try with_reducible rfl
      try simp only [Act.put, List.setIfInBounds_toArray, List.set_cons_zero, List.set_cons_succ]
      refine wpAnyH_take (i := 1) (oi := ⟨some 60, _, _, _, _, _⟩) (v := ?vz49_2) rfl (by kernel_rfl) (by kernel_rfl) (by kernel_rfl) (fun _ _ _ h => h) (Or.inl ⟨by rfl, ?yz49_2⟩) S_49.out ?rz49_2
      case yz49_2 =>
        rintro w' hSw
        go_simp
        try with_reducible rfl
      try simp only [Act.put, List.setIfInBounds_toArray, List.set_cons_zero, List.set_cons_succ]
      refine wpAnyH_take (i := 2) (oi := ⟨some 61, _, _, _, _, _⟩) (v := ?vz49_3) rfl (by kernel_rfl) (by kernel_rfl) (by kernel_rfl) (fun _ _ _ h => h) (Or.inl ⟨by rfl, ?yz49_3⟩) S_49.out ?rz49_3
      case yz49_3 =>
        rintro w' hSw
        go_simp
        try with_reducible rfl
      try simp only [Act.put, List.setIfInBounds_toArray, List.set_cons_zero, List.set_cons_succ]
      refine wpAnyH_take (i := 3) (oi := ⟨some 62, _, _, _, _, _⟩) (v := undef) rfl (by kernel_rfl) (by kernel_rfl) (by kernel_rfl) (fun _ _ _ h => h) (Or.inr ⟨by rfl, rfl⟩) S_49.out ?rz49_4
      try simp only [Act.put, List.setIfInBounds_toArray, List.set_cons_zero, List.set_cons_succ]
      refine wpAnyH_take (i := 4) (oi := ⟨some 63, _, _, _, _, _⟩) (v := undef) rfl (by kernel_rfl) (by kernel_rfl) (by kernel_rfl) (fun _ _ _ h => h) (Or.inr ⟨by rfl, rfl⟩) S_49.out ?rz49_5
      try simp only [Act.put, List.setIfInBounds_toArray, List.set_cons_zero, List.set_cons_succ]
      refine wpAnyH_take (i := 5) (oi := ⟨some 64, _, _, _, _, _⟩) (v := ?vz49_6) rfl (by kernel_rfl) (by kernel_rfl) (by kernel_rfl) (fun _ _ _ h => h) (Or.inl ⟨by rfl, ?yz49_6⟩) S_49.out ?rz49_6
      case yz49_6 =>
        rintro w' hSw
        go_simp
        try with_reducible rfl
      try simp only [Act.put, List.setIfInBounds_toArray, List.set_cons_zero, List.set_cons_succ]
      refine wpAnyH_take (i := 6) (oi := ⟨some 65, _, _, _, _, _⟩) (v := ?vz49_7) rfl (by kernel_rfl) (by kernel_rfl) (by kernel_rfl) (fun _ _ _ h => h) (Or.inl ⟨by rfl, ?yz49_7⟩) S_49.out ?rz49_7
      case yz49_7 =>
        rintro w' hSw
        go_simp
        try with_reducible rfl
      try simp only [Act.put, List.setIfInBounds_toArray, List.set_cons_zero, List.set_cons_succ]
      refine wpAnyH_take (i := 7) (oi := ⟨some 66, _, _, _, _, _⟩) (v := undef) rfl (by kernel_rfl) (by kernel_rfl) (by kernel_rfl) (fun _ _ _ h => h) (Or.inr ⟨by rfl, rfl⟩) S_49.out ?rz49_8
      try simp only [Act.put, List.setIfInBounds_toArray, List.set_cons_zero, List.set_cons_succ]
      refine wpAnyH_take (i := 8) (oi := ⟨some 67, _, _, _, _, _⟩) (v := undef) rfl (by kernel_rfl) (by kernel_rfl) (by kernel_rfl) (fun _ _ _ h => h) (Or.inr ⟨by rfl, rfl⟩) S_49.out ?rz49_9
      try simp only [Act.put, List.setIfInBounds_toArray, List.set_cons_zero, List.set_cons_succ]
      refine wpAnyH_take (i := 9) (oi := ⟨some 68, _, _, _, _, _⟩) (v := undef) rfl (by kernel_rfl) (by kernel_rfl) (by kernel_rfl) (fun _ _ _ h => h) (Or.inr ⟨by rfl, rfl⟩) S_49.out ?rz49_10
      try simp only [Act.put, List.setIfInBounds_toArray, List.set_cons_zero, List.set_cons_succ]
      refine wpAnyH_take (i := 10) (oi := ⟨some 69, _, _, _, _, _⟩) (v := undef) rfl (by kernel_rfl) (by kernel_rfl) (by kernel_rfl) (fun _ _ _ h => h) (Or.inr ⟨by rfl, rfl⟩) S_49.out ?rz49_11
      try simp only [Act.put, List.setIfInBounds_toArray, List.set_cons_zero, List.set_cons_succ]
      refine wpAnyH_take (i := 11) (oi := ⟨some 70, _, _, _, _, _⟩) (v := undef) rfl (by kernel_rfl) (by kernel_rfl) (by kernel_rfl) (fun _ _ _ h => h) (Or.inr ⟨by rfl, rfl⟩) S_49.out ?rz49_12
      try simp only [Act.put, List.setIfInBounds_toArray, List.set_cons_zero, List.set_cons_succ]
      refine wpAnyH_take (i := 12) (oi := ⟨some 71, _, _, _, _, _⟩) (v := undef) rfl (by kernel_rfl) (by kernel_rfl) (by kernel_rfl) (fun _ _ _ h => h) (Or.inr ⟨by rfl, rfl⟩) S_49.out ?rz49_13
      try simp only [Act.put, List.setIfInBounds_toArray, List.set_cons_zero, List.set_cons_succ]
      refine wpAnyH_take (i := 13) (oi := ⟨some 72, _, _, _, _, _⟩) (v := undef) rfl (by kernel_rfl) (by kernel_rfl) (by kernel_rfl) (fun _ _ _ h => h) (Or.inr ⟨by rfl, rfl⟩) S_49.out ?rz49_14
      try simp only [Act.put, List.setIfInBounds_toArray, List.set_cons_zero, List.set_cons_succ]
      refine wpAnyH_take (i := 14) (oi := ⟨some 73, _, _, _, _, _⟩) (v := ?vz49_15) rfl (by kernel_rfl) (by kernel_rfl) (by kernel_rfl) (fun _ _ _ h => h) (Or.inl ⟨by rfl, ?yz49_15⟩) S_49.out ?rz49_15
      case yz49_15 =>
        rintro w' hSw
        go_simp
        try with_reducible rfl
      try simp only [Act.put, List.setIfInBounds_toArray, List.set_cons_zero, List.set_cons_succ]
      refine wpAnyH_take (i := 15) (oi := ⟨some 6, _, _, _, _, _⟩) (v := ?vz49_16) rfl (by kernel_rfl) (by kernel_rfl) (by kernel_rfl) (fun _ _ _ h => h) (Or.inl ⟨by rfl, ?yz49_16⟩) S_49.out ?rz49_16
      case yz49_16 =>
        rintro w' hSw
        go_simp
        try with_reducible rfl
      try simp only [Act.put, List.setIfInBounds_toArray, List.set_cons_zero, List.set_cons_succ]
      refine wpAnyH_done (by kernel_rfl) ?_ _
      have RA_50 := Lib.hid (RA_48.out.below S_49.out RA_48.out.lt)
      have RB_50 := Lib.hid (RB_48.out.below S_49.out RB_48.out.lt)
      have RC_50 := Lib.hid (RC_48.out.below S_49.out RC_48.out.lt)
      have RX_50 := Lib.hid (RX_48.out.below S_49.out RX_48.out.lt)
      have RY_50 := Lib.hid (RY_48.out.below S_49.out RY_48.out.lt)
      have B_50 := Lib.hid (B_48.out.trans (S_49.out.mono B_48.out.size))
      clear S_49 RA_48 RB_48 RC_48 RX_48 RY_48 B_48
      go_wp2
      go_ret
      exact ⟨rfl, B_50.out⟩
    · refine wp_region_held_drew (S := fun w' => Below V48.heap.size V48 w') (by kernel_rfl) (Below.refl _ _).drew (fun hHeld => ?_)
      have S_51 := Lib.hid hHeld
      clear hHeld
      generalize V48.drew = D51 at S_51 ⊢
      refine wpAnyH_take (i := 0) (oi := ⟨some 59, _, _, _, _, _⟩) (v := ?vz51_1) rfl (by kernel_rfl) (by kernel_rfl) (by kernel_rfl) (fun _ _ _ h => h) (Or.inl ⟨by rfl, ?yz51_1⟩) S_51.out ?rz51_1
      case yz51_1 =>
        rintro w' hSw
        go_simp
        try with_reducible rfl
      try simp only [Act.put, List.setIfInBounds_toArray, List.set_cons_zero, List.set_cons_succ]
      refine wpAnyH_take (i := 1) (oi := ⟨some 60, _, _, _, _, _⟩) (v := ?vz51_2) rfl (by kernel_rfl) (by kernel_rfl) (by kernel_rfl) (fun _ _ _ h => h) (Or.inl ⟨by rfl, ?yz51_2⟩) S_51.out ?rz51_2
      case yz51_2 =>
        rintro w' hSw
        go_simp
        try with_reducible rfl
      try simp only [Act.put, List.setIfInBounds_toArray, List.set_cons_zero, List.set_cons_succ]
      refine wpAnyH_take (i := 2) (oi := ⟨some 61, _, _, _, _, _⟩) (v := ?vz51_3) rfl (by kernel_rfl) (by kernel_rfl) (by kernel_rfl) (fun _ _ _ h => h) (Or.inl ⟨by rfl, ?yz51_3⟩) S_51.out ?rz51_3
      case yz51_3 =>
        rintro w' hSw
        go_simp
        try with_reducible rfl
      try simp only [Act.put, List.setIfInBounds_toArray, List.set_cons_zero, List.set_cons_succ]
      refine wpAnyH_take (i := 3) (oi := ⟨some 62, _, _, _, _, _⟩) (v := ?vz51_4) rfl (by kernel_rfl) (by kernel_rfl) (by kernel_rfl) (fun _ _ _ h => h) (Or.inl ⟨by rfl, ?yz51_4⟩) S_51.out ?rz51_4
      case yz51_4 =>
        rintro w' hSw
        go_simp
        try with_reducible rfl
      try simp only [Act.put, List.setIfInBounds_toArray, List.set_cons_zero, List.set_cons_succ]
      refine wpAnyH_take (i := 4) (oi := ⟨some 63, _, _, _, _, _⟩) (v := ?vz51_5) rfl (by kernel_rfl) (by kernel_rfl) (by kernel_rfl) (fun _ _ _ h => h) (Or.inl ⟨by rfl, ?yz51_5⟩) S_51.out ?rz51_5
      case yz51_5 =>
        rintro w' hSw
        go_simp
        try with_reducible rfl
      try simp only [Act.put, List.setIfInBounds_toArray, List.set_cons_zero, List.set_cons_succ]
      refine wpAnyH_take (i := 5) (oi := ⟨some 64, _, _, _, _, _⟩) (v := ?vz51_6) rfl (by kernel_rfl) (by kernel_rfl) (by kernel_rfl) (fun _ _ _ h => h) (Or.inl ⟨by rfl, ?yz51_6⟩) S_51.out ?rz51_6
      case yz51_6 =>
        rintro w' hSw
        go_simp
        try with_reducible rfl
      try simp only [Act.put, List.setIfInBounds_toArray, List.set_cons_zero, List.set_cons_succ]
      refine wpAnyH_take (i := 6) (oi := ⟨some 65, _, _, _, _, _⟩) (v := ?vz51_7) rfl (by kernel_rfl) (by kernel_rfl) (by kernel_rfl) (fun _ _ _ h => h) (Or.inl ⟨by rfl, ?yz51_7⟩) S_51.out ?rz51_7
      case yz51_7 =>
        rintro w' hSw
        go_simp
        try with_reducible rfl
      try simp only [Act.put, List.setIfInBounds_toArray, List.set_cons_zero, List.set_cons_succ]
      refine wpAnyH_take (i := 7) (oi := ⟨some 66, _, _, _, _, _⟩) (v := undef) rfl (by kernel_rfl) (by kernel_rfl) (by kernel_rfl) (fun _ _ _ h => h) (Or.inr ⟨by rfl, rfl⟩) S_51.out ?rz51_8
      try simp only [Act.put, List.setIfInBounds_toArray, List.set_cons_zero, List.set_cons_succ]
      refine wpAnyH_take (i := 8) (oi := ⟨some 67, _, _, _, _, _⟩) (v := undef) rfl (by kernel_rfl) (by kernel_rfl) (by kernel_rfl) (fun _ _ _ h => h) (Or.inr ⟨by rfl, rfl⟩) S_51.out ?rz51_9
      try simp only [Act.put, List.setIfInBounds_toArray, List.set_cons_zero, List.set_cons_succ]
      refine wpAnyH_take (i := 9) (oi := ⟨some 68, _, _, _, _, _⟩) (v := undef) rfl (by kernel_rfl) (by kernel_rfl) (by kernel_rfl) (fun _ _ _ h => h) (Or.inr ⟨by rfl, rfl⟩) S_51.out ?rz51_10
      try simp only [Act.put, List.setIfInBounds_toArray, List.set_cons_zero, List.set_cons_succ]
      refine wpAnyH_take (i := 10) (oi := ⟨some 69, _, _, _, _, _⟩) (v := undef) rfl (by kernel_rfl) (by kernel_rfl) (by kernel_rfl) (fun _ _ _ h => h) (Or.inr ⟨by rfl, rfl⟩) S_51.out ?rz51_11
      try simp only [Act.put, List.setIfInBounds_toArray, List.set_cons_zero, List.set_cons_succ]
      refine wpAnyH_take (i := 11) (oi := ⟨some 70, _, _, _, _, _⟩) (v := undef) rfl (by kernel_rfl) (by kernel_rfl) (by kernel_rfl) (fun _ _ _ h => h) (Or.inr ⟨by rfl, rfl⟩) S_51.out ?rz51_12
      try simp only [Act.put, List.setIfInBounds_toArray, List.set_cons_zero, List.set_cons_succ]
      refine wpAnyH_take (i := 12) (oi := ⟨some 71, _, _, _, _, _⟩) (v := undef) rfl (by kernel_rfl) (by kernel_rfl) (by kernel_rfl) (fun _ _ _ h => h) (Or.inr ⟨by rfl, rfl⟩) S_51.out ?rz51_13
      try simp only [Act.put, List.setIfInBounds_toArray, List.set_cons_zero, List.set_cons_succ]
      refine wpAnyH_take (i := 13) (oi := ⟨some 72, _, _, _, _, _⟩) (v := undef) rfl (by kernel_rfl) (by kernel_rfl) (by kernel_rfl) (fun _ _ _ h => h) (Or.inr ⟨by rfl, rfl⟩) S_51.out ?rz51_14
      try simp only [Act.put, List.setIfInBounds_toArray, List.set_cons_zero, List.set_cons_succ]
      refine wpAnyH_take (i := 14) (oi := ⟨some 73, _, _, _, _, _⟩) (v := ?vz51_15) rfl (by kernel_rfl) (by kernel_rfl) (by kernel_rfl) (fun _ _ _ h => h) (Or.inl ⟨by rfl, ?yz51_15⟩) S_51.out ?rz51_15
      case yz51_15 =>
        rintro w' hSw
        go_simp
        try with_reducible rfl
      try simp only [Act.put, List.setIfInBounds_toArray, List.set_cons_zero, List.set_cons_succ]
      refine wpAnyH_take (i := 15) (oi := ⟨some 6, _, _, _, _, _⟩) (v := ?vz51_16) rfl (by kernel_rfl) (by kernel_rfl) (by kernel_rfl) (fun _ _ _ h => h) (Or.inl ⟨by rfl, ?yz51_16⟩) S_51.out ?rz51_16
      case yz51_16 =>
        rintro w' hSw
        go_simp
        try with_reducible rfl
      try simp only [Act.put, List.setIfInBounds_toArray, List.set_cons_zero, List.set_cons_succ]
      refine wpAnyH_done (by kernel_rfl) ?_ _
      have RA_52 := Lib.hid (RA_48.out.below S_51.out RA_48.out.lt)
      have RB_52 := Lib.hid (RB_48.out.below S_51.out RB_48.out.lt)
      have RC_52 := Lib.hid (RC_48.out.below S_51.out RC_48.out.lt)
      have RX_52 := Lib.hid (RX_48.out.below S_51.out RX_48.out.lt)
      have RY_52 := Lib.hid (RY_48.out.below S_51.out RY_48.out.lt)
      have B_52 := Lib.hid (B_48.out.trans (S_51.out.mono B_48.out.size))
      clear S_51 RA_48 RB_48 RC_48 RX_48 RY_48 B_48
      go_wp2
      go_ret
      exact ⟨rfl, B_52.out⟩
    · refine wp_region_held_drew (S := fun w' => Below V48.heap.size V48 w') (by kernel_rfl) (Below.refl _ _).drew (fun hHeld => ?_)
      have S_53 := Lib.hid hHeld
      clear hHeld
      generalize V48.drew = D53 at S_53 ⊢
      refine wpAnyH_take (i := 0) (oi := ⟨some 59, _, _, _, _, _⟩) (v := ?vz53_1) rfl (by kernel_rfl) (by kernel_rfl) (by kernel_rfl) (fun _ _ _ h => h) (Or.inl ⟨by rfl, ?yz53_1⟩) S_53.out ?rz53_1
      case yz53_1 =>
        rintro w' hSw
        go_simp
        try with_reducible rfl
      try simp only [Act.put, List.setIfInBounds_toArray, List.set_cons_zero, List.set_cons_succ]
      refine wpAnyH_take (i := 1) (oi := ⟨some 60, _, _, _, _, _⟩) (v := ?vz53_2) rfl (by kernel_rfl) (by kernel_rfl) (by kernel_rfl) (fun _ _ _ h => h) (Or.inl ⟨by rfl, ?yz53_2⟩) S_53.out ?rz53_2
      case yz53_2 =>
        rintro w' hSw
        go_simp
        try with_reducible rfl
      try simp only [Act.put, List.setIfInBounds_toArray, List.set_cons_zero, List.set_cons_succ]
      refine wpAnyH_take (i := 2) (oi := ⟨some 61, _, _, _, _, _⟩) (v := ?vz53_3) rfl (by kernel_rfl) (by kernel_rfl) (by kernel_rfl) (fun _ _ _ h => h) (Or.inl ⟨by rfl, ?yz53_3⟩) S_53.out ?rz53_3
      case yz53_3 =>
        rintro w' hSw
        go_simp
        try with_reducible rfl
      try simp only [Act.put, List.setIfInBounds_toArray, List.set_cons_zero, List.set_cons_succ]
      refine wpAnyH_take (i := 3) (oi := ⟨some 62, _, _, _, _, _⟩) (v := ?vz53_4) rfl (by kernel_rfl) (by kernel_rfl) (by kernel_rfl) (fun _ _ _ h => h) (Or.inl ⟨by rfl, ?yz53_4⟩) S_53.out ?rz53_4
      case yz53_4 =>
        rintro w' hSw
        go_simp
        try with_reducible rfl
      try simp only [Act.put, List.setIfInBounds_toArray, List.set_cons_zero, List.set_cons_succ]
      refine wpAnyH_take (i := 4) (oi := ⟨some 63, _, _, _, _, _⟩) (v := ?vz53_5) rfl (by kernel_rfl) (by kernel_rfl) (by kernel_rfl) (fun _ _ _ h => h) (Or.inl ⟨by rfl, ?yz53_5⟩) S_53.out ?rz53_5
      case yz53_5 =>
        rintro w' hSw
        go_simp
        try with_reducible rfl
      try simp only [Act.put, List.setIfInBounds_toArray, List.set_cons_zero, List.set_cons_succ]
      refine wpAnyH_take (i := 5) (oi := ⟨some 64, _, _, _, _, _⟩) (v := ?vz53_6) rfl (by kernel_rfl) (by kernel_rfl) (by kernel_rfl) (fun _ _ _ h => h) (Or.inl ⟨by rfl, ?yz53_6⟩) S_53.out ?rz53_6
      case yz53_6 =>
        rintro w' hSw
        go_simp
        try with_reducible rfl
      try simp only [Act.put, List.setIfInBounds_toArray, List.set_cons_zero, List.set_cons_succ]
      refine wpAnyH_take (i := 6) (oi := ⟨some 65, _, _, _, _, _⟩) (v := ?vz53_7) rfl (by kernel_rfl) (by kernel_rfl) (by kernel_rfl) (fun _ _ _ h => h) (Or.inl ⟨by rfl, ?yz53_7⟩) S_53.out ?rz53_7
      case yz53_7 =>
        rintro w' hSw
        go_simp
        try with_reducible rfl
      try simp only [Act.put, List.setIfInBounds_toArray, List.set_cons_zero, List.set_cons_succ]
      refine wpAnyH_take (i := 7) (oi := ⟨some 66, _, _, _, _, _⟩) (v := ?vz53_8) rfl (by kernel_rfl) (by kernel_rfl) (by kernel_rfl) (fun _ _ _ h => h) (Or.inl ⟨by rfl, ?yz53_8⟩) S_53.out ?rz53_8
      case yz53_8 =>
        rintro w' hSw
        have k0 := (RX_48.out.below hSw RX_48.out.lt).cell 0
        have k1 := (RX_48.out.below hSw RX_48.out.lt).cell 1
        simp at k0 k1
        go_simp
        try with_reducible rfl
      try simp only [Act.put, List.setIfInBounds_toArray, List.set_cons_zero, List.set_cons_succ]
      refine wpAnyH_take (i := 8) (oi := ⟨some 67, _, _, _, _, _⟩) (v := ?vz53_9) rfl (by kernel_rfl) (by kernel_rfl) (by kernel_rfl) (fun _ _ _ h => h) (Or.inl ⟨by rfl, ?yz53_9⟩) S_53.out ?rz53_9
      case yz53_9 =>
        rintro w' hSw
        have k0 := (RY_48.out.below hSw RY_48.out.lt).cell 0
        have k1 := (RY_48.out.below hSw RY_48.out.lt).cell 1
        simp at k0 k1
        go_simp
        try with_reducible rfl
      try simp only [Act.put, List.setIfInBounds_toArray, List.set_cons_zero, List.set_cons_succ]
      refine wpAnyH_take (i := 10) (oi := ⟨some 69, _, _, _, _, _⟩) (v := ?vz53_10) rfl (by kernel_rfl) (by kernel_rfl) (by kernel_rfl) (fun _ _ _ h => h) (Or.inl ⟨by rfl, ?yz53_10⟩) S_53.out ?rz53_10
      case yz53_10 =>
        rintro w' hSw
        have k0 := (RA_48.out.below hSw RA_48.out.lt).cell 0
        have k1 := (RA_48.out.below hSw RA_48.out.lt).cell 1
        simp at k0 k1
        go_simp
        try with_reducible rfl
      try simp only [Act.put, List.setIfInBounds_toArray, List.set_cons_zero, List.set_cons_succ]
      refine wpAnyH_take (i := 11) (oi := ⟨some 70, _, _, _, _, _⟩) (v := ?vz53_11) rfl (by kernel_rfl) (by kernel_rfl) (by kernel_rfl) (fun _ _ _ h => h) (Or.inl ⟨by rfl, ?yz53_11⟩) S_53.out ?rz53_11
      case yz53_11 =>
        rintro w' hSw
        have k0 := (RB_48.out.below hSw RB_48.out.lt).cell 0
        have k1 := (RB_48.out.below hSw RB_48.out.lt).cell 1
        simp at k0 k1
        go_simp
        try with_reducible rfl
      try simp only [Act.put, List.setIfInBounds_toArray, List.set_cons_zero, List.set_cons_succ]
      refine wpAnyH_ready (rs := [9]) (by kernel_rfl) (by simp) ?_
      refine (AllReadyH.cons rfl (fun K hK => ?_) AllReadyH.nil)
      go_simp
      refine (HXY.out _).mono ?_
      rintro e Xz53_12 ⟨rfl, hb⟩
      have Sz53_12 := Lib.hid (S_53.out.trans (hb.mono S_53.out.size))
      clear hb S_53
      refine hK _ _ Sz53_12.out (fun _ => ?_)
      clear hK K
      try simp only [Act.put, List.setIfInBounds_toArray, List.set_cons_zero, List.set_cons_succ]
      refine wpAnyH_ready (rs := [12]) (by kernel_rfl) (by simp) ?_
      refine (AllReadyH.cons rfl (fun K hK => ?_) AllReadyH.nil)
      go_simp
      refine (HAB.out _).mono ?_
      rintro e Xz53_13 ⟨rfl, hb⟩
      have Sz53_13 := Lib.hid (Sz53_12.out.trans (hb.mono Sz53_12.out.size))
      clear hb Sz53_12
      refine hK _ _ Sz53_13.out (fun _ => ?_)
      clear hK K
      try simp only [Act.put, List.setIfInBounds_toArray, List.set_cons_zero, List.set_cons_succ]
      refine wpAnyH_take (i := 13) (oi := ⟨some 72, _, _, _, _, _⟩) (v := ?vz53_14) rfl (by kernel_rfl) (by kernel_rfl) (by kernel_rfl) (fun _ _ _ h => h) (Or.inl ⟨by rfl, ?yz53_14⟩) Sz53_13.out ?rz53_14
      case yz53_14 =>
        rintro w' hSw
        go_simp
        try with_reducible rfl
      try simp only [Act.put, List.setIfInBounds_toArray, List.set_cons_zero, List.set_cons_succ]
      refine wpAnyH_take (i := 14) (oi := ⟨some 73, _, _, _, _, _⟩) (v := ?vz53_15) rfl (by kernel_rfl) (by kernel_rfl) (by kernel_rfl) (fun _ _ _ h => h) (Or.inl ⟨by rfl, ?yz53_15⟩) Sz53_13.out ?rz53_15
      case yz53_15 =>
        rintro w' hSw
        go_simp
        try with_reducible rfl
      try simp only [Act.put, List.setIfInBounds_toArray, List.set_cons_zero, List.set_cons_succ]
      refine wpAnyH_take (i := 15) (oi := ⟨some 6, _, _, _, _, _⟩) (v := ?vz53_16) rfl (by kernel_rfl) (by kernel_rfl) (by kernel_rfl) (fun _ _ _ h => h) (Or.inl ⟨by rfl, ?yz53_16⟩) Sz53_13.out ?rz53_16
      case yz53_16 =>
        rintro w' hSw
        go_simp
        try with_reducible rfl
      try simp only [Act.put, List.setIfInBounds_toArray, List.set_cons_zero, List.set_cons_succ]
      refine wpAnyH_done (by kernel_rfl) ?_ _
      have RA_54 := Lib.hid (RA_48.out.below Sz53_13.out RA_48.out.lt)
      have RB_54 := Lib.hid (RB_48.out.below Sz53_13.out RB_48.out.lt)
      have RC_54 := Lib.hid (RC_48.out.below Sz53_13.out RC_48.out.lt)
      have RX_54 := Lib.hid (RX_48.out.below Sz53_13.out RX_48.out.lt)
      have RY_54 := Lib.hid (RY_48.out.below Sz53_13.out RY_48.out.lt)
      have B_54 := Lib.hid (B_48.out.trans (Sz53_13.out.mono B_48.out.size))
      clear Sz53_13 RA_48 RB_48 RC_48 RX_48 RY_48 B_48
      go_wp2
      go_ret
      exact ⟨rfl, B_54.out⟩
  · have c0_0 := RA_42.out.cell 0
    have c0_1 := RA_42.out.cell 1
    simp at c0_0 c0_1
    have l0 := RA_42.out.lt
    have c1_0 := RB_42.out.cell 0
    have c1_1 := RB_42.out.cell 1
    simp at c1_0 c1_1
    have l1 := RB_42.out.lt
    have c2_0 := RC_42.out.cell 0
    have c2_1 := RC_42.out.cell 1
    simp at c2_0 c2_1
    have l2 := RC_42.out.lt
    go_wp2_with fail
    refine (HAC.out _).mono ?_
    rintro e W55 ⟨rfl, hb⟩
    clear c0_0 c0_1 l0 c1_0 c1_1 l1 c2_0 c2_1 l2
    have RA_56 := Lib.hid (RA_42.out.below hb RA_42.out.lt)
    have RB_56 := Lib.hid (RB_42.out.below hb RB_42.out.lt)
    have RC_56 := Lib.hid (RC_42.out.below hb RC_42.out.lt)
    have B_56 := Lib.hid (B_42.out.trans (hb.mono B_42.out.size))
    clear hb RA_42 RB_42 RC_42 B_42
    have c0_0 := RA_56.out.cell 0
    have c0_1 := RA_56.out.cell 1
    simp at c0_0 c0_1
    have l0 := RA_56.out.lt
    have c1_0 := RB_56.out.cell 0
    have c1_1 := RB_56.out.cell 1
    simp at c1_0 c1_1
    have l1 := RB_56.out.lt
    have c2_0 := RC_56.out.cell 0
    have c2_1 := RC_56.out.cell 1
    simp at c2_0 c2_1
    have l2 := RC_56.out.lt
    go_wp2_with fail
    refine (HS.out _).mono ?_
    rintro e W57 ⟨rfl, hb⟩
    clear c0_0 c0_1 l0 c1_0 c1_1 l1 c2_0 c2_1 l2
    have RA_58 := Lib.hid (RA_56.out.below hb RA_56.out.lt)
    have RB_58 := Lib.hid (RB_56.out.below hb RB_56.out.lt)
    have RC_58 := Lib.hid (RC_56.out.below hb RC_56.out.lt)
    have B_58 := Lib.hid (B_56.out.trans (hb.mono B_56.out.size))
    clear hb RA_56 RB_56 RC_56 B_56
    have RA_59 := Lib.hid (RA_58.out.alloc (.cells #[.int .u64 (xh : Int), .int .u64 (xl : Int)] 25))
    have RB_59 := Lib.hid (RB_58.out.alloc (.cells #[.int .u64 (xh : Int), .int .u64 (xl : Int)] 25))
    have RC_59 := Lib.hid (RC_58.out.alloc (.cells #[.int .u64 (xh : Int), .int .u64 (xl : Int)] 25))
    have RX_59 := Lib.hid (Row.new W57 25 [.int .u64 (xh : Int), .int .u64 (xl : Int)])
    have B_59 := Lib.hid (B_58.out.alloc B_58.out.size (.cells #[.int .u64 (xh : Int), .int .u64 (xl : Int)] 25))
    go_upto_region 8 with fail
    obtain ⟨gRX, hgRX⟩ : ∃ g, g = W57.heap.size := ⟨_, rfl⟩
    clear RA_58 RB_58 RC_58 B_58
    rw [← hgRX] at RX_59 ⊢
    clear hgRX
    generalize W57.alloc (.cells #[.int .u64 (xh : Int), .int .u64 (xl : Int)] 25) = V59 at RA_59 RB_59 RC_59 RX_59 B_59 ⊢
    have c0_0 := RA_59.out.cell 0
    have c0_1 := RA_59.out.cell 1
    simp at c0_0 c0_1
    have l0 := RA_59.out.lt
    have c1_0 := RB_59.out.cell 0
    have c1_1 := RB_59.out.cell 1
    simp at c1_0 c1_1
    have l1 := RB_59.out.lt
    have c2_0 := RC_59.out.cell 0
    have c2_1 := RC_59.out.cell 1
    simp at c2_0 c2_1
    have l2 := RC_59.out.lt
    have c3_0 := RX_59.out.cell 0
    have c3_1 := RX_59.out.cell 1
    simp at c3_0 c3_1
    have l3 := RX_59.out.lt
    go_wp2_with fail
    refine (HT.out _).mono ?_
    rintro e W60 ⟨rfl, hb⟩
    clear c0_0 c0_1 l0 c1_0 c1_1 l1 c2_0 c2_1 l2 c3_0 c3_1 l3
    have RA_61 := Lib.hid (RA_59.out.below hb RA_59.out.lt)
    have RB_61 := Lib.hid (RB_59.out.below hb RB_59.out.lt)
    have RC_61 := Lib.hid (RC_59.out.below hb RC_59.out.lt)
    have RX_61 := Lib.hid (RX_59.out.below hb RX_59.out.lt)
    have B_61 := Lib.hid (B_59.out.trans (hb.mono B_59.out.size))
    clear hb RA_59 RB_59 RC_59 RX_59 B_59
    have RA_62 := Lib.hid (RA_61.out.alloc (.cells #[.int .u64 (yh : Int), .int .u64 (yl : Int)] 25))
    have RB_62 := Lib.hid (RB_61.out.alloc (.cells #[.int .u64 (yh : Int), .int .u64 (yl : Int)] 25))
    have RC_62 := Lib.hid (RC_61.out.alloc (.cells #[.int .u64 (yh : Int), .int .u64 (yl : Int)] 25))
    have RX_62 := Lib.hid (RX_61.out.alloc (.cells #[.int .u64 (yh : Int), .int .u64 (yl : Int)] 25))
    have RY_62 := Lib.hid (Row.new W60 25 [.int .u64 (yh : Int), .int .u64 (yl : Int)])
    have B_62 := Lib.hid (B_61.out.alloc B_61.out.size (.cells #[.int .u64 (yh : Int), .int .u64 (yl : Int)] 25))
    go_upto_region 9 with fail
    obtain ⟨gRY, hgRY⟩ : ∃ g, g = W60.heap.size := ⟨_, rfl⟩
    clear RA_61 RB_61 RC_61 RX_61 B_61
    rw [← hgRY] at RY_62 ⊢
    clear hgRY
    generalize W60.alloc (.cells #[.int .u64 (yh : Int), .int .u64 (yl : Int)] 25) = V62 at RA_62 RB_62 RC_62 RX_62 RY_62 B_62 ⊢
    rcases hfl with rfl | ⟨rfl, rfl⟩ | ⟨rfl, rfl, rfl⟩
    · refine wp_region_held_drew (S := fun w' => Below V62.heap.size V62 w') (by kernel_rfl) (Below.refl _ _).drew (fun hHeld => ?_)
      have S_63 := Lib.hid hHeld
      clear hHeld
      generalize V62.drew = D63 at S_63 ⊢
      refine wpAnyH_take (i := 0) (oi := ⟨some 59, _, _, _, _, _⟩) (v := ?vz63_1) rfl (by kernel_rfl) (by kernel_rfl) (by kernel_rfl) (fun _ _ _ h => h) (Or.inl ⟨by rfl, ?yz63_1⟩) S_63.out ?rz63_1
      case yz63_1 =>
        rintro w' hSw
        go_simp
        try with_reducible rfl
      try simp only [Act.put, List.setIfInBounds_toArray, List.set_cons_zero, List.set_cons_succ]
      refine wpAnyH_take (i := 1) (oi := ⟨some 60, _, _, _, _, _⟩) (v := ?vz63_2) rfl (by kernel_rfl) (by kernel_rfl) (by kernel_rfl) (fun _ _ _ h => h) (Or.inl ⟨by rfl, ?yz63_2⟩) S_63.out ?rz63_2
      case yz63_2 =>
        rintro w' hSw
        go_simp
        try with_reducible rfl
      try simp only [Act.put, List.setIfInBounds_toArray, List.set_cons_zero, List.set_cons_succ]
      refine wpAnyH_take (i := 2) (oi := ⟨some 61, _, _, _, _, _⟩) (v := ?vz63_3) rfl (by kernel_rfl) (by kernel_rfl) (by kernel_rfl) (fun _ _ _ h => h) (Or.inl ⟨by rfl, ?yz63_3⟩) S_63.out ?rz63_3
      case yz63_3 =>
        rintro w' hSw
        go_simp
        try with_reducible rfl
      try simp only [Act.put, List.setIfInBounds_toArray, List.set_cons_zero, List.set_cons_succ]
      refine wpAnyH_take (i := 3) (oi := ⟨some 62, _, _, _, _, _⟩) (v := undef) rfl (by kernel_rfl) (by kernel_rfl) (by kernel_rfl) (fun _ _ _ h => h) (Or.inr ⟨by rfl, rfl⟩) S_63.out ?rz63_4
      try simp only [Act.put, List.setIfInBounds_toArray, List.set_cons_zero, List.set_cons_succ]
      refine wpAnyH_take (i := 4) (oi := ⟨some 63, _, _, _, _, _⟩) (v := undef) rfl (by kernel_rfl) (by kernel_rfl) (by kernel_rfl) (fun _ _ _ h => h) (Or.inr ⟨by rfl, rfl⟩) S_63.out ?rz63_5
      try simp only [Act.put, List.setIfInBounds_toArray, List.set_cons_zero, List.set_cons_succ]
      refine wpAnyH_take (i := 5) (oi := ⟨some 64, _, _, _, _, _⟩) (v := ?vz63_6) rfl (by kernel_rfl) (by kernel_rfl) (by kernel_rfl) (fun _ _ _ h => h) (Or.inl ⟨by rfl, ?yz63_6⟩) S_63.out ?rz63_6
      case yz63_6 =>
        rintro w' hSw
        go_simp
        try with_reducible rfl
      try simp only [Act.put, List.setIfInBounds_toArray, List.set_cons_zero, List.set_cons_succ]
      refine wpAnyH_take (i := 6) (oi := ⟨some 65, _, _, _, _, _⟩) (v := ?vz63_7) rfl (by kernel_rfl) (by kernel_rfl) (by kernel_rfl) (fun _ _ _ h => h) (Or.inl ⟨by rfl, ?yz63_7⟩) S_63.out ?rz63_7
      case yz63_7 =>
        rintro w' hSw
        go_simp
        try with_reducible rfl
      try simp only [Act.put, List.setIfInBounds_toArray, List.set_cons_zero, List.set_cons_succ]
      refine wpAnyH_take (i := 7) (oi := ⟨some 66, _, _, _, _, _⟩) (v := undef) rfl (by kernel_rfl) (by kernel_rfl) (by kernel_rfl) (fun _ _ _ h => h) (Or.inr ⟨by rfl, rfl⟩) S_63.out ?rz63_8
      try simp only [Act.put, List.setIfInBounds_toArray, List.set_cons_zero, List.set_cons_succ]
      refine wpAnyH_take (i := 8) (oi := ⟨some 67, _, _, _, _, _⟩) (v := undef) rfl (by kernel_rfl) (by kernel_rfl) (by kernel_rfl) (fun _ _ _ h => h) (Or.inr ⟨by rfl, rfl⟩) S_63.out ?rz63_9
      try simp only [Act.put, List.setIfInBounds_toArray, List.set_cons_zero, List.set_cons_succ]
      refine wpAnyH_take (i := 9) (oi := ⟨some 68, _, _, _, _, _⟩) (v := undef) rfl (by kernel_rfl) (by kernel_rfl) (by kernel_rfl) (fun _ _ _ h => h) (Or.inr ⟨by rfl, rfl⟩) S_63.out ?rz63_10
      try simp only [Act.put, List.setIfInBounds_toArray, List.set_cons_zero, List.set_cons_succ]
      refine wpAnyH_take (i := 10) (oi := ⟨some 69, _, _, _, _, _⟩) (v := undef) rfl (by kernel_rfl) (by kernel_rfl) (by kernel_rfl) (fun _ _ _ h => h) (Or.inr ⟨by rfl, rfl⟩) S_63.out ?rz63_11
      try simp only [Act.put, List.setIfInBounds_toArray, List.set_cons_zero, List.set_cons_succ]
      refine wpAnyH_take (i := 11) (oi := ⟨some 70, _, _, _, _, _⟩) (v := undef) rfl (by kernel_rfl) (by kernel_rfl) (by kernel_rfl) (fun _ _ _ h => h) (Or.inr ⟨by rfl, rfl⟩) S_63.out ?rz63_12
      try simp only [Act.put, List.setIfInBounds_toArray, List.set_cons_zero, List.set_cons_succ]
      refine wpAnyH_take (i := 12) (oi := ⟨some 71, _, _, _, _, _⟩) (v := undef) rfl (by kernel_rfl) (by kernel_rfl) (by kernel_rfl) (fun _ _ _ h => h) (Or.inr ⟨by rfl, rfl⟩) S_63.out ?rz63_13
      try simp only [Act.put, List.setIfInBounds_toArray, List.set_cons_zero, List.set_cons_succ]
      refine wpAnyH_take (i := 13) (oi := ⟨some 72, _, _, _, _, _⟩) (v := undef) rfl (by kernel_rfl) (by kernel_rfl) (by kernel_rfl) (fun _ _ _ h => h) (Or.inr ⟨by rfl, rfl⟩) S_63.out ?rz63_14
      try simp only [Act.put, List.setIfInBounds_toArray, List.set_cons_zero, List.set_cons_succ]
      refine wpAnyH_take (i := 14) (oi := ⟨some 73, _, _, _, _, _⟩) (v := ?vz63_15) rfl (by kernel_rfl) (by kernel_rfl) (by kernel_rfl) (fun _ _ _ h => h) (Or.inl ⟨by rfl, ?yz63_15⟩) S_63.out ?rz63_15
      case yz63_15 =>
        rintro w' hSw
        go_simp
        try with_reducible rfl
      try simp only [Act.put, List.setIfInBounds_toArray, List.set_cons_zero, List.set_cons_succ]
      refine wpAnyH_take (i := 15) (oi := ⟨some 6, _, _, _, _, _⟩) (v := ?vz63_16) rfl (by kernel_rfl) (by kernel_rfl) (by kernel_rfl) (fun _ _ _ h => h) (Or.inl ⟨by rfl, ?yz63_16⟩) S_63.out ?rz63_16
      case yz63_16 =>
        rintro w' hSw
        go_simp
        try with_reducible rfl
      try simp only [Act.put, List.setIfInBounds_toArray, List.set_cons_zero, List.set_cons_succ]
      refine wpAnyH_done (by kernel_rfl) ?_ _
      have RA_64 := Lib.hid (RA_62.out.below S_63.out RA_62.out.lt)
      have RB_64 := Lib.hid (RB_62.out.below S_63.out RB_62.out.lt)
      have RC_64 := Lib.hid (RC_62.out.below S_63.out RC_62.out.lt)
      have RX_64 := Lib.hid (RX_62.out.below S_63.out RX_62.out.lt)
      have RY_64 := Lib.hid (RY_62.out.below S_63.out RY_62.out.lt)
      have B_64 := Lib.hid (B_62.out.trans (S_63.out.mono B_62.out.size))
      clear S_63 RA_62 RB_62 RC_62 RX_62 RY_62 B_62
      go_wp2
      go_ret
      exact ⟨rfl, B_64.out⟩
    · refine wp_region_held_drew (S := fun w' => Below V62.heap.size V62 w') (by kernel_rfl) (Below.refl _ _).drew (fun hHeld => ?_)
      have S_65 := Lib.hid hHeld
      clear hHeld
      generalize V62.drew = D65 at S_65 ⊢
      refine wpAnyH_take (i := 0) (oi := ⟨some 59, _, _, _, _, _⟩) (v := ?vz65_1) rfl (by kernel_rfl) (by kernel_rfl) (by kernel_rfl) (fun _ _ _ h => h) (Or.inl ⟨by rfl, ?yz65_1⟩) S_65.out ?rz65_1
      case yz65_1 =>
        rintro w' hSw
        go_simp
        try with_reducible rfl
      try simp only [Act.put, List.setIfInBounds_toArray, List.set_cons_zero, List.set_cons_succ]
      refine wpAnyH_take (i := 1) (oi := ⟨some 60, _, _, _, _, _⟩) (v := ?vz65_2) rfl (by kernel_rfl) (by kernel_rfl) (by kernel_rfl) (fun _ _ _ h => h) (Or.inl ⟨by rfl, ?yz65_2⟩) S_65.out ?rz65_2
      case yz65_2 =>
        rintro w' hSw
        go_simp
        try with_reducible rfl
      try simp only [Act.put, List.setIfInBounds_toArray, List.set_cons_zero, List.set_cons_succ]
      refine wpAnyH_take (i := 2) (oi := ⟨some 61, _, _, _, _, _⟩) (v := ?vz65_3) rfl (by kernel_rfl) (by kernel_rfl) (by kernel_rfl) (fun _ _ _ h => h) (Or.inl ⟨by rfl, ?yz65_3⟩) S_65.out ?rz65_3
      case yz65_3 =>
        rintro w' hSw
        go_simp
        try with_reducible rfl
      try simp only [Act.put, List.setIfInBounds_toArray, List.set_cons_zero, List.set_cons_succ]
      refine wpAnyH_take (i := 3) (oi := ⟨some 62, _, _, _, _, _⟩) (v := ?vz65_4) rfl (by kernel_rfl) (by kernel_rfl) (by kernel_rfl) (fun _ _ _ h => h) (Or.inl ⟨by rfl, ?yz65_4⟩) S_65.out ?rz65_4
      case yz65_4 =>
        rintro w' hSw
        go_simp
        try with_reducible rfl
      try simp only [Act.put, List.setIfInBounds_toArray, List.set_cons_zero, List.set_cons_succ]
      refine wpAnyH_take (i := 4) (oi := ⟨some 63, _, _, _, _, _⟩) (v := ?vz65_5) rfl (by kernel_rfl) (by kernel_rfl) (by kernel_rfl) (fun _ _ _ h => h) (Or.inl ⟨by rfl, ?yz65_5⟩) S_65.out ?rz65_5
      case yz65_5 =>
        rintro w' hSw
        go_simp
        try with_reducible rfl
      try simp only [Act.put, List.setIfInBounds_toArray, List.set_cons_zero, List.set_cons_succ]
      refine wpAnyH_take (i := 5) (oi := ⟨some 64, _, _, _, _, _⟩) (v := ?vz65_6) rfl (by kernel_rfl) (by kernel_rfl) (by kernel_rfl) (fun _ _ _ h => h) (Or.inl ⟨by rfl, ?yz65_6⟩) S_65.out ?rz65_6
      case yz65_6 =>
        rintro w' hSw
        go_simp
        try with_reducible rfl
      try simp only [Act.put, List.setIfInBounds_toArray, List.set_cons_zero, List.set_cons_succ]
      refine wpAnyH_take (i := 6) (oi := ⟨some 65, _, _, _, _, _⟩) (v := ?vz65_7) rfl (by kernel_rfl) (by kernel_rfl) (by kernel_rfl) (fun _ _ _ h => h) (Or.inl ⟨by rfl, ?yz65_7⟩) S_65.out ?rz65_7
      case yz65_7 =>
        rintro w' hSw
        go_simp
        try with_reducible rfl
      try simp only [Act.put, List.setIfInBounds_toArray, List.set_cons_zero, List.set_cons_succ]
      refine wpAnyH_take (i := 7) (oi := ⟨some 66, _, _, _, _, _⟩) (v := undef) rfl (by kernel_rfl) (by kernel_rfl) (by kernel_rfl) (fun _ _ _ h => h) (Or.inr ⟨by rfl, rfl⟩) S_65.out ?rz65_8
      try simp only [Act.put, List.setIfInBounds_toArray, List.set_cons_zero, List.set_cons_succ]
      refine wpAnyH_take (i := 8) (oi := ⟨some 67, _, _, _, _, _⟩) (v := undef) rfl (by kernel_rfl) (by kernel_rfl) (by kernel_rfl) (fun _ _ _ h => h) (Or.inr ⟨by rfl, rfl⟩) S_65.out ?rz65_9
      try simp only [Act.put, List.setIfInBounds_toArray, List.set_cons_zero, List.set_cons_succ]
      refine wpAnyH_take (i := 9) (oi := ⟨some 68, _, _, _, _, _⟩) (v := undef) rfl (by kernel_rfl) (by kernel_rfl) (by kernel_rfl) (fun _ _ _ h => h) (Or.inr ⟨by rfl, rfl⟩) S_65.out ?rz65_10
      try simp only [Act.put, List.setIfInBounds_toArray, List.set_cons_zero, List.set_cons_succ]
      refine wpAnyH_take (i := 10) (oi := ⟨some 69, _, _, _, _, _⟩) (v := undef) rfl (by kernel_rfl) (by kernel_rfl) (by kernel_rfl) (fun _ _ _ h => h) (Or.inr ⟨by rfl, rfl⟩) S_65.out ?rz65_11
      try simp only [Act.put, List.setIfInBounds_toArray, List.set_cons_zero, List.set_cons_succ]
      refine wpAnyH_take (i := 11) (oi := ⟨some 70, _, _, _, _, _⟩) (v := undef) rfl (by kernel_rfl) (by kernel_rfl) (by kernel_rfl) (fun _ _ _ h => h) (Or.inr ⟨by rfl, rfl⟩) S_65.out ?rz65_12
      try simp only [Act.put, List.setIfInBounds_toArray, List.set_cons_zero, List.set_cons_succ]
      refine wpAnyH_take (i := 12) (oi := ⟨some 71, _, _, _, _, _⟩) (v := undef) rfl (by kernel_rfl) (by kernel_rfl) (by kernel_rfl) (fun _ _ _ h => h) (Or.inr ⟨by rfl, rfl⟩) S_65.out ?rz65_13
      try simp only [Act.put, List.setIfInBounds_toArray, List.set_cons_zero, List.set_cons_succ]
      refine wpAnyH_take (i := 13) (oi := ⟨some 72, _, _, _, _, _⟩) (v := undef) rfl (by kernel_rfl) (by kernel_rfl) (by kernel_rfl) (fun _ _ _ h => h) (Or.inr ⟨by rfl, rfl⟩) S_65.out ?rz65_14
      try simp only [Act.put, List.setIfInBounds_toArray, List.set_cons_zero, List.set_cons_succ]
      refine wpAnyH_take (i := 14) (oi := ⟨some 73, _, _, _, _, _⟩) (v := ?vz65_15) rfl (by kernel_rfl) (by kernel_rfl) (by kernel_rfl) (fun _ _ _ h => h) (Or.inl ⟨by rfl, ?yz65_15⟩) S_65.out ?rz65_15
      case yz65_15 =>
        rintro w' hSw
        go_simp
        try with_reducible rfl
      try simp only [Act.put, List.setIfInBounds_toArray, List.set_cons_zero, List.set_cons_succ]
      refine wpAnyH_take (i := 15) (oi := ⟨some 6, _, _, _, _, _⟩) (v := ?vz65_16) rfl (by kernel_rfl) (by kernel_rfl) (by kernel_rfl) (fun _ _ _ h => h) (Or.inl ⟨by rfl, ?yz65_16⟩) S_65.out ?rz65_16
      case yz65_16 =>
        rintro w' hSw
        go_simp
        try with_reducible rfl
      try simp only [Act.put, List.setIfInBounds_toArray, List.set_cons_zero, List.set_cons_succ]
      refine wpAnyH_done (by kernel_rfl) ?_ _
      have RA_66 := Lib.hid (RA_62.out.below S_65.out RA_62.out.lt)
      have RB_66 := Lib.hid (RB_62.out.below S_65.out RB_62.out.lt)
      have RC_66 := Lib.hid (RC_62.out.below S_65.out RC_62.out.lt)
      have RX_66 := Lib.hid (RX_62.out.below S_65.out RX_62.out.lt)
      have RY_66 := Lib.hid (RY_62.out.below S_65.out RY_62.out.lt)
      have B_66 := Lib.hid (B_62.out.trans (S_65.out.mono B_62.out.size))
      clear S_65 RA_62 RB_62 RC_62 RX_62 RY_62 B_62
      go_wp2
      go_ret
      exact ⟨rfl, B_66.out⟩
    · refine wp_region_held_drew (S := fun w' => Below V62.heap.size V62 w') (by kernel_rfl) (Below.refl _ _).drew (fun hHeld => ?_)
      have S_67 := Lib.hid hHeld
      clear hHeld
      generalize V62.drew = D67 at S_67 ⊢
      refine wpAnyH_take (i := 0) (oi := ⟨some 59, _, _, _, _, _⟩) (v := ?vz67_1) rfl (by kernel_rfl) (by kernel_rfl) (by kernel_rfl) (fun _ _ _ h => h) (Or.inl ⟨by rfl, ?yz67_1⟩) S_67.out ?rz67_1
      case yz67_1 =>
        rintro w' hSw
        go_simp
        try with_reducible rfl
      try simp only [Act.put, List.setIfInBounds_toArray, List.set_cons_zero, List.set_cons_succ]
      refine wpAnyH_take (i := 1) (oi := ⟨some 60, _, _, _, _, _⟩) (v := ?vz67_2) rfl (by kernel_rfl) (by kernel_rfl) (by kernel_rfl) (fun _ _ _ h => h) (Or.inl ⟨by rfl, ?yz67_2⟩) S_67.out ?rz67_2
      case yz67_2 =>
        rintro w' hSw
        go_simp
        try with_reducible rfl
      try simp only [Act.put, List.setIfInBounds_toArray, List.set_cons_zero, List.set_cons_succ]
      refine wpAnyH_take (i := 2) (oi := ⟨some 61, _, _, _, _, _⟩) (v := ?vz67_3) rfl (by kernel_rfl) (by kernel_rfl) (by kernel_rfl) (fun _ _ _ h => h) (Or.inl ⟨by rfl, ?yz67_3⟩) S_67.out ?rz67_3
      case yz67_3 =>
        rintro w' hSw
        go_simp
        try with_reducible rfl
      try simp only [Act.put, List.setIfInBounds_toArray, List.set_cons_zero, List.set_cons_succ]
      refine wpAnyH_take (i := 3) (oi := ⟨some 62, _, _, _, _, _⟩) (v := ?vz67_4) rfl (by kernel_rfl) (by kernel_rfl) (by kernel_rfl) (fun _ _ _ h => h) (Or.inl ⟨by rfl, ?yz67_4⟩) S_67.out ?rz67_4
      case yz67_4 =>
        rintro w' hSw
        go_simp
        try with_reducible rfl
      try simp only [Act.put, List.setIfInBounds_toArray, List.set_cons_zero, List.set_cons_succ]
      refine wpAnyH_take (i := 4) (oi := ⟨some 63, _, _, _, _, _⟩) (v := ?vz67_5) rfl (by kernel_rfl) (by kernel_rfl) (by kernel_rfl) (fun _ _ _ h => h) (Or.inl ⟨by rfl, ?yz67_5⟩) S_67.out ?rz67_5
      case yz67_5 =>
        rintro w' hSw
        go_simp
        try with_reducible rfl
      try simp only [Act.put, List.setIfInBounds_toArray, List.set_cons_zero, List.set_cons_succ]
      refine wpAnyH_take (i := 5) (oi := ⟨some 64, _, _, _, _, _⟩) (v := ?vz67_6) rfl (by kernel_rfl) (by kernel_rfl) (by kernel_rfl) (fun _ _ _ h => h) (Or.inl ⟨by rfl, ?yz67_6⟩) S_67.out ?rz67_6
      case yz67_6 =>
        rintro w' hSw
        go_simp
        try with_reducible rfl
      try simp only [Act.put, List.setIfInBounds_toArray, List.set_cons_zero, List.set_cons_succ]
      refine wpAnyH_take (i := 6) (oi := ⟨some 65, _, _, _, _, _⟩) (v := ?vz67_7) rfl (by kernel_rfl) (by kernel_rfl) (by kernel_rfl) (fun _ _ _ h => h) (Or.inl ⟨by rfl, ?yz67_7⟩) S_67.out ?rz67_7
      case yz67_7 =>
        rintro w' hSw
        go_simp
        try with_reducible rfl
      try simp only [Act.put, List.setIfInBounds_toArray, List.set_cons_zero, List.set_cons_succ]
      refine wpAnyH_take (i := 7) (oi := ⟨some 66, _, _, _, _, _⟩) (v := ?vz67_8) rfl (by kernel_rfl) (by kernel_rfl) (by kernel_rfl) (fun _ _ _ h => h) (Or.inl ⟨by rfl, ?yz67_8⟩) S_67.out ?rz67_8
      case yz67_8 =>
        rintro w' hSw
        have k0 := (RX_62.out.below hSw RX_62.out.lt).cell 0
        have k1 := (RX_62.out.below hSw RX_62.out.lt).cell 1
        simp at k0 k1
        go_simp
        try with_reducible rfl
      try simp only [Act.put, List.setIfInBounds_toArray, List.set_cons_zero, List.set_cons_succ]
      refine wpAnyH_take (i := 8) (oi := ⟨some 67, _, _, _, _, _⟩) (v := ?vz67_9) rfl (by kernel_rfl) (by kernel_rfl) (by kernel_rfl) (fun _ _ _ h => h) (Or.inl ⟨by rfl, ?yz67_9⟩) S_67.out ?rz67_9
      case yz67_9 =>
        rintro w' hSw
        have k0 := (RY_62.out.below hSw RY_62.out.lt).cell 0
        have k1 := (RY_62.out.below hSw RY_62.out.lt).cell 1
        simp at k0 k1
        go_simp
        try with_reducible rfl
      try simp only [Act.put, List.setIfInBounds_toArray, List.set_cons_zero, List.set_cons_succ]
      refine wpAnyH_take (i := 10) (oi := ⟨some 69, _, _, _, _, _⟩) (v := ?vz67_10) rfl (by kernel_rfl) (by kernel_rfl) (by kernel_rfl) (fun _ _ _ h => h) (Or.inl ⟨by rfl, ?yz67_10⟩) S_67.out ?rz67_10
      case yz67_10 =>
        rintro w' hSw
        have k0 := (RA_62.out.below hSw RA_62.out.lt).cell 0
        have k1 := (RA_62.out.below hSw RA_62.out.lt).cell 1
        simp at k0 k1
        go_simp
        try with_reducible rfl
      try simp only [Act.put, List.setIfInBounds_toArray, List.set_cons_zero, List.set_cons_succ]
      refine wpAnyH_take (i := 11) (oi := ⟨some 70, _, _, _, _, _⟩) (v := ?vz67_11) rfl (by kernel_rfl) (by kernel_rfl) (by kernel_rfl) (fun _ _ _ h => h) (Or.inl ⟨by rfl, ?yz67_11⟩) S_67.out ?rz67_11
      case yz67_11 =>
        rintro w' hSw
        have k0 := (RB_62.out.below hSw RB_62.out.lt).cell 0
        have k1 := (RB_62.out.below hSw RB_62.out.lt).cell 1
        simp at k0 k1
        go_simp
        try with_reducible rfl
      try simp only [Act.put, List.setIfInBounds_toArray, List.set_cons_zero, List.set_cons_succ]
      refine wpAnyH_ready (rs := [9]) (by kernel_rfl) (by simp) ?_
      refine (AllReadyH.cons rfl (fun K hK => ?_) AllReadyH.nil)
      go_simp
      refine (HXY.out _).mono ?_
      rintro e Xz67_12 ⟨rfl, hb⟩
      have Sz67_12 := Lib.hid (S_67.out.trans (hb.mono S_67.out.size))
      clear hb S_67
      refine hK _ _ Sz67_12.out (fun _ => ?_)
      clear hK K
      try simp only [Act.put, List.setIfInBounds_toArray, List.set_cons_zero, List.set_cons_succ]
      refine wpAnyH_ready (rs := [12]) (by kernel_rfl) (by simp) ?_
      refine (AllReadyH.cons rfl (fun K hK => ?_) AllReadyH.nil)
      go_simp
      refine (HAB.out _).mono ?_
      rintro e Xz67_13 ⟨rfl, hb⟩
      have Sz67_13 := Lib.hid (Sz67_12.out.trans (hb.mono Sz67_12.out.size))
      clear hb Sz67_12
      refine hK _ _ Sz67_13.out (fun _ => ?_)
      clear hK K
      try simp only [Act.put, List.setIfInBounds_toArray, List.set_cons_zero, List.set_cons_succ]
      refine wpAnyH_take (i := 13) (oi := ⟨some 72, _, _, _, _, _⟩) (v := ?vz67_14) rfl (by kernel_rfl) (by kernel_rfl) (by kernel_rfl) (fun _ _ _ h => h) (Or.inl ⟨by rfl, ?yz67_14⟩) Sz67_13.out ?rz67_14
      case yz67_14 =>
        rintro w' hSw
        go_simp
        try with_reducible rfl
      try simp only [Act.put, List.setIfInBounds_toArray, List.set_cons_zero, List.set_cons_succ]
      refine wpAnyH_take (i := 14) (oi := ⟨some 73, _, _, _, _, _⟩) (v := ?vz67_15) rfl (by kernel_rfl) (by kernel_rfl) (by kernel_rfl) (fun _ _ _ h => h) (Or.inl ⟨by rfl, ?yz67_15⟩) Sz67_13.out ?rz67_15
      case yz67_15 =>
        rintro w' hSw
        go_simp
        try with_reducible rfl
      try simp only [Act.put, List.setIfInBounds_toArray, List.set_cons_zero, List.set_cons_succ]
      refine wpAnyH_take (i := 15) (oi := ⟨some 6, _, _, _, _, _⟩) (v := ?vz67_16) rfl (by kernel_rfl) (by kernel_rfl) (by kernel_rfl) (fun _ _ _ h => h) (Or.inl ⟨by rfl, ?yz67_16⟩) Sz67_13.out ?rz67_16
      case yz67_16 =>
        rintro w' hSw
        go_simp
        try with_reducible rfl
      try simp only [Act.put, List.setIfInBounds_toArray, List.set_cons_zero, List.set_cons_succ]
      refine wpAnyH_done (by kernel_rfl) ?_ _
      have RA_68 := Lib.hid (RA_62.out.below Sz67_13.out RA_62.out.lt)
      have RB_68 := Lib.hid (RB_62.out.below Sz67_13.out RB_62.out.lt)
      have RC_68 := Lib.hid (RC_62.out.below Sz67_13.out RC_62.out.lt)
      have RX_68 := Lib.hid (RX_62.out.below Sz67_13.out RX_62.out.lt)
      have RY_68 := Lib.hid (RY_62.out.below Sz67_13.out RY_62.out.lt)
      have B_68 := Lib.hid (B_62.out.trans (Sz67_13.out.mono B_62.out.size))
      clear Sz67_13 RA_62 RB_62 RC_62 RX_62 RY_62 B_62
      go_wp2
      go_ret
      exact ⟨rfl, B_68.out⟩

set_option maxHeartbeats 8000000 in
theorem walk_e (ah al ch cl : Nat) (w : World) (h1 : ah < 18446744073709551616) (h2 : al < 18446744073709551616) (h5 : ch < 18446744073709551616) (h6 : cl < 18446744073709551616) :
    Calls Try.prog 8 #[.agg #[.int .u64 (ah : Int), .int .u64 (al : Int)], .agg #[.int .u64 (ah : Int), .int .u64 (al : Int)], .agg #[.int .u64 (ch : Int), .int .u64 (cl : Int)]] w fun e w' => e = .returned (.bool true) ∧ Below w.heap.size w w' := by
  have HW := Lib.hid wakes_any
  have hwm : IntKind.i64.wrap (-1) = -1 := by decide
  have hab : cmpM (ah * 18446744073709551616 + al) (ah * 18446744073709551616 + al) = 0 := cmp_e 
  have hba : cmpM (ah * 18446744073709551616 + al) (ah * 18446744073709551616 + al) = 0 := cmp_e 
  obtain ⟨q, hbc⟩ : ∃ q, cmpM (ah * 18446744073709551616 + al) (ch * 18446744073709551616 + cl) = q := ⟨_, rfl⟩
  obtain ⟨r, hac⟩ : ∃ q, cmpM (ah * 18446744073709551616 + al) (ch * 18446744073709551616 + cl) = q := ⟨_, rfl⟩
  have HAB := Lib.hid (fun w => Cmp_is ah al ah al w h1 h2 h1 h2 hab)
  have HBA := Lib.hid (fun w => Cmp_is ah al ah al w h1 h2 h1 h2 hba)
  have HBC := Lib.hid (fun w => Cmp_is ah al ch cl w h1 h2 h5 h6 hbc)
  have HAC := Lib.hid (fun w => Cmp_is ah al ch cl w h1 h2 h5 h6 hac)
  have hqq := cmp_way (Nat.le_refl _) hbc hac
  obtain ⟨c, xh, xl, hx1, hx2, hc, hs⟩ := sum_parts (ah * 18446744073709551616 + al) (ch * 18446744073709551616 + cl) (two_lt h1 h2) (two_lt h5 h6)
  obtain ⟨d, yh, yl, hy1, hy2, hd, ht⟩ := sum_parts (ah * 18446744073709551616 + al) (ch * 18446744073709551616 + cl) (two_lt h1 h2) (two_lt h5 h6)
  have HS := Lib.hid (fun w => Add_any ah al ch cl xh xl c w h1 h2 h5 h6 hx1 hx2 hs)
  have HT := Lib.hid (fun w => Add_any ah al ch cl yh yl d w h1 h2 h5 h6 hy1 hy2 ht)
  obtain ⟨s, hxy⟩ : ∃ q, cmpM (xh * 18446744073709551616 + xl) (yh * 18446744073709551616 + yl) = q := ⟨_, rfl⟩
  have HXY := Lib.hid (fun w => Cmp_is xh xl yh yl w hx1 hx2 hy1 hy2 hxy)
  have hfl := flags hs ht hxy hab
  clear hs ht hc hd hxy hab hba hbc hac
  generalize decide (c = 0) = f1 at HS hfl
  generalize decide (d = 0) = f2 at HT hfl
  clear h1 h2  h5 h6 hx1 hx2 hy1 hy2 
  go_enter Try.func8, Try.ntmps8
  go_upto_region 1 with fail
  have RA_0 := Lib.hid (((row_last w (w.heap.size) 25 [.int .u64 (ah : Int), .int .u64 (al : Int)] (by simp)).alloc (.cells #[.int .u64 (ah : Int), .int .u64 (al : Int)] 25)).alloc (.cells #[.int .u64 (ch : Int), .int .u64 (cl : Int)] 25))
  have RB_0 := Lib.hid ((row_last (w.alloc (.cells #[.int .u64 (ah : Int), .int .u64 (al : Int)] 25)) (w.heap.size + 1) 25 [.int .u64 (ah : Int), .int .u64 (al : Int)] (by simp)).alloc (.cells #[.int .u64 (ch : Int), .int .u64 (cl : Int)] 25))
  have RC_0 := Lib.hid (row_last ((w.alloc (.cells #[.int .u64 (ah : Int), .int .u64 (al : Int)] 25)).alloc (.cells #[.int .u64 (ah : Int), .int .u64 (al : Int)] 25)) (w.heap.size + 1 + 1) 25 [.int .u64 (ch : Int), .int .u64 (cl : Int)] (by simp))
  have B_0 := Lib.hid ((((Below.refl w.heap.size w).alloc (Nat.le_refl _) (.cells #[.int .u64 (ah : Int), .int .u64 (al : Int)] 25)).alloc (by simp <;> omega) (.cells #[.int .u64 (ah : Int), .int .u64 (al : Int)] 25)).alloc (by simp <;> omega) (.cells #[.int .u64 (ch : Int), .int .u64 (cl : Int)] 25))
  generalize (((w.alloc (.cells #[.int .u64 (ah : Int), .int .u64 (al : Int)] 25)).alloc (.cells #[.int .u64 (ah : Int), .int .u64 (al : Int)] 25)).alloc (.cells #[.int .u64 (ch : Int), .int .u64 (cl : Int)] 25)) = V0 at RA_0 RB_0 RC_0 B_0 ⊢
  go_wp2_with fail
  refine (HW.out _).mono ?_
  rintro e W69 ⟨rfl, hb⟩
  have RA_70 := Lib.hid (RA_0.out.below hb RA_0.out.lt)
  have RB_70 := Lib.hid (RB_0.out.below hb RB_0.out.lt)
  have RC_70 := Lib.hid (RC_0.out.below hb RC_0.out.lt)
  have B_70 := Lib.hid (B_0.out.trans (hb.mono B_0.out.size))
  clear hb RA_0 RB_0 RC_0 B_0
  go_wp2_with fail
  refine wp_region_held_drew (S := fun w' => Below W69.heap.size W69 w') (by kernel_rfl) (Below.refl _ _).drew (fun hHeld => ?_)
  have S_71 := Lib.hid hHeld
  clear hHeld
  generalize W69.drew = D71 at S_71 ⊢
  refine wpAnyH_take (i := 0) (oi := ⟨some 13, _, _, _, _, _⟩) (v := ?vz71_1) rfl (by kernel_rfl) (by kernel_rfl) (by kernel_rfl) (fun _ _ _ h => h) (Or.inl ⟨by rfl, ?yz71_1⟩) S_71.out ?rz71_1
  case yz71_1 =>
    rintro w' hSw
    have k0 := (RA_70.out.below hSw RA_70.out.lt).cell 0
    have k1 := (RA_70.out.below hSw RA_70.out.lt).cell 1
    simp at k0 k1
    go_simp
    try with_reducible rfl
  try simp only [Act.put, List.setIfInBounds_toArray, List.set_cons_zero, List.set_cons_succ]
  refine wpAnyH_take (i := 1) (oi := ⟨some 14, _, _, _, _, _⟩) (v := ?vz71_2) rfl (by kernel_rfl) (by kernel_rfl) (by kernel_rfl) (fun _ _ _ h => h) (Or.inl ⟨by rfl, ?yz71_2⟩) S_71.out ?rz71_2
  case yz71_2 =>
    rintro w' hSw
    have k0 := (RB_70.out.below hSw RB_70.out.lt).cell 0
    have k1 := (RB_70.out.below hSw RB_70.out.lt).cell 1
    simp at k0 k1
    go_simp
    try with_reducible rfl
  try simp only [Act.put, List.setIfInBounds_toArray, List.set_cons_zero, List.set_cons_succ]
  refine wpAnyH_take (i := 3) (oi := ⟨some 16, _, _, _, _, _⟩) (v := ?vz71_3) rfl (by kernel_rfl) (by kernel_rfl) (by kernel_rfl) (fun _ _ _ h => h) (Or.inl ⟨by rfl, ?yz71_3⟩) S_71.out ?rz71_3
  case yz71_3 =>
    rintro w' hSw
    have k0 := (RB_70.out.below hSw RB_70.out.lt).cell 0
    have k1 := (RB_70.out.below hSw RB_70.out.lt).cell 1
    simp at k0 k1
    go_simp
    try with_reducible rfl
  try simp only [Act.put, List.setIfInBounds_toArray, List.set_cons_zero, List.set_cons_succ]
  refine wpAnyH_take (i := 4) (oi := ⟨some 17, _, _, _, _, _⟩) (v := ?vz71_4) rfl (by kernel_rfl) (by kernel_rfl) (by kernel_rfl) (fun _ _ _ h => h) (Or.inl ⟨by rfl, ?yz71_4⟩) S_71.out ?rz71_4
  case yz71_4 =>
    rintro w' hSw
    have k0 := (RA_70.out.below hSw RA_70.out.lt).cell 0
    have k1 := (RA_70.out.below hSw RA_70.out.lt).cell 1
    simp at k0 k1
    go_simp
    try with_reducible rfl
  try simp only [Act.put, List.setIfInBounds_toArray, List.set_cons_zero, List.set_cons_succ]
  refine wpAnyH_ready (rs := [2]) (by kernel_rfl) (by simp) ?_
  refine (AllReadyH.cons rfl (fun K hK => ?_) AllReadyH.nil)
  go_simp
  refine (HAB.out _).mono ?_
  rintro e Xz71_5 ⟨rfl, hb⟩
  have Sz71_5 := Lib.hid (S_71.out.trans (hb.mono S_71.out.size))
  clear hb S_71
  refine hK _ _ Sz71_5.out (fun _ => ?_)
  clear hK K
  try simp only [Act.put, List.setIfInBounds_toArray, List.set_cons_zero, List.set_cons_succ]
  refine wpAnyH_ready (rs := [5]) (by kernel_rfl) (by simp) ?_
  refine (AllReadyH.cons rfl (fun K hK => ?_) AllReadyH.nil)
  go_simp
  refine (HBA.out _).mono ?_
  rintro e Xz71_6 ⟨rfl, hb⟩
  have Sz71_6 := Lib.hid (Sz71_5.out.trans (hb.mono Sz71_5.out.size))
  clear hb Sz71_5
  refine hK _ _ Sz71_6.out (fun _ => ?_)
  clear hK K
  try simp only [Act.put, List.setIfInBounds_toArray, List.set_cons_zero, List.set_cons_succ]
  refine wpAnyH_take (i := 6) (oi := ⟨some 19, _, _, _, _, _⟩) (v := ?vz71_7) rfl (by kernel_rfl) (by kernel_rfl) (by kernel_rfl) (fun _ _ _ h => h) (Or.inl ⟨by rfl, ?yz71_7⟩) Sz71_6.out ?rz71_7
  case yz71_7 =>
    rintro w' hSw
    go_simp
    try with_reducible rfl
  try simp only [Act.put, List.setIfInBounds_toArray, List.set_cons_zero, List.set_cons_succ]
  refine wpAnyH_take (i := 7) (oi := ⟨some 20, _, _, _, _, _⟩) (v := ?vz71_8) rfl (by kernel_rfl) (by kernel_rfl) (by kernel_rfl) (fun _ _ _ h => h) (Or.inl ⟨by rfl, ?yz71_8⟩) Sz71_6.out ?rz71_8
  case yz71_8 =>
    rintro w' hSw
    go_simp
    try with_reducible rfl
  try simp only [Act.put, List.setIfInBounds_toArray, List.set_cons_zero, List.set_cons_succ]
  refine wpAnyH_take (i := 8) (oi := ⟨some 21, _, _, _, _, _⟩) (v := ?vz71_9) rfl (by kernel_rfl) (by kernel_rfl) (by kernel_rfl) (fun _ _ _ h => h) (Or.inl ⟨by rfl, ?yz71_9⟩) Sz71_6.out ?rz71_9
  case yz71_9 =>
    rintro w' hSw
    go_simp
    try with_reducible rfl
  try simp only [Act.put, List.setIfInBounds_toArray, List.set_cons_zero, List.set_cons_succ]
  refine wpAnyH_take (i := 9) (oi := ⟨some 22, _, _, _, _, _⟩) (v := ?vz71_10) rfl (by kernel_rfl) (by kernel_rfl) (by kernel_rfl) (fun _ _ _ h => h) (Or.inl ⟨by rfl, ?yz71_10⟩) Sz71_6.out ?rz71_10
  case yz71_10 =>
    rintro w' hSw
    have k0 := (RA_70.out.below hSw RA_70.out.lt).cell 0
    have k1 := (RA_70.out.below hSw RA_70.out.lt).cell 1
    simp at k0 k1
    go_simp
    try with_reducible rfl
  try simp only [Act.put, List.setIfInBounds_toArray, List.set_cons_zero, List.set_cons_succ]
  refine wpAnyH_take (i := 10) (oi := ⟨some 23, _, _, _, _, _⟩) (v := ?vz71_11) rfl (by kernel_rfl) (by kernel_rfl) (by kernel_rfl) (fun _ _ _ h => h) (Or.inl ⟨by rfl, ?yz71_11⟩) Sz71_6.out ?rz71_11
  case yz71_11 =>
    rintro w' hSw
    have k0 := (RB_70.out.below hSw RB_70.out.lt).cell 0
    have k1 := (RB_70.out.below hSw RB_70.out.lt).cell 1
    simp at k0 k1
    go_simp
    try with_reducible rfl
  try simp only [Act.put, List.setIfInBounds_toArray, List.set_cons_zero, List.set_cons_succ]
  refine wpAnyH_take (i := 13) (oi := ⟨some 26, _, _, _, _, _⟩) (v := ?vz71_12) rfl (by kernel_rfl) (by kernel_rfl) (by kernel_rfl) (fun _ _ _ h => h) (Or.inl ⟨by rfl, ?yz71_12⟩) Sz71_6.out ?rz71_12
  case yz71_12 =>
    rintro w' hSw
    have k0 := (RA_70.out.below hSw RA_70.out.lt).cell 0
    have k1 := (RA_70.out.below hSw RA_70.out.lt).cell 1
    simp at k0 k1
    go_simp
    try with_reducible rfl
  try simp only [Act.put, List.setIfInBounds_toArray, List.set_cons_zero, List.set_cons_succ]
  refine wpAnyH_take (i := 14) (oi := ⟨some 27, _, _, _, _, _⟩) (v := ?vz71_13) rfl (by kernel_rfl) (by kernel_rfl) (by kernel_rfl) (fun _ _ _ h => h) (Or.inl ⟨by rfl, ?yz71_13⟩) Sz71_6.out ?rz71_13
  case yz71_13 =>
    rintro w' hSw
    have k0 := (RB_70.out.below hSw RB_70.out.lt).cell 0
    have k1 := (RB_70.out.below hSw RB_70.out.lt).cell 1
    simp at k0 k1
    go_simp
    try with_reducible rfl
  try simp only [Act.put, List.setIfInBounds_toArray, List.set_cons_zero, List.set_cons_succ]
  refine wpAnyH_take (i := 15) (oi := ⟨some 28, _, _, _, _, _⟩) (v := ?vz71_14) rfl (by kernel_rfl) (by kernel_rfl) (by kernel_rfl) (fun _ _ _ h => h) (Or.inl ⟨by rfl, ?yz71_14⟩) Sz71_6.out ?rz71_14
  case yz71_14 =>
    rintro w' hSw
    go_simp
    try with_reducible rfl
  try simp only [Act.put, List.setIfInBounds_toArray, List.set_cons_zero, List.set_cons_succ]
  refine wpAnyH_ready (rs := [11]) (by kernel_rfl) (by simp) ?_
  refine (AllReadyH.cons rfl (fun K hK => ?_) AllReadyH.nil)
  go_simp
  refine (HAB.out _).mono ?_
  rintro e Xz71_15 ⟨rfl, hb⟩
  have Sz71_15 := Lib.hid (Sz71_6.out.trans (hb.mono Sz71_6.out.size))
  clear hb Sz71_6
  refine hK _ _ Sz71_15.out (fun _ => ?_)
  clear hK K
  try simp only [Act.put, List.setIfInBounds_toArray, List.set_cons_zero, List.set_cons_succ]
  refine wpAnyH_take (i := 12) (oi := ⟨some 25, _, _, _, _, _⟩) (v := ?vz71_16) rfl (by kernel_rfl) (by kernel_rfl) (by kernel_rfl) (fun _ _ _ h => h) (Or.inl ⟨by rfl, ?yz71_16⟩) Sz71_15.out ?rz71_16
  case yz71_16 =>
    rintro w' hSw
    go_simp
    try with_reducible rfl
  try simp only [Act.put, List.setIfInBounds_toArray, List.set_cons_zero, List.set_cons_succ]
  refine wpAnyH_take (i := 16) (oi := ⟨some 29, _, _, _, _, _⟩) (v := ?vz71_17) rfl (by kernel_rfl) (by kernel_rfl) (by kernel_rfl) (fun _ _ _ h => h) (Or.inl ⟨by rfl, ?yz71_17⟩) Sz71_15.out ?rz71_17
  case yz71_17 =>
    rintro w' hSw
    go_simp
    try with_reducible rfl
  try simp only [Act.put, List.setIfInBounds_toArray, List.set_cons_zero, List.set_cons_succ]
  refine wpAnyH_take (i := 17) (oi := ⟨some 30, _, _, _, _, _⟩) (v := ?vz71_18) rfl (by kernel_rfl) (by kernel_rfl) (by kernel_rfl) (fun _ _ _ h => h) (Or.inl ⟨by rfl, ?yz71_18⟩) Sz71_15.out ?rz71_18
  case yz71_18 =>
    rintro w' hSw
    go_simp
    try with_reducible rfl
  try simp only [Act.put, List.setIfInBounds_toArray, List.set_cons_zero, List.set_cons_succ]
  refine wpAnyH_done (by kernel_rfl) ?_ _
  have RA_72 := Lib.hid (RA_70.out.below Sz71_15.out RA_70.out.lt)
  have RB_72 := Lib.hid (RB_70.out.below Sz71_15.out RB_70.out.lt)
  have RC_72 := Lib.hid (RC_70.out.below Sz71_15.out RC_70.out.lt)
  have B_72 := Lib.hid (B_70.out.trans (Sz71_15.out.mono B_70.out.size))
  clear Sz71_15 RA_70 RB_70 RC_70 B_70
  have c0_0 := RA_72.out.cell 0
  have c0_1 := RA_72.out.cell 1
  simp at c0_0 c0_1
  have l0 := RA_72.out.lt
  have c1_0 := RB_72.out.cell 0
  have c1_1 := RB_72.out.cell 1
  simp at c1_0 c1_1
  have l1 := RB_72.out.lt
  have c2_0 := RC_72.out.cell 0
  have c2_1 := RC_72.out.cell 1
  simp at c2_0 c2_1
  have l2 := RC_72.out.lt
  go_wp2_with fail
  refine (HAB.out _).mono ?_
  rintro e W73 ⟨rfl, hb⟩
  clear c0_0 c0_1 l0 c1_0 c1_1 l1 c2_0 c2_1 l2
  have RA_74 := Lib.hid (RA_72.out.below hb RA_72.out.lt)
  have RB_74 := Lib.hid (RB_72.out.below hb RB_72.out.lt)
  have RC_74 := Lib.hid (RC_72.out.below hb RC_72.out.lt)
  have B_74 := Lib.hid (B_72.out.trans (hb.mono B_72.out.size))
  clear hb RA_72 RB_72 RC_72 B_72
  have c0_0 := RA_74.out.cell 0
  have c0_1 := RA_74.out.cell 1
  simp at c0_0 c0_1
  have l0 := RA_74.out.lt
  have c1_0 := RB_74.out.cell 0
  have c1_1 := RB_74.out.cell 1
  simp at c1_0 c1_1
  have l1 := RB_74.out.lt
  have c2_0 := RC_74.out.cell 0
  have c2_1 := RC_74.out.cell 1
  simp at c2_0 c2_1
  have l2 := RC_74.out.lt
  go_wp2_with fail
  refine (HBC.out _).mono ?_
  rintro e W75 ⟨rfl, hb⟩
  clear c0_0 c0_1 l0 c1_0 c1_1 l1 c2_0 c2_1 l2
  have RA_76 := Lib.hid (RA_74.out.below hb RA_74.out.lt)
  have RB_76 := Lib.hid (RB_74.out.below hb RB_74.out.lt)
  have RC_76 := Lib.hid (RC_74.out.below hb RC_74.out.lt)
  have B_76 := Lib.hid (B_74.out.trans (hb.mono B_74.out.size))
  clear hb RA_74 RB_74 RC_74 B_74
  rcases hqq with hq | ⟨hq, hr⟩
  · have c0_0 := RA_76.out.cell 0
    have c0_1 := RA_76.out.cell 1
    simp at c0_0 c0_1
    have l0 := RA_76.out.lt
    have c1_0 := RB_76.out.cell 0
    have c1_1 := RB_76.out.cell 1
    simp at c1_0 c1_1
    have l1 := RB_76.out.lt
    have c2_0 := RC_76.out.cell 0
    have c2_1 := RC_76.out.cell 1
    simp at c2_0 c2_1
    have l2 := RC_76.out.lt
    go_wp2_with fail
    refine (HS.out _).mono ?_
    rintro e W77 ⟨rfl, hb⟩
    clear c0_0 c0_1 l0 c1_0 c1_1 l1 c2_0 c2_1 l2
    have RA_78 := Lib.hid (RA_76.out.below hb RA_76.out.lt)
    have RB_78 := Lib.hid (RB_76.out.below hb RB_76.out.lt)
    have RC_78 := Lib.hid (RC_76.out.below hb RC_76.out.lt)
    have B_78 := Lib.hid (B_76.out.trans (hb.mono B_76.out.size))
    clear hb RA_76 RB_76 RC_76 B_76
    have RA_79 := Lib.hid (RA_78.out.alloc (.cells #[.int .u64 (xh : Int), .int .u64 (xl : Int)] 25))
    have RB_79 := Lib.hid (RB_78.out.alloc (.cells #[.int .u64 (xh : Int), .int .u64 (xl : Int)] 25))
    have RC_79 := Lib.hid (RC_78.out.alloc (.cells #[.int .u64 (xh : Int), .int .u64 (xl : Int)] 25))
    have RX_79 := Lib.hid (Row.new W77 25 [.int .u64 (xh : Int), .int .u64 (xl : Int)])
    have B_79 := Lib.hid (B_78.out.alloc B_78.out.size (.cells #[.int .u64 (xh : Int), .int .u64 (xl : Int)] 25))
    go_upto_region 8 with fail
    obtain ⟨gRX, hgRX⟩ : ∃ g, g = W77.heap.size := ⟨_, rfl⟩
    clear RA_78 RB_78 RC_78 B_78
    rw [← hgRX] at RX_79 ⊢
    clear hgRX
    generalize W77.alloc (.cells #[.int .u64 (xh : Int), .int .u64 (xl : Int)] 25) = V79 at RA_79 RB_79 RC_79 RX_79 B_79 ⊢
    have c0_0 := RA_79.out.cell 0
    have c0_1 := RA_79.out.cell 1
    simp at c0_0 c0_1
    have l0 := RA_79.out.lt
    have c1_0 := RB_79.out.cell 0
    have c1_1 := RB_79.out.cell 1
    simp at c1_0 c1_1
    have l1 := RB_79.out.lt
    have c2_0 := RC_79.out.cell 0
    have c2_1 := RC_79.out.cell 1
    simp at c2_0 c2_1
    have l2 := RC_79.out.lt
    have c3_0 := RX_79.out.cell 0
    have c3_1 := RX_79.out.cell 1
    simp at c3_0 c3_1
    have l3 := RX_79.out.lt
    go_wp2_with fail
    refine (HT.out _).mono ?_
    rintro e W80 ⟨rfl, hb⟩
    clear c0_0 c0_1 l0 c1_0 c1_1 l1 c2_0 c2_1 l2 c3_0 c3_1 l3
    have RA_81 := Lib.hid (RA_79.out.below hb RA_79.out.lt)
    have RB_81 := Lib.hid (RB_79.out.below hb RB_79.out.lt)
    have RC_81 := Lib.hid (RC_79.out.below hb RC_79.out.lt)
    have RX_81 := Lib.hid (RX_79.out.below hb RX_79.out.lt)
    have B_81 := Lib.hid (B_79.out.trans (hb.mono B_79.out.size))
    clear hb RA_79 RB_79 RC_79 RX_79 B_79
    have RA_82 := Lib.hid (RA_81.out.alloc (.cells #[.int .u64 (yh : Int), .int .u64 (yl : Int)] 25))
    have RB_82 := Lib.hid (RB_81.out.alloc (.cells #[.int .u64 (yh : Int), .int .u64 (yl : Int)] 25))
    have RC_82 := Lib.hid (RC_81.out.alloc (.cells #[.int .u64 (yh : Int), .int .u64 (yl : Int)] 25))
    have RX_82 := Lib.hid (RX_81.out.alloc (.cells #[.int .u64 (yh : Int), .int .u64 (yl : Int)] 25))
    have RY_82 := Lib.hid (Row.new W80 25 [.int .u64 (yh : Int), .int .u64 (yl : Int)])
    have B_82 := Lib.hid (B_81.out.alloc B_81.out.size (.cells #[.int .u64 (yh : Int), .int .u64 (yl : Int)] 25))
    go_upto_region 9 with fail
    obtain ⟨gRY, hgRY⟩ : ∃ g, g = W80.heap.size := ⟨_, rfl⟩
    clear RA_81 RB_81 RC_81 RX_81 B_81
    rw [← hgRY] at RY_82 ⊢
    clear hgRY
    generalize W80.alloc (.cells #[.int .u64 (yh : Int), .int .u64 (yl : Int)] 25) = V82 at RA_82 RB_82 RC_82 RX_82 RY_82 B_82 ⊢
    rcases hfl with rfl | ⟨rfl, rfl⟩ | ⟨rfl, rfl, rfl⟩
    · refine wp_region_held_drew (S := fun w' => Below V82.heap.size V82 w') (by kernel_rfl) (Below.refl _ _).drew (fun hHeld => ?_)
      have S_83 := Lib.hid hHeld
      clear hHeld
      generalize V82.drew = D83 at S_83 ⊢
      refine wpAnyH_take (i := 0) (oi := ⟨some 59, _, _, _, _, _⟩) (v := ?vz83_1) rfl (by kernel_rfl) (by kernel_rfl) (by kernel_rfl) (fun _ _ _ h => h) (Or.inl ⟨by rfl, ?yz83_1⟩) S_83.out ?rz83_1
      case yz83_1 =>
        rintro w' hSw
        go_simp
        try with_reducible rfl
      try simp only [Act.put, List.setIfInBounds_toArray, List.set_cons_zero, List.set_cons_succ]
      refine wpAnyH_take (i := 1) (oi := ⟨some 60, _, _, _, _, _⟩) (v := ?vz83_2) rfl (by kernel_rfl) (by kernel_rfl) (by kernel_rfl) (fun _ _ _ h => h) (Or.inl ⟨by rfl, ?yz83_2⟩) S_83.out ?rz83_2
      case yz83_2 =>
        rintro w' hSw
        go_simp
        try with_reducible rfl
      try simp only [Act.put, List.setIfInBounds_toArray, List.set_cons_zero, List.set_cons_succ]
      refine wpAnyH_take (i := 2) (oi := ⟨some 61, _, _, _, _, _⟩) (v := ?vz83_3) rfl (by kernel_rfl) (by kernel_rfl) (by kernel_rfl) (fun _ _ _ h => h) (Or.inl ⟨by rfl, ?yz83_3⟩) S_83.out ?rz83_3
      case yz83_3 =>
        rintro w' hSw
        go_simp
        try with_reducible rfl
      try simp only [Act.put, List.setIfInBounds_toArray, List.set_cons_zero, List.set_cons_succ]
      refine wpAnyH_take (i := 3) (oi := ⟨some 62, _, _, _, _, _⟩) (v := undef) rfl (by kernel_rfl) (by kernel_rfl) (by kernel_rfl) (fun _ _ _ h => h) (Or.inr ⟨by rfl, rfl⟩) S_83.out ?rz83_4
      try simp only [Act.put, List.setIfInBounds_toArray, List.set_cons_zero, List.set_cons_succ]
      refine wpAnyH_take (i := 4) (oi := ⟨some 63, _, _, _, _, _⟩) (v := undef) rfl (by kernel_rfl) (by kernel_rfl) (by kernel_rfl) (fun _ _ _ h => h) (Or.inr ⟨by rfl, rfl⟩) S_83.out ?rz83_5
      try simp only [Act.put, List.setIfInBounds_toArray, List.set_cons_zero, List.set_cons_succ]
      refine wpAnyH_take (i := 5) (oi := ⟨some 64, _, _, _, _, _⟩) (v := ?vz83_6) rfl (by kernel_rfl) (by kernel_rfl) (by kernel_rfl) (fun _ _ _ h => h) (Or.inl ⟨by rfl, ?yz83_6⟩) S_83.out ?rz83_6
      case yz83_6 =>
        rintro w' hSw
        go_simp
        try with_reducible rfl
      try simp only [Act.put, List.setIfInBounds_toArray, List.set_cons_zero, List.set_cons_succ]
      refine wpAnyH_take (i := 6) (oi := ⟨some 65, _, _, _, _, _⟩) (v := ?vz83_7) rfl (by kernel_rfl) (by kernel_rfl) (by kernel_rfl) (fun _ _ _ h => h) (Or.inl ⟨by rfl, ?yz83_7⟩) S_83.out ?rz83_7
      case yz83_7 =>
        rintro w' hSw
        go_simp
        try with_reducible rfl
      try simp only [Act.put, List.setIfInBounds_toArray, List.set_cons_zero, List.set_cons_succ]
      refine wpAnyH_take (i := 7) (oi := ⟨some 66, _, _, _, _, _⟩) (v := undef) rfl (by kernel_rfl) (by kernel_rfl) (by kernel_rfl) (fun _ _ _ h => h) (Or.inr ⟨by rfl, rfl⟩) S_83.out ?rz83_8
      try simp only [Act.put, List.setIfInBounds_toArray, List.set_cons_zero, List.set_cons_succ]
      refine wpAnyH_take (i := 8) (oi := ⟨some 67, _, _, _, _, _⟩) (v := undef) rfl (by kernel_rfl) (by kernel_rfl) (by kernel_rfl) (fun _ _ _ h => h) (Or.inr ⟨by rfl, rfl⟩) S_83.out ?rz83_9
      try simp only [Act.put, List.setIfInBounds_toArray, List.set_cons_zero, List.set_cons_succ]
      refine wpAnyH_take (i := 9) (oi := ⟨some 68, _, _, _, _, _⟩) (v := undef) rfl (by kernel_rfl) (by kernel_rfl) (by kernel_rfl) (fun _ _ _ h => h) (Or.inr ⟨by rfl, rfl⟩) S_83.out ?rz83_10
      try simp only [Act.put, List.setIfInBounds_toArray, List.set_cons_zero, List.set_cons_succ]
      refine wpAnyH_take (i := 10) (oi := ⟨some 69, _, _, _, _, _⟩) (v := undef) rfl (by kernel_rfl) (by kernel_rfl) (by kernel_rfl) (fun _ _ _ h => h) (Or.inr ⟨by rfl, rfl⟩) S_83.out ?rz83_11
      try simp only [Act.put, List.setIfInBounds_toArray, List.set_cons_zero, List.set_cons_succ]
      refine wpAnyH_take (i := 11) (oi := ⟨some 70, _, _, _, _, _⟩) (v := undef) rfl (by kernel_rfl) (by kernel_rfl) (by kernel_rfl) (fun _ _ _ h => h) (Or.inr ⟨by rfl, rfl⟩) S_83.out ?rz83_12
      try simp only [Act.put, List.setIfInBounds_toArray, List.set_cons_zero, List.set_cons_succ]
      refine wpAnyH_take (i := 12) (oi := ⟨some 71, _, _, _, _, _⟩) (v := undef) rfl (by kernel_rfl) (by kernel_rfl) (by kernel_rfl) (fun _ _ _ h => h) (Or.inr ⟨by rfl, rfl⟩) S_83.out ?rz83_13
      try simp only [Act.put, List.setIfInBounds_toArray, List.set_cons_zero, List.set_cons_succ]
      refine wpAnyH_take (i := 13) (oi := ⟨some 72, _, _, _, _, _⟩) (v := undef) rfl (by kernel_rfl) (by kernel_rfl) (by kernel_rfl) (fun _ _ _ h => h) (Or.inr ⟨by rfl, rfl⟩) S_83.out ?rz83_14
      try simp only [Act.put, List.setIfInBounds_toArray, List.set_cons_zero, List.set_cons_succ]
      refine wpAnyH_take (i := 14) (oi := ⟨some 73, _, _, _, _, _⟩) (v := ?vz83_15) rfl (by kernel_rfl) (by kernel_rfl) (by kernel_rfl) (fun _ _ _ h => h) (Or.inl ⟨by rfl, ?yz83_15⟩) S_83.out ?rz83_15
      case yz83_15 =>
        rintro w' hSw
        go_simp
        try with_reducible rfl
      try simp only [Act.put, List.setIfInBounds_toArray, List.set_cons_zero, List.set_cons_succ]
      refine wpAnyH_take (i := 15) (oi := ⟨some 6, _, _, _, _, _⟩) (v := ?vz83_16) rfl (by kernel_rfl) (by kernel_rfl) (by kernel_rfl) (fun _ _ _ h => h) (Or.inl ⟨by rfl, ?yz83_16⟩) S_83.out ?rz83_16
      case yz83_16 =>
        rintro w' hSw
        go_simp
        try with_reducible rfl
      try simp only [Act.put, List.setIfInBounds_toArray, List.set_cons_zero, List.set_cons_succ]
      refine wpAnyH_done (by kernel_rfl) ?_ _
      have RA_84 := Lib.hid (RA_82.out.below S_83.out RA_82.out.lt)
      have RB_84 := Lib.hid (RB_82.out.below S_83.out RB_82.out.lt)
      have RC_84 := Lib.hid (RC_82.out.below S_83.out RC_82.out.lt)
      have RX_84 := Lib.hid (RX_82.out.below S_83.out RX_82.out.lt)
      have RY_84 := Lib.hid (RY_82.out.below S_83.out RY_82.out.lt)
      have B_84 := Lib.hid (B_82.out.trans (S_83.out.mono B_82.out.size))
      clear S_83 RA_82 RB_82 RC_82 RX_82 RY_82 B_82
      go_wp2
      go_ret
      exact ⟨rfl, B_84.out⟩
    · refine wp_region_held_drew (S := fun w' => Below V82.heap.size V82 w') (by kernel_rfl) (Below.refl _ _).drew (fun hHeld => ?_)
      have S_85 := Lib.hid hHeld
      clear hHeld
      generalize V82.drew = D85 at S_85 ⊢
      refine wpAnyH_take (i := 0) (oi := ⟨some 59, _, _, _, _, _⟩) (v := ?vz85_1) rfl (by kernel_rfl) (by kernel_rfl) (by kernel_rfl) (fun _ _ _ h => h) (Or.inl ⟨by rfl, ?yz85_1⟩) S_85.out ?rz85_1
      case yz85_1 =>
        rintro w' hSw
        go_simp
        try with_reducible rfl
      try simp only [Act.put, List.setIfInBounds_toArray, List.set_cons_zero, List.set_cons_succ]
      refine wpAnyH_take (i := 1) (oi := ⟨some 60, _, _, _, _, _⟩) (v := ?vz85_2) rfl (by kernel_rfl) (by kernel_rfl) (by kernel_rfl) (fun _ _ _ h => h) (Or.inl ⟨by rfl, ?yz85_2⟩) S_85.out ?rz85_2
      case yz85_2 =>
        rintro w' hSw
        go_simp
        try with_reducible rfl
      try simp only [Act.put, List.setIfInBounds_toArray, List.set_cons_zero, List.set_cons_succ]
      refine wpAnyH_take (i := 2) (oi := ⟨some 61, _, _, _, _, _⟩) (v := ?vz85_3) rfl (by kernel_rfl) (by kernel_rfl) (by kernel_rfl) (fun _ _ _ h => h) (Or.inl ⟨by rfl, ?yz85_3⟩) S_85.out ?rz85_3
      case yz85_3 =>
        rintro w' hSw
        go_simp
        try with_reducible rfl
      try simp only [Act.put, List.setIfInBounds_toArray, List.set_cons_zero, List.set_cons_succ]
      refine wpAnyH_take (i := 3) (oi := ⟨some 62, _, _, _, _, _⟩) (v := ?vz85_4) rfl (by kernel_rfl) (by kernel_rfl) (by kernel_rfl) (fun _ _ _ h => h) (Or.inl ⟨by rfl, ?yz85_4⟩) S_85.out ?rz85_4
      case yz85_4 =>
        rintro w' hSw
        go_simp
        try with_reducible rfl
      try simp only [Act.put, List.setIfInBounds_toArray, List.set_cons_zero, List.set_cons_succ]
      refine wpAnyH_take (i := 4) (oi := ⟨some 63, _, _, _, _, _⟩) (v := ?vz85_5) rfl (by kernel_rfl) (by kernel_rfl) (by kernel_rfl) (fun _ _ _ h => h) (Or.inl ⟨by rfl, ?yz85_5⟩) S_85.out ?rz85_5
      case yz85_5 =>
        rintro w' hSw
        go_simp
        try with_reducible rfl
      try simp only [Act.put, List.setIfInBounds_toArray, List.set_cons_zero, List.set_cons_succ]
      refine wpAnyH_take (i := 5) (oi := ⟨some 64, _, _, _, _, _⟩) (v := ?vz85_6) rfl (by kernel_rfl) (by kernel_rfl) (by kernel_rfl) (fun _ _ _ h => h) (Or.inl ⟨by rfl, ?yz85_6⟩) S_85.out ?rz85_6
      case yz85_6 =>
        rintro w' hSw
        go_simp
        try with_reducible rfl
      try simp only [Act.put, List.setIfInBounds_toArray, List.set_cons_zero, List.set_cons_succ]
      refine wpAnyH_take (i := 6) (oi := ⟨some 65, _, _, _, _, _⟩) (v := ?vz85_7) rfl (by kernel_rfl) (by kernel_rfl) (by kernel_rfl) (fun _ _ _ h => h) (Or.inl ⟨by rfl, ?yz85_7⟩) S_85.out ?rz85_7
      case yz85_7 =>
        rintro w' hSw
        go_simp
        try with_reducible rfl
      try simp only [Act.put, List.setIfInBounds_toArray, List.set_cons_zero, List.set_cons_succ]
      refine wpAnyH_take (i := 7) (oi := ⟨some 66, _, _, _, _, _⟩) (v := undef) rfl (by kernel_rfl) (by kernel_rfl) (by kernel_rfl) (fun _ _ _ h => h) (Or.inr ⟨by rfl, rfl⟩) S_85.out ?rz85_8
      try simp only [Act.put, List.setIfInBounds_toArray, List.set_cons_zero, List.set_cons_succ]
      refine wpAnyH_take (i := 8) (oi := ⟨some 67, _, _, _, _, _⟩) (v := undef) rfl (by kernel_rfl) (by kernel_rfl) (by kernel_rfl) (fun _ _ _ h => h) (Or.inr ⟨by rfl, rfl⟩) S_85.out ?rz85_9
      try simp only [Act.put, List.setIfInBounds_toArray, List.set_cons_zero, List.set_cons_succ]
      refine wpAnyH_take (i := 9) (oi := ⟨some 68, _, _, _, _, _⟩) (v := undef) rfl (by kernel_rfl) (by kernel_rfl) (by kernel_rfl) (fun _ _ _ h => h) (Or.inr ⟨by rfl, rfl⟩) S_85.out ?rz85_10
      try simp only [Act.put, List.setIfInBounds_toArray, List.set_cons_zero, List.set_cons_succ]
      refine wpAnyH_take (i := 10) (oi := ⟨some 69, _, _, _, _, _⟩) (v := undef) rfl (by kernel_rfl) (by kernel_rfl) (by kernel_rfl) (fun _ _ _ h => h) (Or.inr ⟨by rfl, rfl⟩) S_85.out ?rz85_11
      try simp only [Act.put, List.setIfInBounds_toArray, List.set_cons_zero, List.set_cons_succ]
      refine wpAnyH_take (i := 11) (oi := ⟨some 70, _, _, _, _, _⟩) (v := undef) rfl (by kernel_rfl) (by kernel_rfl) (by kernel_rfl) (fun _ _ _ h => h) (Or.inr ⟨by rfl, rfl⟩) S_85.out ?rz85_12
      try simp only [Act.put, List.setIfInBounds_toArray, List.set_cons_zero, List.set_cons_succ]
      refine wpAnyH_take (i := 12) (oi := ⟨some 71, _, _, _, _, _⟩) (v := undef) rfl (by kernel_rfl) (by kernel_rfl) (by kernel_rfl) (fun _ _ _ h => h) (Or.inr ⟨by rfl, rfl⟩) S_85.out ?rz85_13
      try simp only [Act.put, List.setIfInBounds_toArray, List.set_cons_zero, List.set_cons_succ]
      refine wpAnyH_take (i := 13) (oi := ⟨some 72, _, _, _, _, _⟩) (v := undef) rfl (by kernel_rfl) (by kernel_rfl) (by kernel_rfl) (fun _ _ _ h => h) (Or.inr ⟨by rfl, rfl⟩) S_85.out ?rz85_14
      try simp only [Act.put, List.setIfInBounds_toArray, List.set_cons_zero, List.set_cons_succ]
      refine wpAnyH_take (i := 14) (oi := ⟨some 73, _, _, _, _, _⟩) (v := ?vz85_15) rfl (by kernel_rfl) (by kernel_rfl) (by kernel_rfl) (fun _ _ _ h => h) (Or.inl ⟨by rfl, ?yz85_15⟩) S_85.out ?rz85_15
      case yz85_15 =>
        rintro w' hSw
        go_simp
        try with_reducible rfl
      try simp only [Act.put, List.setIfInBounds_toArray, List.set_cons_zero, List.set_cons_succ]
      refine wpAnyH_take (i := 15) (oi := ⟨some 6, _, _, _, _, _⟩) (v := ?vz85_16) rfl (by kernel_rfl) (by kernel_rfl) (by kernel_rfl) (fun _ _ _ h => h) (Or.inl ⟨by rfl, ?yz85_16⟩) S_85.out ?rz85_16
      case yz85_16 =>
        rintro w' hSw
        go_simp
        try with_reducible rfl
      try simp only [Act.put, List.setIfInBounds_toArray, List.set_cons_zero, List.set_cons_succ]
      refine wpAnyH_done (by kernel_rfl) ?_ _
      have RA_86 := Lib.hid (RA_82.out.below S_85.out RA_82.out.lt)
      have RB_86 := Lib.hid (RB_82.out.below S_85.out RB_82.out.lt)
      have RC_86 := Lib.hid (RC_82.out.below S_85.out RC_82.out.lt)
      have RX_86 := Lib.hid (RX_82.out.below S_85.out RX_82.out.lt)
      have RY_86 := Lib.hid (RY_82.out.below S_85.out RY_82.out.lt)
      have B_86 := Lib.hid (B_82.out.trans (S_85.out.mono B_82.out.size))
      clear S_85 RA_82 RB_82 RC_82 RX_82 RY_82 B_82
      go_wp2
      go_ret
      exact ⟨rfl, B_86.out⟩
    · refine wp_region_held_drew (S := fun w' => Below V82.heap.size V82 w') (by kernel_rfl) (Below.refl _ _).drew (fun hHeld => ?_)
      have S_87 := Lib.hid hHeld
      clear hHeld
      generalize V82.drew = D87 at S_87 ⊢
      refine wpAnyH_take (i := 0) (oi := ⟨some 59, _, _, _, _, _⟩) (v := ?vz87_1) rfl (by kernel_rfl) (by kernel_rfl) (by kernel_rfl) (fun _ _ _ h => h) (Or.inl ⟨by rfl, ?yz87_1⟩) S_87.out ?rz87_1
      case yz87_1 =>
        rintro w' hSw
        go_simp
        try with_reducible rfl
      try simp only [Act.put, List.setIfInBounds_toArray, List.set_cons_zero, List.set_cons_succ]
      refine wpAnyH_take (i := 1) (oi := ⟨some 60, _, _, _, _, _⟩) (v := ?vz87_2) rfl (by kernel_rfl) (by kernel_rfl) (by kernel_rfl) (fun _ _ _ h => h) (Or.inl ⟨by rfl, ?yz87_2⟩) S_87.out ?rz87_2
      case yz87_2 =>
        rintro w' hSw
        go_simp
        try with_reducible rfl
      try simp only [Act.put, List.setIfInBounds_toArray, List.set_cons_zero, List.set_cons_succ]
      refine wpAnyH_take (i := 2) (oi := ⟨some 61, _, _, _, _, _⟩) (v := ?vz87_3) rfl (by kernel_rfl) (by kernel_rfl) (by kernel_rfl) (fun _ _ _ h => h) (Or.inl ⟨by rfl, ?yz87_3⟩) S_87.out ?rz87_3
      case yz87_3 =>
        rintro w' hSw
        go_simp
        try with_reducible rfl
      try simp only [Act.put, List.setIfInBounds_toArray, List.set_cons_zero, List.set_cons_succ]
      refine wpAnyH_take (i := 3) (oi := ⟨some 62, _, _, _, _, _⟩) (v := ?vz87_4) rfl (by kernel_rfl) (by kernel_rfl) (by kernel_rfl) (fun _ _ _ h => h) (Or.inl ⟨by rfl, ?yz87_4⟩) S_87.out ?rz87_4
      case yz87_4 =>
        rintro w' hSw
        go_simp
        try with_reducible rfl
      try simp only [Act.put, List.setIfInBounds_toArray, List.set_cons_zero, List.set_cons_succ]
      refine wpAnyH_take (i := 4) (oi := ⟨some 63, _, _, _, _, _⟩) (v := ?vz87_5) rfl (by kernel_rfl) (by kernel_rfl) (by kernel_rfl) (fun _ _ _ h => h) (Or.inl ⟨by rfl, ?yz87_5⟩) S_87.out ?rz87_5
      case yz87_5 =>
        rintro w' hSw
        go_simp
        try with_reducible rfl
      try simp only [Act.put, List.setIfInBounds_toArray, List.set_cons_zero, List.set_cons_succ]
      refine wpAnyH_take (i := 5) (oi := ⟨some 64, _, _, _, _, _⟩) (v := ?vz87_6) rfl (by kernel_rfl) (by kernel_rfl) (by kernel_rfl) (fun _ _ _ h => h) (Or.inl ⟨by rfl, ?yz87_6⟩) S_87.out ?rz87_6
      case yz87_6 =>
        rintro w' hSw
        go_simp
        try with_reducible rfl
      try simp only [Act.put, List.setIfInBounds_toArray, List.set_cons_zero, List.set_cons_succ]
      refine wpAnyH_take (i := 6) (oi := ⟨some 65, _, _, _, _, _⟩) (v := ?vz87_7) rfl (by kernel_rfl) (by kernel_rfl) (by kernel_rfl) (fun _ _ _ h => h) (Or.inl ⟨by rfl, ?yz87_7⟩) S_87.out ?rz87_7
      case yz87_7 =>
        rintro w' hSw
        go_simp
        try with_reducible rfl
      try simp only [Act.put, List.setIfInBounds_toArray, List.set_cons_zero, List.set_cons_succ]
      refine wpAnyH_take (i := 7) (oi := ⟨some 66, _, _, _, _, _⟩) (v := ?vz87_8) rfl (by kernel_rfl) (by kernel_rfl) (by kernel_rfl) (fun _ _ _ h => h) (Or.inl ⟨by rfl, ?yz87_8⟩) S_87.out ?rz87_8
      case yz87_8 =>
        rintro w' hSw
        have k0 := (RX_82.out.below hSw RX_82.out.lt).cell 0
        have k1 := (RX_82.out.below hSw RX_82.out.lt).cell 1
        simp at k0 k1
        go_simp
        try with_reducible rfl
      try simp only [Act.put, List.setIfInBounds_toArray, List.set_cons_zero, List.set_cons_succ]
      refine wpAnyH_take (i := 8) (oi := ⟨some 67, _, _, _, _, _⟩) (v := ?vz87_9) rfl (by kernel_rfl) (by kernel_rfl) (by kernel_rfl) (fun _ _ _ h => h) (Or.inl ⟨by rfl, ?yz87_9⟩) S_87.out ?rz87_9
      case yz87_9 =>
        rintro w' hSw
        have k0 := (RY_82.out.below hSw RY_82.out.lt).cell 0
        have k1 := (RY_82.out.below hSw RY_82.out.lt).cell 1
        simp at k0 k1
        go_simp
        try with_reducible rfl
      try simp only [Act.put, List.setIfInBounds_toArray, List.set_cons_zero, List.set_cons_succ]
      refine wpAnyH_take (i := 10) (oi := ⟨some 69, _, _, _, _, _⟩) (v := ?vz87_10) rfl (by kernel_rfl) (by kernel_rfl) (by kernel_rfl) (fun _ _ _ h => h) (Or.inl ⟨by rfl, ?yz87_10⟩) S_87.out ?rz87_10
      case yz87_10 =>
        rintro w' hSw
        have k0 := (RA_82.out.below hSw RA_82.out.lt).cell 0
        have k1 := (RA_82.out.below hSw RA_82.out.lt).cell 1
        simp at k0 k1
        go_simp
        try with_reducible rfl
      try simp only [Act.put, List.setIfInBounds_toArray, List.set_cons_zero, List.set_cons_succ]
      refine wpAnyH_take (i := 11) (oi := ⟨some 70, _, _, _, _, _⟩) (v := ?vz87_11) rfl (by kernel_rfl) (by kernel_rfl) (by kernel_rfl) (fun _ _ _ h => h) (Or.inl ⟨by rfl, ?yz87_11⟩) S_87.out ?rz87_11
      case yz87_11 =>
        rintro w' hSw
        have k0 := (RB_82.out.below hSw RB_82.out.lt).cell 0
        have k1 := (RB_82.out.below hSw RB_82.out.lt).cell 1
        simp at k0 k1
        go_simp
        try with_reducible rfl
      try simp only [Act.put, List.setIfInBounds_toArray, List.set_cons_zero, List.set_cons_succ]
      refine wpAnyH_ready (rs := [9]) (by kernel_rfl) (by simp) ?_
      refine (AllReadyH.cons rfl (fun K hK => ?_) AllReadyH.nil)
      go_simp
      refine (HXY.out _).mono ?_
      rintro e Xz87_12 ⟨rfl, hb⟩
      have Sz87_12 := Lib.hid (S_87.out.trans (hb.mono S_87.out.size))
      clear hb S_87
      refine hK _ _ Sz87_12.out (fun _ => ?_)
      clear hK K
      try simp only [Act.put, List.setIfInBounds_toArray, List.set_cons_zero, List.set_cons_succ]
      refine wpAnyH_ready (rs := [12]) (by kernel_rfl) (by simp) ?_
      refine (AllReadyH.cons rfl (fun K hK => ?_) AllReadyH.nil)
      go_simp
      refine (HAB.out _).mono ?_
      rintro e Xz87_13 ⟨rfl, hb⟩
      have Sz87_13 := Lib.hid (Sz87_12.out.trans (hb.mono Sz87_12.out.size))
      clear hb Sz87_12
      refine hK _ _ Sz87_13.out (fun _ => ?_)
      clear hK K
      try simp only [Act.put, List.setIfInBounds_toArray, List.set_cons_zero, List.set_cons_succ]
      refine wpAnyH_take (i := 13) (oi := ⟨some 72, _, _, _, _, _⟩) (v := ?vz87_14) rfl (by kernel_rfl) (by kernel_rfl) (by kernel_rfl) (fun _ _ _ h => h) (Or.inl ⟨by rfl, ?yz87_14⟩) Sz87_13.out ?rz87_14
      case yz87_14 =>
        rintro w' hSw
        go_simp
        try with_reducible rfl
      try simp only [Act.put, List.setIfInBounds_toArray, List.set_cons_zero, List.set_cons_succ]
      refine wpAnyH_take (i := 14) (oi := ⟨some 73, _, _, _, _, _⟩) (v := ?vz87_15) rfl (by kernel_rfl) (by kernel_rfl) (by kernel_rfl) (fun _ _ _ h => h) (Or.inl ⟨by rfl, ?yz87_15⟩) Sz87_13.out ?rz87_15
      case yz87_15 =>
        rintro w' hSw
        go_simp
        try with_reducible rfl
      try simp only [Act.put, List.setIfInBounds_toArray, List.set_cons_zero, List.set_cons_succ]
      refine wpAnyH_take (i := 15) (oi := ⟨some 6, _, _, _, _, _⟩) (v := ?vz87_16) rfl (by kernel_rfl) (by kernel_rfl) (by kernel_rfl) (fun _ _ _ h => h) (Or.inl ⟨by rfl, ?yz87_16⟩) Sz87_13.out ?rz87_16
      case yz87_16 =>
        rintro w' hSw
        go_simp
        try with_reducible rfl
      try simp only [Act.put, List.setIfInBounds_toArray, List.set_cons_zero, List.set_cons_succ]
      refine wpAnyH_done (by kernel_rfl) ?_ _
      have RA_88 := Lib.hid (RA_82.out.below Sz87_13.out RA_82.out.lt)
      have RB_88 := Lib.hid (RB_82.out.below Sz87_13.out RB_82.out.lt)
      have RC_88 := Lib.hid (RC_82.out.below Sz87_13.out RC_82.out.lt)
      have RX_88 := Lib.hid (RX_82.out.below Sz87_13.out RX_82.out.lt)
      have RY_88 := Lib.hid (RY_82.out.below Sz87_13.out RY_82.out.lt)
      have B_88 := Lib.hid (B_82.out.trans (Sz87_13.out.mono B_82.out.size))
      clear Sz87_13 RA_82 RB_82 RC_82 RX_82 RY_82 B_82
      go_wp2
      go_ret
      exact ⟨rfl, B_88.out⟩
  · have c0_0 := RA_76.out.cell 0
    have c0_1 := RA_76.out.cell 1
    simp at c0_0 c0_1
    have l0 := RA_76.out.lt
    have c1_0 := RB_76.out.cell 0
    have c1_1 := RB_76.out.cell 1
    simp at c1_0 c1_1
    have l1 := RB_76.out.lt
    have c2_0 := RC_76.out.cell 0
    have c2_1 := RC_76.out.cell 1
    simp at c2_0 c2_1
    have l2 := RC_76.out.lt
    go_wp2_with fail
    refine (HAC.out _).mono ?_
    rintro e W89 ⟨rfl, hb⟩
    clear c0_0 c0_1 l0 c1_0 c1_1 l1 c2_0 c2_1 l2
    have RA_90 := Lib.hid (RA_76.out.below hb RA_76.out.lt)
    have RB_90 := Lib.hid (RB_76.out.below hb RB_76.out.lt)
    have RC_90 := Lib.hid (RC_76.out.below hb RC_76.out.lt)
    have B_90 := Lib.hid (B_76.out.trans (hb.mono B_76.out.size))
    clear hb RA_76 RB_76 RC_76 B_76
    have c0_0 := RA_90.out.cell 0
    have c0_1 := RA_90.out.cell 1
    simp at c0_0 c0_1
    have l0 := RA_90.out.lt
    have c1_0 := RB_90.out.cell 0
    have c1_1 := RB_90.out.cell 1
    simp at c1_0 c1_1
    have l1 := RB_90.out.lt
    have c2_0 := RC_90.out.cell 0
    have c2_1 := RC_90.out.cell 1
    simp at c2_0 c2_1
    have l2 := RC_90.out.lt
    go_wp2_with fail
    refine (HS.out _).mono ?_
    rintro e W91 ⟨rfl, hb⟩
    clear c0_0 c0_1 l0 c1_0 c1_1 l1 c2_0 c2_1 l2
    have RA_92 := Lib.hid (RA_90.out.below hb RA_90.out.lt)
    have RB_92 := Lib.hid (RB_90.out.below hb RB_90.out.lt)
    have RC_92 := Lib.hid (RC_90.out.below hb RC_90.out.lt)
    have B_92 := Lib.hid (B_90.out.trans (hb.mono B_90.out.size))
    clear hb RA_90 RB_90 RC_90 B_90
    have RA_93 := Lib.hid (RA_92.out.alloc (.cells #[.int .u64 (xh : Int), .int .u64 (xl : Int)] 25))
    have RB_93 := Lib.hid (RB_92.out.alloc (.cells #[.int .u64 (xh : Int), .int .u64 (xl : Int)] 25))
    have RC_93 := Lib.hid (RC_92.out.alloc (.cells #[.int .u64 (xh : Int), .int .u64 (xl : Int)] 25))
    have RX_93 := Lib.hid (Row.new W91 25 [.int .u64 (xh : Int), .int .u64 (xl : Int)])
    have B_93 := Lib.hid (B_92.out.alloc B_92.out.size (.cells #[.int .u64 (xh : Int), .int .u64 (xl : Int)] 25))
    go_upto_region 8 with fail
    obtain ⟨gRX, hgRX⟩ : ∃ g, g = W91.heap.size := ⟨_, rfl⟩
    clear RA_92 RB_92 RC_92 B_92
    rw [← hgRX] at RX_93 ⊢
    clear hgRX
    generalize W91.alloc (.cells #[.int .u64 (xh : Int), .int .u64 (xl : Int)] 25) = V93 at RA_93 RB_93 RC_93 RX_93 B_93 ⊢
    have c0_0 := RA_93.out.cell 0
    have c0_1 := RA_93.out.cell 1
    simp at c0_0 c0_1
    have l0 := RA_93.out.lt
    have c1_0 := RB_93.out.cell 0
    have c1_1 := RB_93.out.cell 1
    simp at c1_0 c1_1
    have l1 := RB_93.out.lt
    have c2_0 := RC_93.out.cell 0
    have c2_1 := RC_93.out.cell 1
    simp at c2_0 c2_1
    have l2 := RC_93.out.lt
    have c3_0 := RX_93.out.cell 0
    have c3_1 := RX_93.out.cell 1
    simp at c3_0 c3_1
    have l3 := RX_93.out.lt
    go_wp2_with fail
    refine (HT.out _).mono ?_
    rintro e W94 ⟨rfl, hb⟩
    clear c0_0 c0_1 l0 c1_0 c1_1 l1 c2_0 c2_1 l2 c3_0 c3_1 l3
    have RA_95 := Lib.hid (RA_93.out.below hb RA_93.out.lt)
    have RB_95 := Lib.hid (RB_93.out.below hb RB_93.out.lt)
    have RC_95 := Lib.hid (RC_93.out.below hb RC_93.out.lt)
    have RX_95 := Lib.hid (RX_93.out.below hb RX_93.out.lt)
    have B_95 := Lib.hid (B_93.out.trans (hb.mono B_93.out.size))
    clear hb RA_93 RB_93 RC_93 RX_93 B_93
    have RA_96 := Lib.hid (RA_95.out.alloc (.cells #[.int .u64 (yh : Int), .int .u64 (yl : Int)] 25))
    have RB_96 := Lib.hid (RB_95.out.alloc (.cells #[.int .u64 (yh : Int), .int .u64 (yl : Int)] 25))
    have RC_96 := Lib.hid (RC_95.out.alloc (.cells #[.int .u64 (yh : Int), .int .u64 (yl : Int)] 25))
    have RX_96 := Lib.hid (RX_95.out.alloc (.cells #[.int .u64 (yh : Int), .int .u64 (yl : Int)] 25))
    have RY_96 := Lib.hid (Row.new W94 25 [.int .u64 (yh : Int), .int .u64 (yl : Int)])
    have B_96 := Lib.hid (B_95.out.alloc B_95.out.size (.cells #[.int .u64 (yh : Int), .int .u64 (yl : Int)] 25))
    go_upto_region 9 with fail
    obtain ⟨gRY, hgRY⟩ : ∃ g, g = W94.heap.size := ⟨_, rfl⟩
    clear RA_95 RB_95 RC_95 RX_95 B_95
    rw [← hgRY] at RY_96 ⊢
    clear hgRY
    generalize W94.alloc (.cells #[.int .u64 (yh : Int), .int .u64 (yl : Int)] 25) = V96 at RA_96 RB_96 RC_96 RX_96 RY_96 B_96 ⊢
    rcases hfl with rfl | ⟨rfl, rfl⟩ | ⟨rfl, rfl, rfl⟩
    · refine wp_region_held_drew (S := fun w' => Below V96.heap.size V96 w') (by kernel_rfl) (Below.refl _ _).drew (fun hHeld => ?_)
      have S_97 := Lib.hid hHeld
      clear hHeld
      generalize V96.drew = D97 at S_97 ⊢
      refine wpAnyH_take (i := 0) (oi := ⟨some 59, _, _, _, _, _⟩) (v := ?vz97_1) rfl (by kernel_rfl) (by kernel_rfl) (by kernel_rfl) (fun _ _ _ h => h) (Or.inl ⟨by rfl, ?yz97_1⟩) S_97.out ?rz97_1
      case yz97_1 =>
        rintro w' hSw
        go_simp
        try with_reducible rfl
      try simp only [Act.put, List.setIfInBounds_toArray, List.set_cons_zero, List.set_cons_succ]
      refine wpAnyH_take (i := 1) (oi := ⟨some 60, _, _, _, _, _⟩) (v := ?vz97_2) rfl (by kernel_rfl) (by kernel_rfl) (by kernel_rfl) (fun _ _ _ h => h) (Or.inl ⟨by rfl, ?yz97_2⟩) S_97.out ?rz97_2
      case yz97_2 =>
        rintro w' hSw
        go_simp
        try with_reducible rfl
      try simp only [Act.put, List.setIfInBounds_toArray, List.set_cons_zero, List.set_cons_succ]
      refine wpAnyH_take (i := 2) (oi := ⟨some 61, _, _, _, _, _⟩) (v := ?vz97_3) rfl (by kernel_rfl) (by kernel_rfl) (by kernel_rfl) (fun _ _ _ h => h) (Or.inl ⟨by rfl, ?yz97_3⟩) S_97.out ?rz97_3
      case yz97_3 =>
        rintro w' hSw
        go_simp
        try with_reducible rfl
      try simp only [Act.put, List.setIfInBounds_toArray, List.set_cons_zero, List.set_cons_succ]
      refine wpAnyH_take (i := 3) (oi := ⟨some 62, _, _, _, _, _⟩) (v := undef) rfl (by kernel_rfl) (by kernel_rfl) (by kernel_rfl) (fun _ _ _ h => h) (Or.inr ⟨by rfl, rfl⟩) S_97.out ?rz97_4
      try simp only [Act.put, List.setIfInBounds_toArray, List.set_cons_zero, List.set_cons_succ]
      refine wpAnyH_take (i := 4) (oi := ⟨some 63, _, _, _, _, _⟩) (v := undef) rfl (by kernel_rfl) (by kernel_rfl) (by kernel_rfl) (fun _ _ _ h => h) (Or.inr ⟨by rfl, rfl⟩) S_97.out ?rz97_5
      try simp only [Act.put, List.setIfInBounds_toArray, List.set_cons_zero, List.set_cons_succ]
      refine wpAnyH_take (i := 5) (oi := ⟨some 64, _, _, _, _, _⟩) (v := ?vz97_6) rfl (by kernel_rfl) (by kernel_rfl) (by kernel_rfl) (fun _ _ _ h => h) (Or.inl ⟨by rfl, ?yz97_6⟩) S_97.out ?rz97_6
      case yz97_6 =>
        rintro w' hSw
        go_simp
        try with_reducible rfl
      try simp only [Act.put, List.setIfInBounds_toArray, List.set_cons_zero, List.set_cons_succ]
      refine wpAnyH_take (i := 6) (oi := ⟨some 65, _, _, _, _, _⟩) (v := ?vz97_7) rfl (by kernel_rfl) (by kernel_rfl) (by kernel_rfl) (fun _ _ _ h => h) (Or.inl ⟨by rfl, ?yz97_7⟩) S_97.out ?rz97_7
      case yz97_7 =>
        rintro w' hSw
        go_simp
        try with_reducible rfl
      try simp only [Act.put, List.setIfInBounds_toArray, List.set_cons_zero, List.set_cons_succ]
      refine wpAnyH_take (i := 7) (oi := ⟨some 66, _, _, _, _, _⟩) (v := undef) rfl (by kernel_rfl) (by kernel_rfl) (by kernel_rfl) (fun _ _ _ h => h) (Or.inr ⟨by rfl, rfl⟩) S_97.out ?rz97_8
      try simp only [Act.put, List.setIfInBounds_toArray, List.set_cons_zero, List.set_cons_succ]
      refine wpAnyH_take (i := 8) (oi := ⟨some 67, _, _, _, _, _⟩) (v := undef) rfl (by kernel_rfl) (by kernel_rfl) (by kernel_rfl) (fun _ _ _ h => h) (Or.inr ⟨by rfl, rfl⟩) S_97.out ?rz97_9
      try simp only [Act.put, List.setIfInBounds_toArray, List.set_cons_zero, List.set_cons_succ]
      refine wpAnyH_take (i := 9) (oi := ⟨some 68, _, _, _, _, _⟩) (v := undef) rfl (by kernel_rfl) (by kernel_rfl) (by kernel_rfl) (fun _ _ _ h => h) (Or.inr ⟨by rfl, rfl⟩) S_97.out ?rz97_10
      try simp only [Act.put, List.setIfInBounds_toArray, List.set_cons_zero, List.set_cons_succ]
      refine wpAnyH_take (i := 10) (oi := ⟨some 69, _, _, _, _, _⟩) (v := undef) rfl (by kernel_rfl) (by kernel_rfl) (by kernel_rfl) (fun _ _ _ h => h) (Or.inr ⟨by rfl, rfl⟩) S_97.out ?rz97_11
      try simp only [Act.put, List.setIfInBounds_toArray, List.set_cons_zero, List.set_cons_succ]
      refine wpAnyH_take (i := 11) (oi := ⟨some 70, _, _, _, _, _⟩) (v := undef) rfl (by kernel_rfl) (by kernel_rfl) (by kernel_rfl) (fun _ _ _ h => h) (Or.inr ⟨by rfl, rfl⟩) S_97.out ?rz97_12
      try simp only [Act.put, List.setIfInBounds_toArray, List.set_cons_zero, List.set_cons_succ]
      refine wpAnyH_take (i := 12) (oi := ⟨some 71, _, _, _, _, _⟩) (v := undef) rfl (by kernel_rfl) (by kernel_rfl) (by kernel_rfl) (fun _ _ _ h => h) (Or.inr ⟨by rfl, rfl⟩) S_97.out ?rz97_13
      try simp only [Act.put, List.setIfInBounds_toArray, List.set_cons_zero, List.set_cons_succ]
      refine wpAnyH_take (i := 13) (oi := ⟨some 72, _, _, _, _, _⟩) (v := undef) rfl (by kernel_rfl) (by kernel_rfl) (by kernel_rfl) (fun _ _ _ h => h) (Or.inr ⟨by rfl, rfl⟩) S_97.out ?rz97_14
      try simp only [Act.put, List.setIfInBounds_toArray, List.set_cons_zero, List.set_cons_succ]
      refine wpAnyH_take (i := 14) (oi := ⟨some 73, _, _, _, _, _⟩) (v := ?vz97_15) rfl (by kernel_rfl) (by kernel_rfl) (by kernel_rfl) (fun _ _ _ h => h) (Or.inl ⟨by rfl, ?yz97_15⟩) S_97.out ?rz97_15
      case yz97_15 =>
        rintro w' hSw
        go_simp
        try with_reducible rfl
      try simp only [Act.put, List.setIfInBounds_toArray, List.set_cons_zero, List.set_cons_succ]
      refine wpAnyH_take (i := 15) (oi := ⟨some 6, _, _, _, _, _⟩) (v := ?vz97_16) rfl (by kernel_rfl) (by kernel_rfl) (by kernel_rfl) (fun _ _ _ h => h) (Or.inl ⟨by rfl, ?yz97_16⟩) S_97.out ?rz97_16
      case yz97_16 =>
        rintro w' hSw
        go_simp
        try with_reducible rfl
      try simp only [Act.put, List.setIfInBounds_toArray, List.set_cons_zero, List.set_cons_succ]
      refine wpAnyH_done (by kernel_rfl) ?_ _
      have RA_98 := Lib.hid (RA_96.out.below S_97.out RA_96.out.lt)
      have RB_98 := Lib.hid (RB_96.out.below S_97.out RB_96.out.lt)
      have RC_98 := Lib.hid (RC_96.out.below S_97.out RC_96.out.lt)
      have RX_98 := Lib.hid (RX_96.out.below S_97.out RX_96.out.lt)
      have RY_98 := Lib.hid (RY_96.out.below S_97.out RY_96.out.lt)
      have B_98 := Lib.hid (B_96.out.trans (S_97.out.mono B_96.out.size))
      clear S_97 RA_96 RB_96 RC_96 RX_96 RY_96 B_96
      go_wp2
      go_ret
      exact ⟨rfl, B_98.out⟩
    · refine wp_region_held_drew (S := fun w' => Below V96.heap.size V96 w') (by kernel_rfl) (Below.refl _ _).drew (fun hHeld => ?_)
      have S_99 := Lib.hid hHeld
      clear hHeld
      generalize V96.drew = D99 at S_99 ⊢
      refine wpAnyH_take (i := 0) (oi := ⟨some 59, _, _, _, _, _⟩) (v := ?vz99_1) rfl (by kernel_rfl) (by kernel_rfl) (by kernel_rfl) (fun _ _ _ h => h) (Or.inl ⟨by rfl, ?yz99_1⟩) S_99.out ?rz99_1
      case yz99_1 =>
        rintro w' hSw
        go_simp
        try with_reducible rfl
      try simp only [Act.put, List.setIfInBounds_toArray, List.set_cons_zero, List.set_cons_succ]
      refine wpAnyH_take (i := 1) (oi := ⟨some 60, _, _, _, _, _⟩) (v := ?vz99_2) rfl (by kernel_rfl) (by kernel_rfl) (by kernel_rfl) (fun _ _ _ h => h) (Or.inl ⟨by rfl, ?yz99_2⟩) S_99.out ?rz99_2
      case yz99_2 =>
        rintro w' hSw
        go_simp
        try with_reducible rfl
      try simp only [Act.put, List.setIfInBounds_toArray, List.set_cons_zero, List.set_cons_succ]
      refine wpAnyH_take (i := 2) (oi := ⟨some 61, _, _, _, _, _⟩) (v := ?vz99_3) rfl (by kernel_rfl) (by kernel_rfl) (by kernel_rfl) (fun _ _ _ h => h) (Or.inl ⟨by rfl, ?yz99_3⟩) S_99.out ?rz99_3
      case yz99_3 =>
        rintro w' hSw
        go_simp
        try with_reducible rfl
      try simp only [Act.put, List.setIfInBounds_toArray, List.set_cons_zero, List.set_cons_succ]
      refine wpAnyH_take (i := 3) (oi := ⟨some 62, _, _, _, _, _⟩) (v := ?vz99_4) rfl (by kernel_rfl) (by kernel_rfl) (by kernel_rfl) (fun _ _ _ h => h) (Or.inl ⟨by rfl, ?yz99_4⟩) S_99.out ?rz99_4
      case yz99_4 =>
        rintro w' hSw
        go_simp
        try with_reducible rfl
      try simp only [Act.put, List.setIfInBounds_toArray, List.set_cons_zero, List.set_cons_succ]
      refine wpAnyH_take (i := 4) (oi := ⟨some 63, _, _, _, _, _⟩) (v := ?vz99_5) rfl (by kernel_rfl) (by kernel_rfl) (by kernel_rfl) (fun _ _ _ h => h) (Or.inl ⟨by rfl, ?yz99_5⟩) S_99.out ?rz99_5
      case yz99_5 =>
        rintro w' hSw
        go_simp
        try with_reducible rfl
      try simp only [Act.put, List.setIfInBounds_toArray, List.set_cons_zero, List.set_cons_succ]
      refine wpAnyH_take (i := 5) (oi := ⟨some 64, _, _, _, _, _⟩) (v := ?vz99_6) rfl (by kernel_rfl) (by kernel_rfl) (by kernel_rfl) (fun _ _ _ h => h) (Or.inl ⟨by rfl, ?yz99_6⟩) S_99.out ?rz99_6
      case yz99_6 =>
        rintro w' hSw
        go_simp
        try with_reducible rfl
      try simp only [Act.put, List.setIfInBounds_toArray, List.set_cons_zero, List.set_cons_succ]
      refine wpAnyH_take (i := 6) (oi := ⟨some 65, _, _, _, _, _⟩) (v := ?vz99_7) rfl (by kernel_rfl) (by kernel_rfl) (by kernel_rfl) (fun _ _ _ h => h) (Or.inl ⟨by rfl, ?yz99_7⟩) S_99.out ?rz99_7
      case yz99_7 =>
        rintro w' hSw
        go_simp
        try with_reducible rfl
      try simp only [Act.put, List.setIfInBounds_toArray, List.set_cons_zero, List.set_cons_succ]
      refine wpAnyH_take (i := 7) (oi := ⟨some 66, _, _, _, _, _⟩) (v := undef) rfl (by kernel_rfl) (by kernel_rfl) (by kernel_rfl) (fun _ _ _ h => h) (Or.inr ⟨by rfl, rfl⟩) S_99.out ?rz99_8
      try simp only [Act.put, List.setIfInBounds_toArray, List.set_cons_zero, List.set_cons_succ]
      refine wpAnyH_take (i := 8) (oi := ⟨some 67, _, _, _, _, _⟩) (v := undef) rfl (by kernel_rfl) (by kernel_rfl) (by kernel_rfl) (fun _ _ _ h => h) (Or.inr ⟨by rfl, rfl⟩) S_99.out ?rz99_9
      try simp only [Act.put, List.setIfInBounds_toArray, List.set_cons_zero, List.set_cons_succ]
      refine wpAnyH_take (i := 9) (oi := ⟨some 68, _, _, _, _, _⟩) (v := undef) rfl (by kernel_rfl) (by kernel_rfl) (by kernel_rfl) (fun _ _ _ h => h) (Or.inr ⟨by rfl, rfl⟩) S_99.out ?rz99_10
      try simp only [Act.put, List.setIfInBounds_toArray, List.set_cons_zero, List.set_cons_succ]
      refine wpAnyH_take (i := 10) (oi := ⟨some 69, _, _, _, _, _⟩) (v := undef) rfl (by kernel_rfl) (by kernel_rfl) (by kernel_rfl) (fun _ _ _ h => h) (Or.inr ⟨by rfl, rfl⟩) S_99.out ?rz99_11
      try simp only [Act.put, List.setIfInBounds_toArray, List.set_cons_zero, List.set_cons_succ]
      refine wpAnyH_take (i := 11) (oi := ⟨some 70, _, _, _, _, _⟩) (v := undef) rfl (by kernel_rfl) (by kernel_rfl) (by kernel_rfl) (fun _ _ _ h => h) (Or.inr ⟨by rfl, rfl⟩) S_99.out ?rz99_12
      try simp only [Act.put, List.setIfInBounds_toArray, List.set_cons_zero, List.set_cons_succ]
      refine wpAnyH_take (i := 12) (oi := ⟨some 71, _, _, _, _, _⟩) (v := undef) rfl (by kernel_rfl) (by kernel_rfl) (by kernel_rfl) (fun _ _ _ h => h) (Or.inr ⟨by rfl, rfl⟩) S_99.out ?rz99_13
      try simp only [Act.put, List.setIfInBounds_toArray, List.set_cons_zero, List.set_cons_succ]
      refine wpAnyH_take (i := 13) (oi := ⟨some 72, _, _, _, _, _⟩) (v := undef) rfl (by kernel_rfl) (by kernel_rfl) (by kernel_rfl) (fun _ _ _ h => h) (Or.inr ⟨by rfl, rfl⟩) S_99.out ?rz99_14
      try simp only [Act.put, List.setIfInBounds_toArray, List.set_cons_zero, List.set_cons_succ]
      refine wpAnyH_take (i := 14) (oi := ⟨some 73, _, _, _, _, _⟩) (v := ?vz99_15) rfl (by kernel_rfl) (by kernel_rfl) (by kernel_rfl) (fun _ _ _ h => h) (Or.inl ⟨by rfl, ?yz99_15⟩) S_99.out ?rz99_15
      case yz99_15 =>
        rintro w' hSw
        go_simp
        try with_reducible rfl
      try simp only [Act.put, List.setIfInBounds_toArray, List.set_cons_zero, List.set_cons_succ]
      refine wpAnyH_take (i := 15) (oi := ⟨some 6, _, _, _, _, _⟩) (v := ?vz99_16) rfl (by kernel_rfl) (by kernel_rfl) (by kernel_rfl) (fun _ _ _ h => h) (Or.inl ⟨by rfl, ?yz99_16⟩) S_99.out ?rz99_16
      case yz99_16 =>
        rintro w' hSw
        go_simp
        try with_reducible rfl
      try simp only [Act.put, List.setIfInBounds_toArray, List.set_cons_zero, List.set_cons_succ]
      refine wpAnyH_done (by kernel_rfl) ?_ _
      have RA_100 := Lib.hid (RA_96.out.below S_99.out RA_96.out.lt)
      have RB_100 := Lib.hid (RB_96.out.below S_99.out RB_96.out.lt)
      have RC_100 := Lib.hid (RC_96.out.below S_99.out RC_96.out.lt)
      have RX_100 := Lib.hid (RX_96.out.below S_99.out RX_96.out.lt)
      have RY_100 := Lib.hid (RY_96.out.below S_99.out RY_96.out.lt)
      have B_100 := Lib.hid (B_96.out.trans (S_99.out.mono B_96.out.size))
      clear S_99 RA_96 RB_96 RC_96 RX_96 RY_96 B_96
      go_wp2
      go_ret
      exact ⟨rfl, B_100.out⟩
    · refine wp_region_held_drew (S := fun w' => Below V96.heap.size V96 w') (by kernel_rfl) (Below.refl _ _).drew (fun hHeld => ?_)
      have S_101 := Lib.hid hHeld
      clear hHeld
      generalize V96.drew = D101 at S_101 ⊢
      refine wpAnyH_take (i := 0) (oi := ⟨some 59, _, _, _, _, _⟩) (v := ?vz101_1) rfl (by kernel_rfl) (by kernel_rfl) (by kernel_rfl) (fun _ _ _ h => h) (Or.inl ⟨by rfl, ?yz101_1⟩) S_101.out ?rz101_1
      case yz101_1 =>
        rintro w' hSw
        go_simp
        try with_reducible rfl
      try simp only [Act.put, List.setIfInBounds_toArray, List.set_cons_zero, List.set_cons_succ]
      refine wpAnyH_take (i := 1) (oi := ⟨some 60, _, _, _, _, _⟩) (v := ?vz101_2) rfl (by kernel_rfl) (by kernel_rfl) (by kernel_rfl) (fun _ _ _ h => h) (Or.inl ⟨by rfl, ?yz101_2⟩) S_101.out ?rz101_2
      case yz101_2 =>
        rintro w' hSw
        go_simp
        try with_reducible rfl
      try simp only [Act.put, List.setIfInBounds_toArray, List.set_cons_zero, List.set_cons_succ]
      refine wpAnyH_take (i := 2) (oi := ⟨some 61, _, _, _, _, _⟩) (v := ?vz101_3) rfl (by kernel_rfl) (by kernel_rfl) (by kernel_rfl) (fun _ _ _ h => h) (Or.inl ⟨by rfl, ?yz101_3⟩) S_101.out ?rz101_3
      case yz101_3 =>
        rintro w' hSw
        go_simp
        try with_reducible rfl
      try simp only [Act.put, List.setIfInBounds_toArray, List.set_cons_zero, List.set_cons_succ]
      refine wpAnyH_take (i := 3) (oi := ⟨some 62, _, _, _, _, _⟩) (v := ?vz101_4) rfl (by kernel_rfl) (by kernel_rfl) (by kernel_rfl) (fun _ _ _ h => h) (Or.inl ⟨by rfl, ?yz101_4⟩) S_101.out ?rz101_4
      case yz101_4 =>
        rintro w' hSw
        go_simp
        try with_reducible rfl
      try simp only [Act.put, List.setIfInBounds_toArray, List.set_cons_zero, List.set_cons_succ]
      refine wpAnyH_take (i := 4) (oi := ⟨some 63, _, _, _, _, _⟩) (v := ?vz101_5) rfl (by kernel_rfl) (by kernel_rfl) (by kernel_rfl) (fun _ _ _ h => h) (Or.inl ⟨by rfl, ?yz101_5⟩) S_101.out ?rz101_5
      case yz101_5 =>
        rintro w' hSw
        go_simp
        try with_reducible rfl
      try simp only [Act.put, List.setIfInBounds_toArray, List.set_cons_zero, List.set_cons_succ]
      refine wpAnyH_take (i := 5) (oi := ⟨some 64, _, _, _, _, _⟩) (v := ?vz101_6) rfl (by kernel_rfl) (by kernel_rfl) (by kernel_rfl) (fun _ _ _ h => h) (Or.inl ⟨by rfl, ?yz101_6⟩) S_101.out ?rz101_6
      case yz101_6 =>
        rintro w' hSw
        go_simp
        try with_reducible rfl
      try simp only [Act.put, List.setIfInBounds_toArray, List.set_cons_zero, List.set_cons_succ]
      refine wpAnyH_take (i := 6) (oi := ⟨some 65, _, _, _, _, _⟩) (v := ?vz101_7) rfl (by kernel_rfl) (by kernel_rfl) (by kernel_rfl) (fun _ _ _ h => h) (Or.inl ⟨by rfl, ?yz101_7⟩) S_101.out ?rz101_7
      case yz101_7 =>
        rintro w' hSw
        go_simp
        try with_reducible rfl
      try simp only [Act.put, List.setIfInBounds_toArray, List.set_cons_zero, List.set_cons_succ]
      refine wpAnyH_take (i := 7) (oi := ⟨some 66, _, _, _, _, _⟩) (v := ?vz101_8) rfl (by kernel_rfl) (by kernel_rfl) (by kernel_rfl) (fun _ _ _ h => h) (Or.inl ⟨by rfl, ?yz101_8⟩) S_101.out ?rz101_8
      case yz101_8 =>
        rintro w' hSw
        have k0 := (RX_96.out.below hSw RX_96.out.lt).cell 0
        have k1 := (RX_96.out.below hSw RX_96.out.lt).cell 1
        simp at k0 k1
        go_simp
        try with_reducible rfl
      try simp only [Act.put, List.setIfInBounds_toArray, List.set_cons_zero, List.set_cons_succ]
      refine wpAnyH_take (i := 8) (oi := ⟨some 67, _, _, _, _, _⟩) (v := ?vz101_9) rfl (by kernel_rfl) (by kernel_rfl) (by kernel_rfl) (fun _ _ _ h => h) (Or.inl ⟨by rfl, ?yz101_9⟩) S_101.out ?rz101_9
      case yz101_9 =>
        rintro w' hSw
        have k0 := (RY_96.out.below hSw RY_96.out.lt).cell 0
        have k1 := (RY_96.out.below hSw RY_96.out.lt).cell 1
        simp at k0 k1
        go_simp
        try with_reducible rfl
      try simp only [Act.put, List.setIfInBounds_toArray, List.set_cons_zero, List.set_cons_succ]
      refine wpAnyH_take (i := 10) (oi := ⟨some 69, _, _, _, _, _⟩) (v := ?vz101_10) rfl (by kernel_rfl) (by kernel_rfl) (by kernel_rfl) (fun _ _ _ h => h) (Or.inl ⟨by rfl, ?yz101_10⟩) S_101.out ?rz101_10
      case yz101_10 =>
        rintro w' hSw
        have k0 := (RA_96.out.below hSw RA_96.out.lt).cell 0
        have k1 := (RA_96.out.below hSw RA_96.out.lt).cell 1
        simp at k0 k1
        go_simp
        try with_reducible rfl
      try simp only [Act.put, List.setIfInBounds_toArray, List.set_cons_zero, List.set_cons_succ]
      refine wpAnyH_take (i := 11) (oi := ⟨some 70, _, _, _, _, _⟩) (v := ?vz101_11) rfl (by kernel_rfl) (by kernel_rfl) (by kernel_rfl) (fun _ _ _ h => h) (Or.inl ⟨by rfl, ?yz101_11⟩) S_101.out ?rz101_11
      case yz101_11 =>
        rintro w' hSw
        have k0 := (RB_96.out.below hSw RB_96.out.lt).cell 0
        have k1 := (RB_96.out.below hSw RB_96.out.lt).cell 1
        simp at k0 k1
        go_simp
        try with_reducible rfl
      try simp only [Act.put, List.setIfInBounds_toArray, List.set_cons_zero, List.set_cons_succ]
      refine wpAnyH_ready (rs := [9]) (by kernel_rfl) (by simp) ?_
      refine (AllReadyH.cons rfl (fun K hK => ?_) AllReadyH.nil)
      go_simp
      refine (HXY.out _).mono ?_
      rintro e Xz101_12 ⟨rfl, hb⟩
      have Sz101_12 := Lib.hid (S_101.out.trans (hb.mono S_101.out.size))
      clear hb S_101
      refine hK _ _ Sz101_12.out (fun _ => ?_)
      clear hK K
      try simp only [Act.put, List.setIfInBounds_toArray, List.set_cons_zero, List.set_cons_succ]
      refine wpAnyH_ready (rs := [12]) (by kernel_rfl) (by simp) ?_
      refine (AllReadyH.cons rfl (fun K hK => ?_) AllReadyH.nil)
      go_simp
      refine (HAB.out _).mono ?_
      rintro e Xz101_13 ⟨rfl, hb⟩
      have Sz101_13 := Lib.hid (Sz101_12.out.trans (hb.mono Sz101_12.out.size))
      clear hb Sz101_12
      refine hK _ _ Sz101_13.out (fun _ => ?_)
      clear hK K
      try simp only [Act.put, List.setIfInBounds_toArray, List.set_cons_zero, List.set_cons_succ]
      refine wpAnyH_take (i := 13) (oi := ⟨some 72, _, _, _, _, _⟩) (v := ?vz101_14) rfl (by kernel_rfl) (by kernel_rfl) (by kernel_rfl) (fun _ _ _ h => h) (Or.inl ⟨by rfl, ?yz101_14⟩) Sz101_13.out ?rz101_14
      case yz101_14 =>
        rintro w' hSw
        go_simp
        try with_reducible rfl
      try simp only [Act.put, List.setIfInBounds_toArray, List.set_cons_zero, List.set_cons_succ]
      refine wpAnyH_take (i := 14) (oi := ⟨some 73, _, _, _, _, _⟩) (v := ?vz101_15) rfl (by kernel_rfl) (by kernel_rfl) (by kernel_rfl) (fun _ _ _ h => h) (Or.inl ⟨by rfl, ?yz101_15⟩) Sz101_13.out ?rz101_15
      case yz101_15 =>
        rintro w' hSw
        go_simp
        try with_reducible rfl
      try simp only [Act.put, List.setIfInBounds_toArray, List.set_cons_zero, List.set_cons_succ]
      refine wpAnyH_take (i := 15) (oi := ⟨some 6, _, _, _, _, _⟩) (v := ?vz101_16) rfl (by kernel_rfl) (by kernel_rfl) (by kernel_rfl) (fun _ _ _ h => h) (Or.inl ⟨by rfl, ?yz101_16⟩) Sz101_13.out ?rz101_16
      case yz101_16 =>
        rintro w' hSw
        go_simp
        try with_reducible rfl
      try simp only [Act.put, List.setIfInBounds_toArray, List.set_cons_zero, List.set_cons_succ]
      refine wpAnyH_done (by kernel_rfl) ?_ _
      have RA_102 := Lib.hid (RA_96.out.below Sz101_13.out RA_96.out.lt)
      have RB_102 := Lib.hid (RB_96.out.below Sz101_13.out RB_96.out.lt)
      have RC_102 := Lib.hid (RC_96.out.below Sz101_13.out RC_96.out.lt)
      have RX_102 := Lib.hid (RX_96.out.below Sz101_13.out RX_96.out.lt)
      have RY_102 := Lib.hid (RY_96.out.below Sz101_13.out RY_96.out.lt)
      have B_102 := Lib.hid (B_96.out.trans (Sz101_13.out.mono B_96.out.size))
      clear Sz101_13 RA_96 RB_96 RC_96 RX_96 RY_96 B_96
      go_wp2
      go_ret
      exact ⟨rfl, B_102.out⟩

set_option maxHeartbeats 8000000 in
theorem walk_g (ah al bh bl ch cl : Nat) (w : World) (h1 : ah < 18446744073709551616) (h2 : al < 18446744073709551616) (h3 : bh < 18446744073709551616) (h4 : bl < 18446744073709551616) (h5 : ch < 18446744073709551616) (h6 : cl < 18446744073709551616) (hlt : bh * 18446744073709551616 + bl < ah * 18446744073709551616 + al) (hne : ¬ (ah : Int) = (bh : Int)) :
    Calls Try.prog 8 #[.agg #[.int .u64 (ah : Int), .int .u64 (al : Int)], .agg #[.int .u64 (bh : Int), .int .u64 (bl : Int)], .agg #[.int .u64 (ch : Int), .int .u64 (cl : Int)]] w fun e w' => e = .returned (.bool true) ∧ Below w.heap.size w w' := by
  have HW := Lib.hid wakes_any
  have hwm : IntKind.i64.wrap (-1) = -1 := by decide
  have hab : cmpM (ah * 18446744073709551616 + al) (bh * 18446744073709551616 + bl) = 1 := cmp_g hlt
  have hba : cmpM (bh * 18446744073709551616 + bl) (ah * 18446744073709551616 + al) = -1 := cmp_l hlt
  obtain ⟨q, hbc⟩ : ∃ q, cmpM (bh * 18446744073709551616 + bl) (ch * 18446744073709551616 + cl) = q := ⟨_, rfl⟩
  obtain ⟨r, hac⟩ : ∃ q, cmpM (ah * 18446744073709551616 + al) (ch * 18446744073709551616 + cl) = q := ⟨_, rfl⟩
  have HAB := Lib.hid (fun w => Cmp_is ah al bh bl w h1 h2 h3 h4 hab)
  have HBA := Lib.hid (fun w => Cmp_is bh bl ah al w h3 h4 h1 h2 hba)
  have HBC := Lib.hid (fun w => Cmp_is bh bl ch cl w h3 h4 h5 h6 hbc)
  have HAC := Lib.hid (fun w => Cmp_is ah al ch cl w h1 h2 h5 h6 hac)
  skip
  obtain ⟨c, xh, xl, hx1, hx2, hc, hs⟩ := sum_parts (ah * 18446744073709551616 + al) (ch * 18446744073709551616 + cl) (two_lt h1 h2) (two_lt h5 h6)
  obtain ⟨d, yh, yl, hy1, hy2, hd, ht⟩ := sum_parts (bh * 18446744073709551616 + bl) (ch * 18446744073709551616 + cl) (two_lt h3 h4) (two_lt h5 h6)
  have HS := Lib.hid (fun w => Add_any ah al ch cl xh xl c w h1 h2 h5 h6 hx1 hx2 hs)
  have HT := Lib.hid (fun w => Add_any bh bl ch cl yh yl d w h3 h4 h5 h6 hy1 hy2 ht)
  obtain ⟨s, hxy⟩ : ∃ q, cmpM (xh * 18446744073709551616 + xl) (yh * 18446744073709551616 + yl) = q := ⟨_, rfl⟩
  have HXY := Lib.hid (fun w => Cmp_is xh xl yh yl w hx1 hx2 hy1 hy2 hxy)
  have hfl := flags hs ht hxy hab
  clear hs ht hc hd hxy hab hba hbc hac
  generalize decide (c = 0) = f1 at HS hfl
  generalize decide (d = 0) = f2 at HT hfl
  clear h1 h2 h3 h4 h5 h6 hx1 hx2 hy1 hy2 hlt
  go_enter Try.func8, Try.ntmps8
  go_upto_region 1 with fail
  have RA_0 := Lib.hid (((row_last w (w.heap.size) 25 [.int .u64 (ah : Int), .int .u64 (al : Int)] (by simp)).alloc (.cells #[.int .u64 (bh : Int), .int .u64 (bl : Int)] 25)).alloc (.cells #[.int .u64 (ch : Int), .int .u64 (cl : Int)] 25))
  have RB_0 := Lib.hid ((row_last (w.alloc (.cells #[.int .u64 (ah : Int), .int .u64 (al : Int)] 25)) (w.heap.size + 1) 25 [.int .u64 (bh : Int), .int .u64 (bl : Int)] (by simp)).alloc (.cells #[.int .u64 (ch : Int), .int .u64 (cl : Int)] 25))
  have RC_0 := Lib.hid (row_last ((w.alloc (.cells #[.int .u64 (ah : Int), .int .u64 (al : Int)] 25)).alloc (.cells #[.int .u64 (bh : Int), .int .u64 (bl : Int)] 25)) (w.heap.size + 1 + 1) 25 [.int .u64 (ch : Int), .int .u64 (cl : Int)] (by simp))
  have B_0 := Lib.hid ((((Below.refl w.heap.size w).alloc (Nat.le_refl _) (.cells #[.int .u64 (ah : Int), .int .u64 (al : Int)] 25)).alloc (by simp <;> omega) (.cells #[.int .u64 (bh : Int), .int .u64 (bl : Int)] 25)).alloc (by simp <;> omega) (.cells #[.int .u64 (ch : Int), .int .u64 (cl : Int)] 25))
  generalize (((w.alloc (.cells #[.int .u64 (ah : Int), .int .u64 (al : Int)] 25)).alloc (.cells #[.int .u64 (bh : Int), .int .u64 (bl : Int)] 25)).alloc (.cells #[.int .u64 (ch : Int), .int .u64 (cl : Int)] 25)) = V0 at RA_0 RB_0 RC_0 B_0 ⊢
  go_wp2_with fail
  refine (HW.out _).mono ?_
  rintro e W103 ⟨rfl, hb⟩
  have RA_104 := Lib.hid (RA_0.out.below hb RA_0.out.lt)
  have RB_104 := Lib.hid (RB_0.out.below hb RB_0.out.lt)
  have RC_104 := Lib.hid (RC_0.out.below hb RC_0.out.lt)
  have B_104 := Lib.hid (B_0.out.trans (hb.mono B_0.out.size))
  clear hb RA_0 RB_0 RC_0 B_0
  go_wp2_with fail
  refine wp_region_held_drew (S := fun w' => Below W103.heap.size W103 w') (by kernel_rfl) (Below.refl _ _).drew (fun hHeld => ?_)
  have S_105 := Lib.hid hHeld
  clear hHeld
  generalize W103.drew = D105 at S_105 ⊢
  refine wpAnyH_take (i := 0) (oi := ⟨some 13, _, _, _, _, _⟩) (v := ?vz105_1) rfl (by kernel_rfl) (by kernel_rfl) (by kernel_rfl) (fun _ _ _ h => h) (Or.inl ⟨by rfl, ?yz105_1⟩) S_105.out ?rz105_1
  case yz105_1 =>
    rintro w' hSw
    have k0 := (RA_104.out.below hSw RA_104.out.lt).cell 0
    have k1 := (RA_104.out.below hSw RA_104.out.lt).cell 1
    simp at k0 k1
    go_simp
    try with_reducible rfl
  try simp only [Act.put, List.setIfInBounds_toArray, List.set_cons_zero, List.set_cons_succ]
  refine wpAnyH_take (i := 1) (oi := ⟨some 14, _, _, _, _, _⟩) (v := ?vz105_2) rfl (by kernel_rfl) (by kernel_rfl) (by kernel_rfl) (fun _ _ _ h => h) (Or.inl ⟨by rfl, ?yz105_2⟩) S_105.out ?rz105_2
  case yz105_2 =>
    rintro w' hSw
    have k0 := (RB_104.out.below hSw RB_104.out.lt).cell 0
    have k1 := (RB_104.out.below hSw RB_104.out.lt).cell 1
    simp at k0 k1
    go_simp
    try with_reducible rfl
  try simp only [Act.put, List.setIfInBounds_toArray, List.set_cons_zero, List.set_cons_succ]
  refine wpAnyH_take (i := 3) (oi := ⟨some 16, _, _, _, _, _⟩) (v := ?vz105_3) rfl (by kernel_rfl) (by kernel_rfl) (by kernel_rfl) (fun _ _ _ h => h) (Or.inl ⟨by rfl, ?yz105_3⟩) S_105.out ?rz105_3
  case yz105_3 =>
    rintro w' hSw
    have k0 := (RB_104.out.below hSw RB_104.out.lt).cell 0
    have k1 := (RB_104.out.below hSw RB_104.out.lt).cell 1
    simp at k0 k1
    go_simp
    try with_reducible rfl
  try simp only [Act.put, List.setIfInBounds_toArray, List.set_cons_zero, List.set_cons_succ]
  refine wpAnyH_take (i := 4) (oi := ⟨some 17, _, _, _, _, _⟩) (v := ?vz105_4) rfl (by kernel_rfl) (by kernel_rfl) (by kernel_rfl) (fun _ _ _ h => h) (Or.inl ⟨by rfl, ?yz105_4⟩) S_105.out ?rz105_4
  case yz105_4 =>
    rintro w' hSw
    have k0 := (RA_104.out.below hSw RA_104.out.lt).cell 0
    have k1 := (RA_104.out.below hSw RA_104.out.lt).cell 1
    simp at k0 k1
    go_simp
    try with_reducible rfl
  try simp only [Act.put, List.setIfInBounds_toArray, List.set_cons_zero, List.set_cons_succ]
  refine wpAnyH_ready (rs := [2]) (by kernel_rfl) (by simp) ?_
  refine (AllReadyH.cons rfl (fun K hK => ?_) AllReadyH.nil)
  go_simp
  refine (HAB.out _).mono ?_
  rintro e Xz105_5 ⟨rfl, hb⟩
  have Sz105_5 := Lib.hid (S_105.out.trans (hb.mono S_105.out.size))
  clear hb S_105
  refine hK _ _ Sz105_5.out (fun _ => ?_)
  clear hK K
  try simp only [Act.put, List.setIfInBounds_toArray, List.set_cons_zero, List.set_cons_succ]
  refine wpAnyH_ready (rs := [5]) (by kernel_rfl) (by simp) ?_
  refine (AllReadyH.cons rfl (fun K hK => ?_) AllReadyH.nil)
  go_simp
  refine (HBA.out _).mono ?_
  rintro e Xz105_6 ⟨rfl, hb⟩
  have Sz105_6 := Lib.hid (Sz105_5.out.trans (hb.mono Sz105_5.out.size))
  clear hb Sz105_5
  refine hK _ _ Sz105_6.out (fun _ => ?_)
  clear hK K
  try simp only [Act.put, List.setIfInBounds_toArray, List.set_cons_zero, List.set_cons_succ]
  refine wpAnyH_take (i := 6) (oi := ⟨some 19, _, _, _, _, _⟩) (v := ?vz105_7) rfl (by kernel_rfl) (by kernel_rfl) (by kernel_rfl) (fun _ _ _ h => h) (Or.inl ⟨by rfl, ?yz105_7⟩) Sz105_6.out ?rz105_7
  case yz105_7 =>
    rintro w' hSw
    go_simp
    try with_reducible rfl
  try simp only [Act.put, List.setIfInBounds_toArray, List.set_cons_zero, List.set_cons_succ]
  refine wpAnyH_take (i := 7) (oi := ⟨some 20, _, _, _, _, _⟩) (v := ?vz105_8) rfl (by kernel_rfl) (by kernel_rfl) (by kernel_rfl) (fun _ _ _ h => h) (Or.inl ⟨by rfl, ?yz105_8⟩) Sz105_6.out ?rz105_8
  case yz105_8 =>
    rintro w' hSw
    go_simp
    try with_reducible rfl
  try simp only [Act.put, List.setIfInBounds_toArray, List.set_cons_zero, List.set_cons_succ]
  refine wpAnyH_take (i := 8) (oi := ⟨some 21, _, _, _, _, _⟩) (v := ?vz105_9) rfl (by kernel_rfl) (by kernel_rfl) (by kernel_rfl) (fun _ _ _ h => h) (Or.inl ⟨by rfl, ?yz105_9⟩) Sz105_6.out ?rz105_9
  case yz105_9 =>
    rintro w' hSw
    go_simp
    try with_reducible rfl
  try simp only [Act.put, List.setIfInBounds_toArray, List.set_cons_zero, List.set_cons_succ]
  refine wpAnyH_take (i := 9) (oi := ⟨some 22, _, _, _, _, _⟩) (v := ?vz105_10) rfl (by kernel_rfl) (by kernel_rfl) (by kernel_rfl) (fun _ _ _ h => h) (Or.inl ⟨by rfl, ?yz105_10⟩) Sz105_6.out ?rz105_10
  case yz105_10 =>
    rintro w' hSw
    have k0 := (RA_104.out.below hSw RA_104.out.lt).cell 0
    have k1 := (RA_104.out.below hSw RA_104.out.lt).cell 1
    simp at k0 k1
    go_simp
    try with_reducible rfl
  try simp only [Act.put, List.setIfInBounds_toArray, List.set_cons_zero, List.set_cons_succ]
  refine wpAnyH_take (i := 10) (oi := ⟨some 23, _, _, _, _, _⟩) (v := ?vz105_11) rfl (by kernel_rfl) (by kernel_rfl) (by kernel_rfl) (fun _ _ _ h => h) (Or.inl ⟨by rfl, ?yz105_11⟩) Sz105_6.out ?rz105_11
  case yz105_11 =>
    rintro w' hSw
    have k0 := (RB_104.out.below hSw RB_104.out.lt).cell 0
    have k1 := (RB_104.out.below hSw RB_104.out.lt).cell 1
    simp at k0 k1
    go_simp
    try with_reducible rfl
  try simp only [Act.put, List.setIfInBounds_toArray, List.set_cons_zero, List.set_cons_succ]
  refine wpAnyH_take (i := 13) (oi := ⟨some 26, _, _, _, _, _⟩) (v := ?vz105_12) rfl (by kernel_rfl) (by kernel_rfl) (by kernel_rfl) (fun _ _ _ h => h) (Or.inl ⟨by rfl, ?yz105_12⟩) Sz105_6.out ?rz105_12
  case yz105_12 =>
    rintro w' hSw
    have k0 := (RA_104.out.below hSw RA_104.out.lt).cell 0
    have k1 := (RA_104.out.below hSw RA_104.out.lt).cell 1
    simp at k0 k1
    go_simp
    try with_reducible rfl
  try simp only [Act.put, List.setIfInBounds_toArray, List.set_cons_zero, List.set_cons_succ]
  refine wpAnyH_take (i := 14) (oi := ⟨some 27, _, _, _, _, _⟩) (v := ?vz105_13) rfl (by kernel_rfl) (by kernel_rfl) (by kernel_rfl) (fun _ _ _ h => h) (Or.inl ⟨by rfl, ?yz105_13⟩) Sz105_6.out ?rz105_13
  case yz105_13 =>
    rintro w' hSw
    have k0 := (RB_104.out.below hSw RB_104.out.lt).cell 0
    have k1 := (RB_104.out.below hSw RB_104.out.lt).cell 1
    simp at k0 k1
    go_simp
    try with_reducible rfl
  try simp only [Act.put, List.setIfInBounds_toArray, List.set_cons_zero, List.set_cons_succ]
  refine wpAnyH_take (i := 15) (oi := ⟨some 28, _, _, _, _, _⟩) (v := ?vz105_14) rfl (by kernel_rfl) (by kernel_rfl) (by kernel_rfl) (fun _ _ _ h => h) (Or.inl ⟨by rfl, ?yz105_14⟩) Sz105_6.out ?rz105_14
  case yz105_14 =>
    rintro w' hSw
    go_simp
    try with_reducible rfl
  try simp only [Act.put, List.setIfInBounds_toArray, List.set_cons_zero, List.set_cons_succ]
  refine wpAnyH_ready (rs := [11]) (by kernel_rfl) (by simp) ?_
  refine (AllReadyH.cons rfl (fun K hK => ?_) AllReadyH.nil)
  go_simp
  refine (HAB.out _).mono ?_
  rintro e Xz105_15 ⟨rfl, hb⟩
  have Sz105_15 := Lib.hid (Sz105_6.out.trans (hb.mono Sz105_6.out.size))
  clear hb Sz105_6
  refine hK _ _ Sz105_15.out (fun _ => ?_)
  clear hK K
  try simp only [Act.put, List.setIfInBounds_toArray, List.set_cons_zero, List.set_cons_succ]
  refine wpAnyH_take (i := 12) (oi := ⟨some 25, _, _, _, _, _⟩) (v := ?vz105_16) rfl (by kernel_rfl) (by kernel_rfl) (by kernel_rfl) (fun _ _ _ h => h) (Or.inl ⟨by rfl, ?yz105_16⟩) Sz105_15.out ?rz105_16
  case yz105_16 =>
    rintro w' hSw
    go_simp
    try with_reducible rfl
  try simp only [Act.put, List.setIfInBounds_toArray, List.set_cons_zero, List.set_cons_succ]
  refine wpAnyH_take (i := 16) (oi := ⟨some 29, _, _, _, _, _⟩) (v := ?vz105_17) rfl (by kernel_rfl) (by kernel_rfl) (by kernel_rfl) (fun _ _ _ h => h) (Or.inl ⟨by rfl, ?yz105_17⟩) Sz105_15.out ?rz105_17
  case yz105_17 =>
    rintro w' hSw
    go_simp
    try with_reducible rfl
  try simp only [Act.put, List.setIfInBounds_toArray, List.set_cons_zero, List.set_cons_succ]
  refine wpAnyH_take (i := 17) (oi := ⟨some 30, _, _, _, _, _⟩) (v := ?vz105_18) rfl (by kernel_rfl) (by kernel_rfl) (by kernel_rfl) (fun _ _ _ h => h) (Or.inl ⟨by rfl, ?yz105_18⟩) Sz105_15.out ?rz105_18
  case yz105_18 =>
    rintro w' hSw
    go_simp
    try with_reducible rfl
  try simp only [Act.put, List.setIfInBounds_toArray, List.set_cons_zero, List.set_cons_succ]
  refine wpAnyH_done (by kernel_rfl) ?_ _
  have RA_106 := Lib.hid (RA_104.out.below Sz105_15.out RA_104.out.lt)
  have RB_106 := Lib.hid (RB_104.out.below Sz105_15.out RB_104.out.lt)
  have RC_106 := Lib.hid (RC_104.out.below Sz105_15.out RC_104.out.lt)
  have B_106 := Lib.hid (B_104.out.trans (Sz105_15.out.mono B_104.out.size))
  clear Sz105_15 RA_104 RB_104 RC_104 B_104
  have c0_0 := RA_106.out.cell 0
  have c0_1 := RA_106.out.cell 1
  simp at c0_0 c0_1
  have l0 := RA_106.out.lt
  have c1_0 := RB_106.out.cell 0
  have c1_1 := RB_106.out.cell 1
  simp at c1_0 c1_1
  have l1 := RB_106.out.lt
  have c2_0 := RC_106.out.cell 0
  have c2_1 := RC_106.out.cell 1
  simp at c2_0 c2_1
  have l2 := RC_106.out.lt
  go_wp2_with fail
  refine (HAB.out _).mono ?_
  rintro e W107 ⟨rfl, hb⟩
  clear c0_0 c0_1 l0 c1_0 c1_1 l1 c2_0 c2_1 l2
  have RA_108 := Lib.hid (RA_106.out.below hb RA_106.out.lt)
  have RB_108 := Lib.hid (RB_106.out.below hb RB_106.out.lt)
  have RC_108 := Lib.hid (RC_106.out.below hb RC_106.out.lt)
  have B_108 := Lib.hid (B_106.out.trans (hb.mono B_106.out.size))
  clear hb RA_106 RB_106 RC_106 B_106
  have c0_0 := RA_108.out.cell 0
  have c0_1 := RA_108.out.cell 1
  simp at c0_0 c0_1
  have l0 := RA_108.out.lt
  have c1_0 := RB_108.out.cell 0
  have c1_1 := RB_108.out.cell 1
  simp at c1_0 c1_1
  have l1 := RB_108.out.lt
  have c2_0 := RC_108.out.cell 0
  have c2_1 := RC_108.out.cell 1
  simp at c2_0 c2_1
  have l2 := RC_108.out.lt
  go_wp2_with fail
  refine (HS.out _).mono ?_
  rintro e W109 ⟨rfl, hb⟩
  clear c0_0 c0_1 l0 c1_0 c1_1 l1 c2_0 c2_1 l2
  have RA_110 := Lib.hid (RA_108.out.below hb RA_108.out.lt)
  have RB_110 := Lib.hid (RB_108.out.below hb RB_108.out.lt)
  have RC_110 := Lib.hid (RC_108.out.below hb RC_108.out.lt)
  have B_110 := Lib.hid (B_108.out.trans (hb.mono B_108.out.size))
  clear hb RA_108 RB_108 RC_108 B_108
  have RA_111 := Lib.hid (RA_110.out.alloc (.cells #[.int .u64 (xh : Int), .int .u64 (xl : Int)] 25))
  have RB_111 := Lib.hid (RB_110.out.alloc (.cells #[.int .u64 (xh : Int), .int .u64 (xl : Int)] 25))
  have RC_111 := Lib.hid (RC_110.out.alloc (.cells #[.int .u64 (xh : Int), .int .u64 (xl : Int)] 25))
  have RX_111 := Lib.hid (Row.new W109 25 [.int .u64 (xh : Int), .int .u64 (xl : Int)])
  have B_111 := Lib.hid (B_110.out.alloc B_110.out.size (.cells #[.int .u64 (xh : Int), .int .u64 (xl : Int)] 25))
  go_upto_region 8 with fail
  obtain ⟨gRX, hgRX⟩ : ∃ g, g = W109.heap.size := ⟨_, rfl⟩
  clear RA_110 RB_110 RC_110 B_110
  rw [← hgRX] at RX_111 ⊢
  clear hgRX
  generalize W109.alloc (.cells #[.int .u64 (xh : Int), .int .u64 (xl : Int)] 25) = V111 at RA_111 RB_111 RC_111 RX_111 B_111 ⊢
  have c0_0 := RA_111.out.cell 0
  have c0_1 := RA_111.out.cell 1
  simp at c0_0 c0_1
  have l0 := RA_111.out.lt
  have c1_0 := RB_111.out.cell 0
  have c1_1 := RB_111.out.cell 1
  simp at c1_0 c1_1
  have l1 := RB_111.out.lt
  have c2_0 := RC_111.out.cell 0
  have c2_1 := RC_111.out.cell 1
  simp at c2_0 c2_1
  have l2 := RC_111.out.lt
  have c3_0 := RX_111.out.cell 0
  have c3_1 := RX_111.out.cell 1
  simp at c3_0 c3_1
  have l3 := RX_111.out.lt
  go_wp2_with fail
  refine (HT.out _).mono ?_
  rintro e W112 ⟨rfl, hb⟩
  clear c0_0 c0_1 l0 c1_0 c1_1 l1 c2_0 c2_1 l2 c3_0 c3_1 l3
  have RA_113 := Lib.hid (RA_111.out.below hb RA_111.out.lt)
  have RB_113 := Lib.hid (RB_111.out.below hb RB_111.out.lt)
  have RC_113 := Lib.hid (RC_111.out.below hb RC_111.out.lt)
  have RX_113 := Lib.hid (RX_111.out.below hb RX_111.out.lt)
  have B_113 := Lib.hid (B_111.out.trans (hb.mono B_111.out.size))
  clear hb RA_111 RB_111 RC_111 RX_111 B_111
  have RA_114 := Lib.hid (RA_113.out.alloc (.cells #[.int .u64 (yh : Int), .int .u64 (yl : Int)] 25))
  have RB_114 := Lib.hid (RB_113.out.alloc (.cells #[.int .u64 (yh : Int), .int .u64 (yl : Int)] 25))
  have RC_114 := Lib.hid (RC_113.out.alloc (.cells #[.int .u64 (yh : Int), .int .u64 (yl : Int)] 25))
  have RX_114 := Lib.hid (RX_113.out.alloc (.cells #[.int .u64 (yh : Int), .int .u64 (yl : Int)] 25))
  have RY_114 := Lib.hid (Row.new W112 25 [.int .u64 (yh : Int), .int .u64 (yl : Int)])
  have B_114 := Lib.hid (B_113.out.alloc B_113.out.size (.cells #[.int .u64 (yh : Int), .int .u64 (yl : Int)] 25))
  go_upto_region 9 with fail
  obtain ⟨gRY, hgRY⟩ : ∃ g, g = W112.heap.size := ⟨_, rfl⟩
  clear RA_113 RB_113 RC_113 RX_113 B_113
  rw [← hgRY] at RY_114 ⊢
  clear hgRY
  generalize W112.alloc (.cells #[.int .u64 (yh : Int), .int .u64 (yl : Int)] 25) = V114 at RA_114 RB_114 RC_114 RX_114 RY_114 B_114 ⊢
  rcases hfl with rfl | ⟨rfl, rfl⟩ | ⟨rfl, rfl, rfl⟩
  · refine wp_region_held_drew (S := fun w' => Below V114.heap.size V114 w') (by kernel_rfl) (Below.refl _ _).drew (fun hHeld => ?_)
    have S_115 := Lib.hid hHeld
    clear hHeld
    generalize V114.drew = D115 at S_115 ⊢
    refine wpAnyH_take (i := 0) (oi := ⟨some 59, _, _, _, _, _⟩) (v := ?vz115_1) rfl (by kernel_rfl) (by kernel_rfl) (by kernel_rfl) (fun _ _ _ h => h) (Or.inl ⟨by rfl, ?yz115_1⟩) S_115.out ?rz115_1
    case yz115_1 =>
      rintro w' hSw
      go_simp
      try with_reducible rfl
    try simp only [Act.put, List.setIfInBounds_toArray, List.set_cons_zero, List.set_cons_succ]
    refine wpAnyH_take (i := 1) (oi := ⟨some 60, _, _, _, _, _⟩) (v := ?vz115_2) rfl (by kernel_rfl) (by kernel_rfl) (by kernel_rfl) (fun _ _ _ h => h) (Or.inl ⟨by rfl, ?yz115_2⟩) S_115.out ?rz115_2
    case yz115_2 =>
      rintro w' hSw
      go_simp
      try with_reducible rfl
    try simp only [Act.put, List.setIfInBounds_toArray, List.set_cons_zero, List.set_cons_succ]
    refine wpAnyH_take (i := 2) (oi := ⟨some 61, _, _, _, _, _⟩) (v := ?vz115_3) rfl (by kernel_rfl) (by kernel_rfl) (by kernel_rfl) (fun _ _ _ h => h) (Or.inl ⟨by rfl, ?yz115_3⟩) S_115.out ?rz115_3
    case yz115_3 =>
      rintro w' hSw
      go_simp
      try with_reducible rfl
    try simp only [Act.put, List.setIfInBounds_toArray, List.set_cons_zero, List.set_cons_succ]
    refine wpAnyH_take (i := 3) (oi := ⟨some 62, _, _, _, _, _⟩) (v := undef) rfl (by kernel_rfl) (by kernel_rfl) (by kernel_rfl) (fun _ _ _ h => h) (Or.inr ⟨by rfl, rfl⟩) S_115.out ?rz115_4
    try simp only [Act.put, List.setIfInBounds_toArray, List.set_cons_zero, List.set_cons_succ]
    refine wpAnyH_take (i := 4) (oi := ⟨some 63, _, _, _, _, _⟩) (v := undef) rfl (by kernel_rfl) (by kernel_rfl) (by kernel_rfl) (fun _ _ _ h => h) (Or.inr ⟨by rfl, rfl⟩) S_115.out ?rz115_5
    try simp only [Act.put, List.setIfInBounds_toArray, List.set_cons_zero, List.set_cons_succ]
    refine wpAnyH_take (i := 5) (oi := ⟨some 64, _, _, _, _, _⟩) (v := ?vz115_6) rfl (by kernel_rfl) (by kernel_rfl) (by kernel_rfl) (fun _ _ _ h => h) (Or.inl ⟨by rfl, ?yz115_6⟩) S_115.out ?rz115_6
    case yz115_6 =>
      rintro w' hSw
      go_simp
      try with_reducible rfl
    try simp only [Act.put, List.setIfInBounds_toArray, List.set_cons_zero, List.set_cons_succ]
    refine wpAnyH_take (i := 6) (oi := ⟨some 65, _, _, _, _, _⟩) (v := ?vz115_7) rfl (by kernel_rfl) (by kernel_rfl) (by kernel_rfl) (fun _ _ _ h => h) (Or.inl ⟨by rfl, ?yz115_7⟩) S_115.out ?rz115_7
    case yz115_7 =>
      rintro w' hSw
      go_simp
      try with_reducible rfl
    try simp only [Act.put, List.setIfInBounds_toArray, List.set_cons_zero, List.set_cons_succ]
    refine wpAnyH_take (i := 7) (oi := ⟨some 66, _, _, _, _, _⟩) (v := undef) rfl (by kernel_rfl) (by kernel_rfl) (by kernel_rfl) (fun _ _ _ h => h) (Or.inr ⟨by rfl, rfl⟩) S_115.out ?rz115_8
    try simp only [Act.put, List.setIfInBounds_toArray, List.set_cons_zero, List.set_cons_succ]
    refine wpAnyH_take (i := 8) (oi := ⟨some 67, _, _, _, _, _⟩) (v := undef) rfl (by kernel_rfl) (by kernel_rfl) (by kernel_rfl) (fun _ _ _ h => h) (Or.inr ⟨by rfl, rfl⟩) S_115.out ?rz115_9
    try simp only [Act.put, List.setIfInBounds_toArray, List.set_cons_zero, List.set_cons_succ]
    refine wpAnyH_take (i := 9) (oi := ⟨some 68, _, _, _, _, _⟩) (v := undef) rfl (by kernel_rfl) (by kernel_rfl) (by kernel_rfl) (fun _ _ _ h => h) (Or.inr ⟨by rfl, rfl⟩) S_115.out ?rz115_10
    try simp only [Act.put, List.setIfInBounds_toArray, List.set_cons_zero, List.set_cons_succ]
    refine wpAnyH_take (i := 10) (oi := ⟨some 69, _, _, _, _, _⟩) (v := undef) rfl (by kernel_rfl) (by kernel_rfl) (by kernel_rfl) (fun _ _ _ h => h) (Or.inr ⟨by rfl, rfl⟩) S_115.out ?rz115_11
    try simp only [Act.put, List.setIfInBounds_toArray, List.set_cons_zero, List.set_cons_succ]
    refine wpAnyH_take (i := 11) (oi := ⟨some 70, _, _, _, _, _⟩) (v := undef) rfl (by kernel_rfl) (by kernel_rfl) (by kernel_rfl) (fun _ _ _ h => h) (Or.inr ⟨by rfl, rfl⟩) S_115.out ?rz115_12
    try simp only [Act.put, List.setIfInBounds_toArray, List.set_cons_zero, List.set_cons_succ]
    refine wpAnyH_take (i := 12) (oi := ⟨some 71, _, _, _, _, _⟩) (v := undef) rfl (by kernel_rfl) (by kernel_rfl) (by kernel_rfl) (fun _ _ _ h => h) (Or.inr ⟨by rfl, rfl⟩) S_115.out ?rz115_13
    try simp only [Act.put, List.setIfInBounds_toArray, List.set_cons_zero, List.set_cons_succ]
    refine wpAnyH_take (i := 13) (oi := ⟨some 72, _, _, _, _, _⟩) (v := undef) rfl (by kernel_rfl) (by kernel_rfl) (by kernel_rfl) (fun _ _ _ h => h) (Or.inr ⟨by rfl, rfl⟩) S_115.out ?rz115_14
    try simp only [Act.put, List.setIfInBounds_toArray, List.set_cons_zero, List.set_cons_succ]
    refine wpAnyH_take (i := 14) (oi := ⟨some 73, _, _, _, _, _⟩) (v := ?vz115_15) rfl (by kernel_rfl) (by kernel_rfl) (by kernel_rfl) (fun _ _ _ h => h) (Or.inl ⟨by rfl, ?yz115_15⟩) S_115.out ?rz115_15
    case yz115_15 =>
      rintro w' hSw
      go_simp
      try with_reducible rfl
    try simp only [Act.put, List.setIfInBounds_toArray, List.set_cons_zero, List.set_cons_succ]
    refine wpAnyH_take (i := 15) (oi := ⟨some 6, _, _, _, _, _⟩) (v := ?vz115_16) rfl (by kernel_rfl) (by kernel_rfl) (by kernel_rfl) (fun _ _ _ h => h) (Or.inl ⟨by rfl, ?yz115_16⟩) S_115.out ?rz115_16
    case yz115_16 =>
      rintro w' hSw
      go_simp
      try with_reducible rfl
    try simp only [Act.put, List.setIfInBounds_toArray, List.set_cons_zero, List.set_cons_succ]
    refine wpAnyH_done (by kernel_rfl) ?_ _
    have RA_116 := Lib.hid (RA_114.out.below S_115.out RA_114.out.lt)
    have RB_116 := Lib.hid (RB_114.out.below S_115.out RB_114.out.lt)
    have RC_116 := Lib.hid (RC_114.out.below S_115.out RC_114.out.lt)
    have RX_116 := Lib.hid (RX_114.out.below S_115.out RX_114.out.lt)
    have RY_116 := Lib.hid (RY_114.out.below S_115.out RY_114.out.lt)
    have B_116 := Lib.hid (B_114.out.trans (S_115.out.mono B_114.out.size))
    clear S_115 RA_114 RB_114 RC_114 RX_114 RY_114 B_114
    go_wp2
    go_ret
    exact ⟨rfl, B_116.out⟩
  · refine wp_region_held_drew (S := fun w' => Below V114.heap.size V114 w') (by kernel_rfl) (Below.refl _ _).drew (fun hHeld => ?_)
    have S_117 := Lib.hid hHeld
    clear hHeld
    generalize V114.drew = D117 at S_117 ⊢
    refine wpAnyH_take (i := 0) (oi := ⟨some 59, _, _, _, _, _⟩) (v := ?vz117_1) rfl (by kernel_rfl) (by kernel_rfl) (by kernel_rfl) (fun _ _ _ h => h) (Or.inl ⟨by rfl, ?yz117_1⟩) S_117.out ?rz117_1
    case yz117_1 =>
      rintro w' hSw
      go_simp
      try with_reducible rfl
    try simp only [Act.put, List.setIfInBounds_toArray, List.set_cons_zero, List.set_cons_succ]
    refine wpAnyH_take (i := 1) (oi := ⟨some 60, _, _, _, _, _⟩) (v := ?vz117_2) rfl (by kernel_rfl) (by kernel_rfl) (by kernel_rfl) (fun _ _ _ h => h) (Or.inl ⟨by rfl, ?yz117_2⟩) S_117.out ?rz117_2
    case yz117_2 =>
      rintro w' hSw
      go_simp
      try with_reducible rfl
    try simp only [Act.put, List.setIfInBounds_toArray, List.set_cons_zero, List.set_cons_succ]
    refine wpAnyH_take (i := 2) (oi := ⟨some 61, _, _, _, _, _⟩) (v := ?vz117_3) rfl (by kernel_rfl) (by kernel_rfl) (by kernel_rfl) (fun _ _ _ h => h) (Or.inl ⟨by rfl, ?yz117_3⟩) S_117.out ?rz117_3
    case yz117_3 =>
      rintro w' hSw
      go_simp
      try with_reducible rfl
    try simp only [Act.put, List.setIfInBounds_toArray, List.set_cons_zero, List.set_cons_succ]
    refine wpAnyH_take (i := 3) (oi := ⟨some 62, _, _, _, _, _⟩) (v := ?vz117_4) rfl (by kernel_rfl) (by kernel_rfl) (by kernel_rfl) (fun _ _ _ h => h) (Or.inl ⟨by rfl, ?yz117_4⟩) S_117.out ?rz117_4
    case yz117_4 =>
      rintro w' hSw
      go_simp
      try with_reducible rfl
    try simp only [Act.put, List.setIfInBounds_toArray, List.set_cons_zero, List.set_cons_succ]
    refine wpAnyH_take (i := 4) (oi := ⟨some 63, _, _, _, _, _⟩) (v := ?vz117_5) rfl (by kernel_rfl) (by kernel_rfl) (by kernel_rfl) (fun _ _ _ h => h) (Or.inl ⟨by rfl, ?yz117_5⟩) S_117.out ?rz117_5
    case yz117_5 =>
      rintro w' hSw
      go_simp
      try with_reducible rfl
    try simp only [Act.put, List.setIfInBounds_toArray, List.set_cons_zero, List.set_cons_succ]
    refine wpAnyH_take (i := 5) (oi := ⟨some 64, _, _, _, _, _⟩) (v := ?vz117_6) rfl (by kernel_rfl) (by kernel_rfl) (by kernel_rfl) (fun _ _ _ h => h) (Or.inl ⟨by rfl, ?yz117_6⟩) S_117.out ?rz117_6
    case yz117_6 =>
      rintro w' hSw
      go_simp
      try with_reducible rfl
    try simp only [Act.put, List.setIfInBounds_toArray, List.set_cons_zero, List.set_cons_succ]
    refine wpAnyH_take (i := 6) (oi := ⟨some 65, _, _, _, _, _⟩) (v := ?vz117_7) rfl (by kernel_rfl) (by kernel_rfl) (by kernel_rfl) (fun _ _ _ h => h) (Or.inl ⟨by rfl, ?yz117_7⟩) S_117.out ?rz117_7
    case yz117_7 =>
      rintro w' hSw
      go_simp
      try with_reducible rfl
    try simp only [Act.put, List.setIfInBounds_toArray, List.set_cons_zero, List.set_cons_succ]
    refine wpAnyH_take (i := 7) (oi := ⟨some 66, _, _, _, _, _⟩) (v := undef) rfl (by kernel_rfl) (by kernel_rfl) (by kernel_rfl) (fun _ _ _ h => h) (Or.inr ⟨by rfl, rfl⟩) S_117.out ?rz117_8
    try simp only [Act.put, List.setIfInBounds_toArray, List.set_cons_zero, List.set_cons_succ]
    refine wpAnyH_take (i := 8) (oi := ⟨some 67, _, _, _, _, _⟩) (v := undef) rfl (by kernel_rfl) (by kernel_rfl) (by kernel_rfl) (fun _ _ _ h => h) (Or.inr ⟨by rfl, rfl⟩) S_117.out ?rz117_9
    try simp only [Act.put, List.setIfInBounds_toArray, List.set_cons_zero, List.set_cons_succ]
    refine wpAnyH_take (i := 9) (oi := ⟨some 68, _, _, _, _, _⟩) (v := undef) rfl (by kernel_rfl) (by kernel_rfl) (by kernel_rfl) (fun _ _ _ h => h) (Or.inr ⟨by rfl, rfl⟩) S_117.out ?rz117_10
    try simp only [Act.put, List.setIfInBounds_toArray, List.set_cons_zero, List.set_cons_succ]
    refine wpAnyH_take (i := 10) (oi := ⟨some 69, _, _, _, _, _⟩) (v := undef) rfl (by kernel_rfl) (by kernel_rfl) (by kernel_rfl) (fun _ _ _ h => h) (Or.inr ⟨by rfl, rfl⟩) S_117.out ?rz117_11
    try simp only [Act.put, List.setIfInBounds_toArray, List.set_cons_zero, List.set_cons_succ]
    refine wpAnyH_take (i := 11) (oi := ⟨some 70, _, _, _, _, _⟩) (v := undef) rfl (by kernel_rfl) (by kernel_rfl) (by kernel_rfl) (fun _ _ _ h => h) (Or.inr ⟨by rfl, rfl⟩) S_117.out ?rz117_12
    try simp only [Act.put, List.setIfInBounds_toArray, List.set_cons_zero, List.set_cons_succ]
    refine wpAnyH_take (i := 12) (oi := ⟨some 71, _, _, _, _, _⟩) (v := undef) rfl (by kernel_rfl) (by kernel_rfl) (by kernel_rfl) (fun _ _ _ h => h) (Or.inr ⟨by rfl, rfl⟩) S_117.out ?rz117_13
    try simp only [Act.put, List.setIfInBounds_toArray, List.set_cons_zero, List.set_cons_succ]
    refine wpAnyH_take (i := 13) (oi := ⟨some 72, _, _, _, _, _⟩) (v := undef) rfl (by kernel_rfl) (by kernel_rfl) (by kernel_rfl) (fun _ _ _ h => h) (Or.inr ⟨by rfl, rfl⟩) S_117.out ?rz117_14
    try simp only [Act.put, List.setIfInBounds_toArray, List.set_cons_zero, List.set_cons_succ]
    refine wpAnyH_take (i := 14) (oi := ⟨some 73, _, _, _, _, _⟩) (v := ?vz117_15) rfl (by kernel_rfl) (by kernel_rfl) (by kernel_rfl) (fun _ _ _ h => h) (Or.inl ⟨by rfl, ?yz117_15⟩) S_117.out ?rz117_15
    case yz117_15 =>
      rintro w' hSw
      go_simp
      try with_reducible rfl
    try simp only [Act.put, List.setIfInBounds_toArray, List.set_cons_zero, List.set_cons_succ]
    refine wpAnyH_take (i := 15) (oi := ⟨some 6, _, _, _, _, _⟩) (v := ?vz117_16) rfl (by kernel_rfl) (by kernel_rfl) (by kernel_rfl) (fun _ _ _ h => h) (Or.inl ⟨by rfl, ?yz117_16⟩) S_117.out ?rz117_16
    case yz117_16 =>
      rintro w' hSw
      go_simp
      try with_reducible rfl
    try simp only [Act.put, List.setIfInBounds_toArray, List.set_cons_zero, List.set_cons_succ]
    refine wpAnyH_done (by kernel_rfl) ?_ _
    have RA_118 := Lib.hid (RA_114.out.below S_117.out RA_114.out.lt)
    have RB_118 := Lib.hid (RB_114.out.below S_117.out RB_114.out.lt)
    have RC_118 := Lib.hid (RC_114.out.below S_117.out RC_114.out.lt)
    have RX_118 := Lib.hid (RX_114.out.below S_117.out RX_114.out.lt)
    have RY_118 := Lib.hid (RY_114.out.below S_117.out RY_114.out.lt)
    have B_118 := Lib.hid (B_114.out.trans (S_117.out.mono B_114.out.size))
    clear S_117 RA_114 RB_114 RC_114 RX_114 RY_114 B_114
    go_wp2
    go_ret
    exact ⟨rfl, B_118.out⟩
  · refine wp_region_held_drew (S := fun w' => Below V114.heap.size V114 w') (by kernel_rfl) (Below.refl _ _).drew (fun hHeld => ?_)
    have S_119 := Lib.hid hHeld
    clear hHeld
    generalize V114.drew = D119 at S_119 ⊢
    refine wpAnyH_take (i := 0) (oi := ⟨some 59, _, _, _, _, _⟩) (v := ?vz119_1) rfl (by kernel_rfl) (by kernel_rfl) (by kernel_rfl) (fun _ _ _ h => h) (Or.inl ⟨by rfl, ?yz119_1⟩) S_119.out ?rz119_1
    case yz119_1 =>
      rintro w' hSw
      go_simp
      try with_reducible rfl
    try simp only [Act.put, List.setIfInBounds_toArray, List.set_cons_zero, List.set_cons_succ]
    refine wpAnyH_take (i := 1) (oi := ⟨some 60, _, _, _, _, _⟩) (v := ?vz119_2) rfl (by kernel_rfl) (by kernel_rfl) (by kernel_rfl) (fun _ _ _ h => h) (Or.inl ⟨by rfl, ?yz119_2⟩) S_119.out ?rz119_2
    case yz119_2 =>
      rintro w' hSw
      go_simp
      try with_reducible rfl
    try simp only [Act.put, List.setIfInBounds_toArray, List.set_cons_zero, List.set_cons_succ]
    refine wpAnyH_take (i := 2) (oi := ⟨some 61, _, _, _, _, _⟩) (v := ?vz119_3) rfl (by kernel_rfl) (by kernel_rfl) (by kernel_rfl) (fun _ _ _ h => h) (Or.inl ⟨by rfl, ?yz119_3⟩) S_119.out ?rz119_3
    case yz119_3 =>
      rintro w' hSw
      go_simp
      try with_reducible rfl
    try simp only [Act.put, List.setIfInBounds_toArray, List.set_cons_zero, List.set_cons_succ]
    refine wpAnyH_take (i := 3) (oi := ⟨some 62, _, _, _, _, _⟩) (v := ?vz119_4) rfl (by kernel_rfl) (by kernel_rfl) (by kernel_rfl) (fun _ _ _ h => h) (Or.inl ⟨by rfl, ?yz119_4⟩) S_119.out ?rz119_4
    case yz119_4 =>
      rintro w' hSw
      go_simp
      try with_reducible rfl
    try simp only [Act.put, List.setIfInBounds_toArray, List.set_cons_zero, List.set_cons_succ]
    refine wpAnyH_take (i := 4) (oi := ⟨some 63, _, _, _, _, _⟩) (v := ?vz119_5) rfl (by kernel_rfl) (by kernel_rfl) (by kernel_rfl) (fun _ _ _ h => h) (Or.inl ⟨by rfl, ?yz119_5⟩) S_119.out ?rz119_5
    case yz119_5 =>
      rintro w' hSw
      go_simp
      try with_reducible rfl
    try simp only [Act.put, List.setIfInBounds_toArray, List.set_cons_zero, List.set_cons_succ]
    refine wpAnyH_take (i := 5) (oi := ⟨some 64, _, _, _, _, _⟩) (v := ?vz119_6) rfl (by kernel_rfl) (by kernel_rfl) (by kernel_rfl) (fun _ _ _ h => h) (Or.inl ⟨by rfl, ?yz119_6⟩) S_119.out ?rz119_6
    case yz119_6 =>
      rintro w' hSw
      go_simp
      try with_reducible rfl
    try simp only [Act.put, List.setIfInBounds_toArray, List.set_cons_zero, List.set_cons_succ]
    refine wpAnyH_take (i := 6) (oi := ⟨some 65, _, _, _, _, _⟩) (v := ?vz119_7) rfl (by kernel_rfl) (by kernel_rfl) (by kernel_rfl) (fun _ _ _ h => h) (Or.inl ⟨by rfl, ?yz119_7⟩) S_119.out ?rz119_7
    case yz119_7 =>
      rintro w' hSw
      go_simp
      try with_reducible rfl
    try simp only [Act.put, List.setIfInBounds_toArray, List.set_cons_zero, List.set_cons_succ]
    refine wpAnyH_take (i := 7) (oi := ⟨some 66, _, _, _, _, _⟩) (v := ?vz119_8) rfl (by kernel_rfl) (by kernel_rfl) (by kernel_rfl) (fun _ _ _ h => h) (Or.inl ⟨by rfl, ?yz119_8⟩) S_119.out ?rz119_8
    case yz119_8 =>
      rintro w' hSw
      have k0 := (RX_114.out.below hSw RX_114.out.lt).cell 0
      have k1 := (RX_114.out.below hSw RX_114.out.lt).cell 1
      simp at k0 k1
      go_simp
      try with_reducible rfl
    try simp only [Act.put, List.setIfInBounds_toArray, List.set_cons_zero, List.set_cons_succ]
    refine wpAnyH_take (i := 8) (oi := ⟨some 67, _, _, _, _, _⟩) (v := ?vz119_9) rfl (by kernel_rfl) (by kernel_rfl) (by kernel_rfl) (fun _ _ _ h => h) (Or.inl ⟨by rfl, ?yz119_9⟩) S_119.out ?rz119_9
    case yz119_9 =>
      rintro w' hSw
      have k0 := (RY_114.out.below hSw RY_114.out.lt).cell 0
      have k1 := (RY_114.out.below hSw RY_114.out.lt).cell 1
      simp at k0 k1
      go_simp
      try with_reducible rfl
    try simp only [Act.put, List.setIfInBounds_toArray, List.set_cons_zero, List.set_cons_succ]
    refine wpAnyH_take (i := 10) (oi := ⟨some 69, _, _, _, _, _⟩) (v := ?vz119_10) rfl (by kernel_rfl) (by kernel_rfl) (by kernel_rfl) (fun _ _ _ h => h) (Or.inl ⟨by rfl, ?yz119_10⟩) S_119.out ?rz119_10
    case yz119_10 =>
      rintro w' hSw
      have k0 := (RA_114.out.below hSw RA_114.out.lt).cell 0
      have k1 := (RA_114.out.below hSw RA_114.out.lt).cell 1
      simp at k0 k1
      go_simp
      try with_reducible rfl
    try simp only [Act.put, List.setIfInBounds_toArray, List.set_cons_zero, List.set_cons_succ]
    refine wpAnyH_take (i := 11) (oi := ⟨some 70, _, _, _, _, _⟩) (v := ?vz119_11) rfl (by kernel_rfl) (by kernel_rfl) (by kernel_rfl) (fun _ _ _ h => h) (Or.inl ⟨by rfl, ?yz119_11⟩) S_119.out ?rz119_11
    case yz119_11 =>
      rintro w' hSw
      have k0 := (RB_114.out.below hSw RB_114.out.lt).cell 0
      have k1 := (RB_114.out.below hSw RB_114.out.lt).cell 1
      simp at k0 k1
      go_simp
      try with_reducible rfl
    try simp only [Act.put, List.setIfInBounds_toArray, List.set_cons_zero, List.set_cons_succ]
    refine wpAnyH_ready (rs := [9]) (by kernel_rfl) (by simp) ?_
    refine (AllReadyH.cons rfl (fun K hK => ?_) AllReadyH.nil)
    go_simp
    refine (HXY.out _).mono ?_
    rintro e Xz119_12 ⟨rfl, hb⟩
    have Sz119_12 := Lib.hid (S_119.out.trans (hb.mono S_119.out.size))
    clear hb S_119
    refine hK _ _ Sz119_12.out (fun _ => ?_)
    clear hK K
    try simp only [Act.put, List.setIfInBounds_toArray, List.set_cons_zero, List.set_cons_succ]
    refine wpAnyH_ready (rs := [12]) (by kernel_rfl) (by simp) ?_
    refine (AllReadyH.cons rfl (fun K hK => ?_) AllReadyH.nil)
    go_simp
    refine (HAB.out _).mono ?_
    rintro e Xz119_13 ⟨rfl, hb⟩
    have Sz119_13 := Lib.hid (Sz119_12.out.trans (hb.mono Sz119_12.out.size))
    clear hb Sz119_12
    refine hK _ _ Sz119_13.out (fun _ => ?_)
    clear hK K
    try simp only [Act.put, List.setIfInBounds_toArray, List.set_cons_zero, List.set_cons_succ]
    refine wpAnyH_take (i := 13) (oi := ⟨some 72, _, _, _, _, _⟩) (v := ?vz119_14) rfl (by kernel_rfl) (by kernel_rfl) (by kernel_rfl) (fun _ _ _ h => h) (Or.inl ⟨by rfl, ?yz119_14⟩) Sz119_13.out ?rz119_14
    case yz119_14 =>
      rintro w' hSw
      go_simp
      try with_reducible rfl
    try simp only [Act.put, List.setIfInBounds_toArray, List.set_cons_zero, List.set_cons_succ]
    refine wpAnyH_take (i := 14) (oi := ⟨some 73, _, _, _, _, _⟩) (v := ?vz119_15) rfl (by kernel_rfl) (by kernel_rfl) (by kernel_rfl) (fun _ _ _ h => h) (Or.inl ⟨by rfl, ?yz119_15⟩) Sz119_13.out ?rz119_15
    case yz119_15 =>
      rintro w' hSw
      go_simp
      try with_reducible rfl
    try simp only [Act.put, List.setIfInBounds_toArray, List.set_cons_zero, List.set_cons_succ]
    refine wpAnyH_take (i := 15) (oi := ⟨some 6, _, _, _, _, _⟩) (v := ?vz119_16) rfl (by kernel_rfl) (by kernel_rfl) (by kernel_rfl) (fun _ _ _ h => h) (Or.inl ⟨by rfl, ?yz119_16⟩) Sz119_13.out ?rz119_16
    case yz119_16 =>
      rintro w' hSw
      go_simp
      try with_reducible rfl
    try simp only [Act.put, List.setIfInBounds_toArray, List.set_cons_zero, List.set_cons_succ]
    refine wpAnyH_done (by kernel_rfl) ?_ _
    have RA_120 := Lib.hid (RA_114.out.below Sz119_13.out RA_114.out.lt)
    have RB_120 := Lib.hid (RB_114.out.below Sz119_13.out RB_114.out.lt)
    have RC_120 := Lib.hid (RC_114.out.below Sz119_13.out RC_114.out.lt)
    have RX_120 := Lib.hid (RX_114.out.below Sz119_13.out RX_114.out.lt)
    have RY_120 := Lib.hid (RY_114.out.below Sz119_13.out RY_114.out.lt)
    have B_120 := Lib.hid (B_114.out.trans (Sz119_13.out.mono B_114.out.size))
    clear Sz119_13 RA_114 RB_114 RC_114 RX_114 RY_114 B_114
    go_wp2
    go_ret
    exact ⟨rfl, B_120.out⟩

set_option maxHeartbeats 8000000 in
theorem walk_g2 (ah al bl ch cl : Nat) (w : World) (h1 : ah < 18446744073709551616) (h2 : al < 18446744073709551616) (h4 : bl < 18446744073709551616) (h5 : ch < 18446744073709551616) (h6 : cl < 18446744073709551616) (hlt : ah * 18446744073709551616 + bl < ah * 18446744073709551616 + al) (hne : ¬ (al : Int) = (bl : Int)) :
    Calls Try.prog 8 #[.agg #[.int .u64 (ah : Int), .int .u64 (al : Int)], .agg #[.int .u64 (ah : Int), .int .u64 (bl : Int)], .agg #[.int .u64 (ch : Int), .int .u64 (cl : Int)]] w fun e w' => e = .returned (.bool true) ∧ Below w.heap.size w w' := by
  have HW := Lib.hid wakes_any
  have hwm : IntKind.i64.wrap (-1) = -1 := by decide
  have hab : cmpM (ah * 18446744073709551616 + al) (ah * 18446744073709551616 + bl) = 1 := cmp_g hlt
  have hba : cmpM (ah * 18446744073709551616 + bl) (ah * 18446744073709551616 + al) = -1 := cmp_l hlt
  obtain ⟨q, hbc⟩ : ∃ q, cmpM (ah * 18446744073709551616 + bl) (ch * 18446744073709551616 + cl) = q := ⟨_, rfl⟩
  obtain ⟨r, hac⟩ : ∃ q, cmpM (ah * 18446744073709551616 + al) (ch * 18446744073709551616 + cl) = q := ⟨_, rfl⟩
  have HAB := Lib.hid (fun w => Cmp_is ah al ah bl w h1 h2 h1 h4 hab)
  have HBA := Lib.hid (fun w => Cmp_is ah bl ah al w h1 h4 h1 h2 hba)
  have HBC := Lib.hid (fun w => Cmp_is ah bl ch cl w h1 h4 h5 h6 hbc)
  have HAC := Lib.hid (fun w => Cmp_is ah al ch cl w h1 h2 h5 h6 hac)
  skip
  obtain ⟨c, xh, xl, hx1, hx2, hc, hs⟩ := sum_parts (ah * 18446744073709551616 + al) (ch * 18446744073709551616 + cl) (two_lt h1 h2) (two_lt h5 h6)
  obtain ⟨d, yh, yl, hy1, hy2, hd, ht⟩ := sum_parts (ah * 18446744073709551616 + bl) (ch * 18446744073709551616 + cl) (two_lt h1 h4) (two_lt h5 h6)
  have HS := Lib.hid (fun w => Add_any ah al ch cl xh xl c w h1 h2 h5 h6 hx1 hx2 hs)
  have HT := Lib.hid (fun w => Add_any ah bl ch cl yh yl d w h1 h4 h5 h6 hy1 hy2 ht)
  obtain ⟨s, hxy⟩ : ∃ q, cmpM (xh * 18446744073709551616 + xl) (yh * 18446744073709551616 + yl) = q := ⟨_, rfl⟩
  have HXY := Lib.hid (fun w => Cmp_is xh xl yh yl w hx1 hx2 hy1 hy2 hxy)
  have hfl := flags hs ht hxy hab
  clear hs ht hc hd hxy hab hba hbc hac
  generalize decide (c = 0) = f1 at HS hfl
  generalize decide (d = 0) = f2 at HT hfl
  clear h1 h2 h4 h5 h6 hx1 hx2 hy1 hy2 hlt
  go_enter Try.func8, Try.ntmps8
  go_upto_region 1 with fail
  have RA_0 := Lib.hid (((row_last w (w.heap.size) 25 [.int .u64 (ah : Int), .int .u64 (al : Int)] (by simp)).alloc (.cells #[.int .u64 (ah : Int), .int .u64 (bl : Int)] 25)).alloc (.cells #[.int .u64 (ch : Int), .int .u64 (cl : Int)] 25))
  have RB_0 := Lib.hid ((row_last (w.alloc (.cells #[.int .u64 (ah : Int), .int .u64 (al : Int)] 25)) (w.heap.size + 1) 25 [.int .u64 (ah : Int), .int .u64 (bl : Int)] (by simp)).alloc (.cells #[.int .u64 (ch : Int), .int .u64 (cl : Int)] 25))
  have RC_0 := Lib.hid (row_last ((w.alloc (.cells #[.int .u64 (ah : Int), .int .u64 (al : Int)] 25)).alloc (.cells #[.int .u64 (ah : Int), .int .u64 (bl : Int)] 25)) (w.heap.size + 1 + 1) 25 [.int .u64 (ch : Int), .int .u64 (cl : Int)] (by simp))
  have B_0 := Lib.hid ((((Below.refl w.heap.size w).alloc (Nat.le_refl _) (.cells #[.int .u64 (ah : Int), .int .u64 (al : Int)] 25)).alloc (by simp <;> omega) (.cells #[.int .u64 (ah : Int), .int .u64 (bl : Int)] 25)).alloc (by simp <;> omega) (.cells #[.int .u64 (ch : Int), .int .u64 (cl : Int)] 25))
  generalize (((w.alloc (.cells #[.int .u64 (ah : Int), .int .u64 (al : Int)] 25)).alloc (.cells #[.int .u64 (ah : Int), .int .u64 (bl : Int)] 25)).alloc (.cells #[.int .u64 (ch : Int), .int .u64 (cl : Int)] 25)) = V0 at RA_0 RB_0 RC_0 B_0 ⊢
  go_wp2_with fail
  refine (HW.out _).mono ?_
  rintro e W121 ⟨rfl, hb⟩
  have RA_122 := Lib.hid (RA_0.out.below hb RA_0.out.lt)
  have RB_122 := Lib.hid (RB_0.out.below hb RB_0.out.lt)
  have RC_122 := Lib.hid (RC_0.out.below hb RC_0.out.lt)
  have B_122 := Lib.hid (B_0.out.trans (hb.mono B_0.out.size))
  clear hb RA_0 RB_0 RC_0 B_0
  go_wp2_with fail
  refine wp_region_held_drew (S := fun w' => Below W121.heap.size W121 w') (by kernel_rfl) (Below.refl _ _).drew (fun hHeld => ?_)
  have S_123 := Lib.hid hHeld
  clear hHeld
  generalize W121.drew = D123 at S_123 ⊢
  refine wpAnyH_take (i := 0) (oi := ⟨some 13, _, _, _, _, _⟩) (v := ?vz123_1) rfl (by kernel_rfl) (by kernel_rfl) (by kernel_rfl) (fun _ _ _ h => h) (Or.inl ⟨by rfl, ?yz123_1⟩) S_123.out ?rz123_1
  case yz123_1 =>
    rintro w' hSw
    have k0 := (RA_122.out.below hSw RA_122.out.lt).cell 0
    have k1 := (RA_122.out.below hSw RA_122.out.lt).cell 1
    simp at k0 k1
    go_simp
    try with_reducible rfl
  try simp only [Act.put, List.setIfInBounds_toArray, List.set_cons_zero, List.set_cons_succ]
  refine wpAnyH_take (i := 1) (oi := ⟨some 14, _, _, _, _, _⟩) (v := ?vz123_2) rfl (by kernel_rfl) (by kernel_rfl) (by kernel_rfl) (fun _ _ _ h => h) (Or.inl ⟨by rfl, ?yz123_2⟩) S_123.out ?rz123_2
  case yz123_2 =>
    rintro w' hSw
    have k0 := (RB_122.out.below hSw RB_122.out.lt).cell 0
    have k1 := (RB_122.out.below hSw RB_122.out.lt).cell 1
    simp at k0 k1
    go_simp
    try with_reducible rfl
  try simp only [Act.put, List.setIfInBounds_toArray, List.set_cons_zero, List.set_cons_succ]
  refine wpAnyH_take (i := 3) (oi := ⟨some 16, _, _, _, _, _⟩) (v := ?vz123_3) rfl (by kernel_rfl) (by kernel_rfl) (by kernel_rfl) (fun _ _ _ h => h) (Or.inl ⟨by rfl, ?yz123_3⟩) S_123.out ?rz123_3
  case yz123_3 =>
    rintro w' hSw
    have k0 := (RB_122.out.below hSw RB_122.out.lt).cell 0
    have k1 := (RB_122.out.below hSw RB_122.out.lt).cell 1
    simp at k0 k1
    go_simp
    try with_reducible rfl
  try simp only [Act.put, List.setIfInBounds_toArray, List.set_cons_zero, List.set_cons_succ]
  refine wpAnyH_take (i := 4) (oi := ⟨some 17, _, _, _, _, _⟩) (v := ?vz123_4) rfl (by kernel_rfl) (by kernel_rfl) (by kernel_rfl) (fun _ _ _ h => h) (Or.inl ⟨by rfl, ?yz123_4⟩) S_123.out ?rz123_4
  case yz123_4 =>
    rintro w' hSw
    have k0 := (RA_122.out.below hSw RA_122.out.lt).cell 0
    have k1 := (RA_122.out.below hSw RA_122.out.lt).cell 1
    simp at k0 k1
    go_simp
    try with_reducible rfl
  try simp only [Act.put, List.setIfInBounds_toArray, List.set_cons_zero, List.set_cons_succ]
  refine wpAnyH_ready (rs := [2]) (by kernel_rfl) (by simp) ?_
  refine (AllReadyH.cons rfl (fun K hK => ?_) AllReadyH.nil)
  go_simp
  refine (HAB.out _).mono ?_
  rintro e Xz123_5 ⟨rfl, hb⟩
  have Sz123_5 := Lib.hid (S_123.out.trans (hb.mono S_123.out.size))
  clear hb S_123
  refine hK _ _ Sz123_5.out (fun _ => ?_)
  clear hK K
  try simp only [Act.put, List.setIfInBounds_toArray, List.set_cons_zero, List.set_cons_succ]
  refine wpAnyH_ready (rs := [5]) (by kernel_rfl) (by simp) ?_
  refine (AllReadyH.cons rfl (fun K hK => ?_) AllReadyH.nil)
  go_simp
  refine (HBA.out _).mono ?_
  rintro e Xz123_6 ⟨rfl, hb⟩
  have Sz123_6 := Lib.hid (Sz123_5.out.trans (hb.mono Sz123_5.out.size))
  clear hb Sz123_5
  refine hK _ _ Sz123_6.out (fun _ => ?_)
  clear hK K
  try simp only [Act.put, List.setIfInBounds_toArray, List.set_cons_zero, List.set_cons_succ]
  refine wpAnyH_take (i := 6) (oi := ⟨some 19, _, _, _, _, _⟩) (v := ?vz123_7) rfl (by kernel_rfl) (by kernel_rfl) (by kernel_rfl) (fun _ _ _ h => h) (Or.inl ⟨by rfl, ?yz123_7⟩) Sz123_6.out ?rz123_7
  case yz123_7 =>
    rintro w' hSw
    go_simp
    try with_reducible rfl
  try simp only [Act.put, List.setIfInBounds_toArray, List.set_cons_zero, List.set_cons_succ]
  refine wpAnyH_take (i := 7) (oi := ⟨some 20, _, _, _, _, _⟩) (v := ?vz123_8) rfl (by kernel_rfl) (by kernel_rfl) (by kernel_rfl) (fun _ _ _ h => h) (Or.inl ⟨by rfl, ?yz123_8⟩) Sz123_6.out ?rz123_8
  case yz123_8 =>
    rintro w' hSw
    go_simp
    try with_reducible rfl
  try simp only [Act.put, List.setIfInBounds_toArray, List.set_cons_zero, List.set_cons_succ]
  refine wpAnyH_take (i := 8) (oi := ⟨some 21, _, _, _, _, _⟩) (v := ?vz123_9) rfl (by kernel_rfl) (by kernel_rfl) (by kernel_rfl) (fun _ _ _ h => h) (Or.inl ⟨by rfl, ?yz123_9⟩) Sz123_6.out ?rz123_9
  case yz123_9 =>
    rintro w' hSw
    go_simp
    try with_reducible rfl
  try simp only [Act.put, List.setIfInBounds_toArray, List.set_cons_zero, List.set_cons_succ]
  refine wpAnyH_take (i := 9) (oi := ⟨some 22, _, _, _, _, _⟩) (v := ?vz123_10) rfl (by kernel_rfl) (by kernel_rfl) (by kernel_rfl) (fun _ _ _ h => h) (Or.inl ⟨by rfl, ?yz123_10⟩) Sz123_6.out ?rz123_10
  case yz123_10 =>
    rintro w' hSw
    have k0 := (RA_122.out.below hSw RA_122.out.lt).cell 0
    have k1 := (RA_122.out.below hSw RA_122.out.lt).cell 1
    simp at k0 k1
    go_simp
    try with_reducible rfl
  try simp only [Act.put, List.setIfInBounds_toArray, List.set_cons_zero, List.set_cons_succ]
  refine wpAnyH_take (i := 10) (oi := ⟨some 23, _, _, _, _, _⟩) (v := ?vz123_11) rfl (by kernel_rfl) (by kernel_rfl) (by kernel_rfl) (fun _ _ _ h => h) (Or.inl ⟨by rfl, ?yz123_11⟩) Sz123_6.out ?rz123_11
  case yz123_11 =>
    rintro w' hSw
    have k0 := (RB_122.out.below hSw RB_122.out.lt).cell 0
    have k1 := (RB_122.out.below hSw RB_122.out.lt).cell 1
    simp at k0 k1
    go_simp
    try with_reducible rfl
  try simp only [Act.put, List.setIfInBounds_toArray, List.set_cons_zero, List.set_cons_succ]
  refine wpAnyH_take (i := 13) (oi := ⟨some 26, _, _, _, _, _⟩) (v := ?vz123_12) rfl (by kernel_rfl) (by kernel_rfl) (by kernel_rfl) (fun _ _ _ h => h) (Or.inl ⟨by rfl, ?yz123_12⟩) Sz123_6.out ?rz123_12
  case yz123_12 =>
    rintro w' hSw
    have k0 := (RA_122.out.below hSw RA_122.out.lt).cell 0
    have k1 := (RA_122.out.below hSw RA_122.out.lt).cell 1
    simp at k0 k1
    go_simp
    try with_reducible rfl
  try simp only [Act.put, List.setIfInBounds_toArray, List.set_cons_zero, List.set_cons_succ]
  refine wpAnyH_take (i := 14) (oi := ⟨some 27, _, _, _, _, _⟩) (v := ?vz123_13) rfl (by kernel_rfl) (by kernel_rfl) (by kernel_rfl) (fun _ _ _ h => h) (Or.inl ⟨by rfl, ?yz123_13⟩) Sz123_6.out ?rz123_13
  case yz123_13 =>
    rintro w' hSw
    have k0 := (RB_122.out.below hSw RB_122.out.lt).cell 0
    have k1 := (RB_122.out.below hSw RB_122.out.lt).cell 1
    simp at k0 k1
    go_simp
    try with_reducible rfl
  try simp only [Act.put, List.setIfInBounds_toArray, List.set_cons_zero, List.set_cons_succ]
  refine wpAnyH_take (i := 15) (oi := ⟨some 28, _, _, _, _, _⟩) (v := ?vz123_14) rfl (by kernel_rfl) (by kernel_rfl) (by kernel_rfl) (fun _ _ _ h => h) (Or.inl ⟨by rfl, ?yz123_14⟩) Sz123_6.out ?rz123_14
  case yz123_14 =>
    rintro w' hSw
    go_simp
    try with_reducible rfl
  try simp only [Act.put, List.setIfInBounds_toArray, List.set_cons_zero, List.set_cons_succ]
  refine wpAnyH_ready (rs := [11]) (by kernel_rfl) (by simp) ?_
  refine (AllReadyH.cons rfl (fun K hK => ?_) AllReadyH.nil)
  go_simp
  refine (HAB.out _).mono ?_
  rintro e Xz123_15 ⟨rfl, hb⟩
  have Sz123_15 := Lib.hid (Sz123_6.out.trans (hb.mono Sz123_6.out.size))
  clear hb Sz123_6
  refine hK _ _ Sz123_15.out (fun _ => ?_)
  clear hK K
  try simp only [Act.put, List.setIfInBounds_toArray, List.set_cons_zero, List.set_cons_succ]
  refine wpAnyH_take (i := 12) (oi := ⟨some 25, _, _, _, _, _⟩) (v := ?vz123_16) rfl (by kernel_rfl) (by kernel_rfl) (by kernel_rfl) (fun _ _ _ h => h) (Or.inl ⟨by rfl, ?yz123_16⟩) Sz123_15.out ?rz123_16
  case yz123_16 =>
    rintro w' hSw
    go_simp
    try with_reducible rfl
  try simp only [Act.put, List.setIfInBounds_toArray, List.set_cons_zero, List.set_cons_succ]
  refine wpAnyH_take (i := 16) (oi := ⟨some 29, _, _, _, _, _⟩) (v := ?vz123_17) rfl (by kernel_rfl) (by kernel_rfl) (by kernel_rfl) (fun _ _ _ h => h) (Or.inl ⟨by rfl, ?yz123_17⟩) Sz123_15.out ?rz123_17
  case yz123_17 =>
    rintro w' hSw
    go_simp
    try with_reducible rfl
  try simp only [Act.put, List.setIfInBounds_toArray, List.set_cons_zero, List.set_cons_succ]
  refine wpAnyH_take (i := 17) (oi := ⟨some 30, _, _, _, _, _⟩) (v := ?vz123_18) rfl (by kernel_rfl) (by kernel_rfl) (by kernel_rfl) (fun _ _ _ h => h) (Or.inl ⟨by rfl, ?yz123_18⟩) Sz123_15.out ?rz123_18
  case yz123_18 =>
    rintro w' hSw
    go_simp
    try with_reducible rfl
  try simp only [Act.put, List.setIfInBounds_toArray, List.set_cons_zero, List.set_cons_succ]
  refine wpAnyH_done (by kernel_rfl) ?_ _
  have RA_124 := Lib.hid (RA_122.out.below Sz123_15.out RA_122.out.lt)
  have RB_124 := Lib.hid (RB_122.out.below Sz123_15.out RB_122.out.lt)
  have RC_124 := Lib.hid (RC_122.out.below Sz123_15.out RC_122.out.lt)
  have B_124 := Lib.hid (B_122.out.trans (Sz123_15.out.mono B_122.out.size))
  clear Sz123_15 RA_122 RB_122 RC_122 B_122
  have c0_0 := RA_124.out.cell 0
  have c0_1 := RA_124.out.cell 1
  simp at c0_0 c0_1
  have l0 := RA_124.out.lt
  have c1_0 := RB_124.out.cell 0
  have c1_1 := RB_124.out.cell 1
  simp at c1_0 c1_1
  have l1 := RB_124.out.lt
  have c2_0 := RC_124.out.cell 0
  have c2_1 := RC_124.out.cell 1
  simp at c2_0 c2_1
  have l2 := RC_124.out.lt
  go_wp2_with fail
  refine (HAB.out _).mono ?_
  rintro e W125 ⟨rfl, hb⟩
  clear c0_0 c0_1 l0 c1_0 c1_1 l1 c2_0 c2_1 l2
  have RA_126 := Lib.hid (RA_124.out.below hb RA_124.out.lt)
  have RB_126 := Lib.hid (RB_124.out.below hb RB_124.out.lt)
  have RC_126 := Lib.hid (RC_124.out.below hb RC_124.out.lt)
  have B_126 := Lib.hid (B_124.out.trans (hb.mono B_124.out.size))
  clear hb RA_124 RB_124 RC_124 B_124
  have c0_0 := RA_126.out.cell 0
  have c0_1 := RA_126.out.cell 1
  simp at c0_0 c0_1
  have l0 := RA_126.out.lt
  have c1_0 := RB_126.out.cell 0
  have c1_1 := RB_126.out.cell 1
  simp at c1_0 c1_1
  have l1 := RB_126.out.lt
  have c2_0 := RC_126.out.cell 0
  have c2_1 := RC_126.out.cell 1
  simp at c2_0 c2_1
  have l2 := RC_126.out.lt
  go_wp2_with fail
  refine (HS.out _).mono ?_
  rintro e W127 ⟨rfl, hb⟩
  clear c0_0 c0_1 l0 c1_0 c1_1 l1 c2_0 c2_1 l2
  have RA_128 := Lib.hid (RA_126.out.below hb RA_126.out.lt)
  have RB_128 := Lib.hid (RB_126.out.below hb RB_126.out.lt)
  have RC_128 := Lib.hid (RC_126.out.below hb RC_126.out.lt)
  have B_128 := Lib.hid (B_126.out.trans (hb.mono B_126.out.size))
  clear hb RA_126 RB_126 RC_126 B_126
  have RA_129 := Lib.hid (RA_128.out.alloc (.cells #[.int .u64 (xh : Int), .int .u64 (xl : Int)] 25))
  have RB_129 := Lib.hid (RB_128.out.alloc (.cells #[.int .u64 (xh : Int), .int .u64 (xl : Int)] 25))
  have RC_129 := Lib.hid (RC_128.out.alloc (.cells #[.int .u64 (xh : Int), .int .u64 (xl : Int)] 25))
  have RX_129 := Lib.hid (Row.new W127 25 [.int .u64 (xh : Int), .int .u64 (xl : Int)])
  have B_129 := Lib.hid (B_128.out.alloc B_128.out.size (.cells #[.int .u64 (xh : Int), .int .u64 (xl : Int)] 25))
  go_upto_region 8 with fail
  obtain ⟨gRX, hgRX⟩ : ∃ g, g = W127.heap.size := ⟨_, rfl⟩
  clear RA_128 RB_128 RC_128 B_128
  rw [← hgRX] at RX_129 ⊢
  clear hgRX
  generalize W127.alloc (.cells #[.int .u64 (xh : Int), .int .u64 (xl : Int)] 25) = V129 at RA_129 RB_129 RC_129 RX_129 B_129 ⊢
  have c0_0 := RA_129.out.cell 0
  have c0_1 := RA_129.out.cell 1
  simp at c0_0 c0_1
  have l0 := RA_129.out.lt
  have c1_0 := RB_129.out.cell 0
  have c1_1 := RB_129.out.cell 1
  simp at c1_0 c1_1
  have l1 := RB_129.out.lt
  have c2_0 := RC_129.out.cell 0
  have c2_1 := RC_129.out.cell 1
  simp at c2_0 c2_1
  have l2 := RC_129.out.lt
  have c3_0 := RX_129.out.cell 0
  have c3_1 := RX_129.out.cell 1
  simp at c3_0 c3_1
  have l3 := RX_129.out.lt
  go_wp2_with fail
  refine (HT.out _).mono ?_
  rintro e W130 ⟨rfl, hb⟩
  clear c0_0 c0_1 l0 c1_0 c1_1 l1 c2_0 c2_1 l2 c3_0 c3_1 l3
  have RA_131 := Lib.hid (RA_129.out.below hb RA_129.out.lt)
  have RB_131 := Lib.hid (RB_129.out.below hb RB_129.out.lt)
  have RC_131 := Lib.hid (RC_129.out.below hb RC_129.out.lt)
  have RX_131 := Lib.hid (RX_129.out.below hb RX_129.out.lt)
  have B_131 := Lib.hid (B_129.out.trans (hb.mono B_129.out.size))
  clear hb RA_129 RB_129 RC_129 RX_129 B_129
  have RA_132 := Lib.hid (RA_131.out.alloc (.cells #[.int .u64 (yh : Int), .int .u64 (yl : Int)] 25))
  have RB_132 := Lib.hid (RB_131.out.alloc (.cells #[.int .u64 (yh : Int), .int .u64 (yl : Int)] 25))
  have RC_132 := Lib.hid (RC_131.out.alloc (.cells #[.int .u64 (yh : Int), .int .u64 (yl : Int)] 25))
  have RX_132 := Lib.hid (RX_131.out.alloc (.cells #[.int .u64 (yh : Int), .int .u64 (yl : Int)] 25))
  have RY_132 := Lib.hid (Row.new W130 25 [.int .u64 (yh : Int), .int .u64 (yl : Int)])
  have B_132 := Lib.hid (B_131.out.alloc B_131.out.size (.cells #[.int .u64 (yh : Int), .int .u64 (yl : Int)] 25))
  go_upto_region 9 with fail
  obtain ⟨gRY, hgRY⟩ : ∃ g, g = W130.heap.size := ⟨_, rfl⟩
  clear RA_131 RB_131 RC_131 RX_131 B_131
  rw [← hgRY] at RY_132 ⊢
  clear hgRY
  generalize W130.alloc (.cells #[.int .u64 (yh : Int), .int .u64 (yl : Int)] 25) = V132 at RA_132 RB_132 RC_132 RX_132 RY_132 B_132 ⊢
  rcases hfl with rfl | ⟨rfl, rfl⟩ | ⟨rfl, rfl, rfl⟩
  · refine wp_region_held_drew (S := fun w' => Below V132.heap.size V132 w') (by kernel_rfl) (Below.refl _ _).drew (fun hHeld => ?_)
    have S_133 := Lib.hid hHeld
    clear hHeld
    generalize V132.drew = D133 at S_133 ⊢
    refine wpAnyH_take (i := 0) (oi := ⟨some 59, _, _, _, _, _⟩) (v := ?vz133_1) rfl (by kernel_rfl) (by kernel_rfl) (by kernel_rfl) (fun _ _ _ h => h) (Or.inl ⟨by rfl, ?yz133_1⟩) S_133.out ?rz133_1
    case yz133_1 =>
      rintro w' hSw
      go_simp
      try with_reducible rfl
    try simp only [Act.put, List.setIfInBounds_toArray, List.set_cons_zero, List.set_cons_succ]
    refine wpAnyH_take (i := 1) (oi := ⟨some 60, _, _, _, _, _⟩) (v := ?vz133_2) rfl (by kernel_rfl) (by kernel_rfl) (by kernel_rfl) (fun _ _ _ h => h) (Or.inl ⟨by rfl, ?yz133_2⟩) S_133.out ?rz133_2
    case yz133_2 =>
      rintro w' hSw
      go_simp
      try with_reducible rfl
    try simp only [Act.put, List.setIfInBounds_toArray, List.set_cons_zero, List.set_cons_succ]
    refine wpAnyH_take (i := 2) (oi := ⟨some 61, _, _, _, _, _⟩) (v := ?vz133_3) rfl (by kernel_rfl) (by kernel_rfl) (by kernel_rfl) (fun _ _ _ h => h) (Or.inl ⟨by rfl, ?yz133_3⟩) S_133.out ?rz133_3
    case yz133_3 =>
      rintro w' hSw
      go_simp
      try with_reducible rfl
    try simp only [Act.put, List.setIfInBounds_toArray, List.set_cons_zero, List.set_cons_succ]
    refine wpAnyH_take (i := 3) (oi := ⟨some 62, _, _, _, _, _⟩) (v := undef) rfl (by kernel_rfl) (by kernel_rfl) (by kernel_rfl) (fun _ _ _ h => h) (Or.inr ⟨by rfl, rfl⟩) S_133.out ?rz133_4
    try simp only [Act.put, List.setIfInBounds_toArray, List.set_cons_zero, List.set_cons_succ]
    refine wpAnyH_take (i := 4) (oi := ⟨some 63, _, _, _, _, _⟩) (v := undef) rfl (by kernel_rfl) (by kernel_rfl) (by kernel_rfl) (fun _ _ _ h => h) (Or.inr ⟨by rfl, rfl⟩) S_133.out ?rz133_5
    try simp only [Act.put, List.setIfInBounds_toArray, List.set_cons_zero, List.set_cons_succ]
    refine wpAnyH_take (i := 5) (oi := ⟨some 64, _, _, _, _, _⟩) (v := ?vz133_6) rfl (by kernel_rfl) (by kernel_rfl) (by kernel_rfl) (fun _ _ _ h => h) (Or.inl ⟨by rfl, ?yz133_6⟩) S_133.out ?rz133_6
    case yz133_6 =>
      rintro w' hSw
      go_simp
      try with_reducible rfl
    try simp only [Act.put, List.setIfInBounds_toArray, List.set_cons_zero, List.set_cons_succ]
    refine wpAnyH_take (i := 6) (oi := ⟨some 65, _, _, _, _, _⟩) (v := ?vz133_7) rfl (by kernel_rfl) (by kernel_rfl) (by kernel_rfl) (fun _ _ _ h => h) (Or.inl ⟨by rfl, ?yz133_7⟩) S_133.out ?rz133_7
    case yz133_7 =>
      rintro w' hSw
      go_simp
      try with_reducible rfl
    try simp only [Act.put, List.setIfInBounds_toArray, List.set_cons_zero, List.set_cons_succ]
    refine wpAnyH_take (i := 7) (oi := ⟨some 66, _, _, _, _, _⟩) (v := undef) rfl (by kernel_rfl) (by kernel_rfl) (by kernel_rfl) (fun _ _ _ h => h) (Or.inr ⟨by rfl, rfl⟩) S_133.out ?rz133_8
    try simp only [Act.put, List.setIfInBounds_toArray, List.set_cons_zero, List.set_cons_succ]
    refine wpAnyH_take (i := 8) (oi := ⟨some 67, _, _, _, _, _⟩) (v := undef) rfl (by kernel_rfl) (by kernel_rfl) (by kernel_rfl) (fun _ _ _ h => h) (Or.inr ⟨by rfl, rfl⟩) S_133.out ?rz133_9
    try simp only [Act.put, List.setIfInBounds_toArray, List.set_cons_zero, List.set_cons_succ]
    refine wpAnyH_take (i := 9) (oi := ⟨some 68, _, _, _, _, _⟩) (v := undef) rfl (by kernel_rfl) (by kernel_rfl) (by kernel_rfl) (fun _ _ _ h => h) (Or.inr ⟨by rfl, rfl⟩) S_133.out ?rz133_10
    try simp only [Act.put, List.setIfInBounds_toArray, List.set_cons_zero, List.set_cons_succ]
    refine wpAnyH_take (i := 10) (oi := ⟨some 69, _, _, _, _, _⟩) (v := undef) rfl (by kernel_rfl) (by kernel_rfl) (by kernel_rfl) (fun _ _ _ h => h) (Or.inr ⟨by rfl, rfl⟩) S_133.out ?rz133_11
    try simp only [Act.put, List.setIfInBounds_toArray, List.set_cons_zero, List.set_cons_succ]
    refine wpAnyH_take (i := 11) (oi := ⟨some 70, _, _, _, _, _⟩) (v := undef) rfl (by kernel_rfl) (by kernel_rfl) (by kernel_rfl) (fun _ _ _ h => h) (Or.inr ⟨by rfl, rfl⟩) S_133.out ?rz133_12
    try simp only [Act.put, List.setIfInBounds_toArray, List.set_cons_zero, List.set_cons_succ]
    refine wpAnyH_take (i := 12) (oi := ⟨some 71, _, _, _, _, _⟩) (v := undef) rfl (by kernel_rfl) (by kernel_rfl) (by kernel_rfl) (fun _ _ _ h => h) (Or.inr ⟨by rfl, rfl⟩) S_133.out ?rz133_13
    try simp only [Act.put, List.setIfInBounds_toArray, List.set_cons_zero, List.set_cons_succ]
    refine wpAnyH_take (i := 13) (oi := ⟨some 72, _, _, _, _, _⟩) (v := undef) rfl (by kernel_rfl) (by kernel_rfl) (by kernel_rfl) (fun _ _ _ h => h) (Or.inr ⟨by rfl, rfl⟩) S_133.out ?rz133_14
    try simp only [Act.put, List.setIfInBounds_toArray, List.set_cons_zero, List.set_cons_succ]
    refine wpAnyH_take (i := 14) (oi := ⟨some 73, _, _, _, _, _⟩) (v := ?vz133_15) rfl (by kernel_rfl) (by kernel_rfl) (by kernel_rfl) (fun _ _ _ h => h) (Or.inl ⟨by rfl, ?yz133_15⟩) S_133.out ?rz133_15
    case yz133_15 =>
      rintro w' hSw
      go_simp
      try with_reducible rfl
    try simp only [Act.put, List.setIfInBounds_toArray, List.set_cons_zero, List.set_cons_succ]
    refine wpAnyH_take (i := 15) (oi := ⟨some 6, _, _, _, _, _⟩) (v := ?vz133_16) rfl (by kernel_rfl) (by kernel_rfl) (by kernel_rfl) (fun _ _ _ h => h) (Or.inl ⟨by rfl, ?yz133_16⟩) S_133.out ?rz133_16
    case yz133_16 =>
      rintro w' hSw
      go_simp
      try with_reducible rfl
    try simp only [Act.put, List.setIfInBounds_toArray, List.set_cons_zero, List.set_cons_succ]
    refine wpAnyH_done (by kernel_rfl) ?_ _
    have RA_134 := Lib.hid (RA_132.out.below S_133.out RA_132.out.lt)
    have RB_134 := Lib.hid (RB_132.out.below S_133.out RB_132.out.lt)
    have RC_134 := Lib.hid (RC_132.out.below S_133.out RC_132.out.lt)
    have RX_134 := Lib.hid (RX_132.out.below S_133.out RX_132.out.lt)
    have RY_134 := Lib.hid (RY_132.out.below S_133.out RY_132.out.lt)
    have B_134 := Lib.hid (B_132.out.trans (S_133.out.mono B_132.out.size))
    clear S_133 RA_132 RB_132 RC_132 RX_132 RY_132 B_132
    go_wp2
    go_ret
    exact ⟨rfl, B_134.out⟩
  · refine wp_region_held_drew (S := fun w' => Below V132.heap.size V132 w') (by kernel_rfl) (Below.refl _ _).drew (fun hHeld => ?_)
    have S_135 := Lib.hid hHeld
    clear hHeld
    generalize V132.drew = D135 at S_135 ⊢
    refine wpAnyH_take (i := 0) (oi := ⟨some 59, _, _, _, _, _⟩) (v := ?vz135_1) rfl (by kernel_rfl) (by kernel_rfl) (by kernel_rfl) (fun _ _ _ h => h) (Or.inl ⟨by rfl, ?yz135_1⟩) S_135.out ?rz135_1
    case yz135_1 =>
      rintro w' hSw
      go_simp
      try with_reducible rfl
    try simp only [Act.put, List.setIfInBounds_toArray, List.set_cons_zero, List.set_cons_succ]
    refine wpAnyH_take (i := 1) (oi := ⟨some 60, _, _, _, _, _⟩) (v := ?vz135_2) rfl (by kernel_rfl) (by kernel_rfl) (by kernel_rfl) (fun _ _ _ h => h) (Or.inl ⟨by rfl, ?yz135_2⟩) S_135.out ?rz135_2
    case yz135_2 =>
      rintro w' hSw
      go_simp
      try with_reducible rfl
    try simp only [Act.put, List.setIfInBounds_toArray, List.set_cons_zero, List.set_cons_succ]
    refine wpAnyH_take (i := 2) (oi := ⟨some 61, _, _, _, _, _⟩) (v := ?vz135_3) rfl (by kernel_rfl) (by kernel_rfl) (by kernel_rfl) (fun _ _ _ h => h) (Or.inl ⟨by rfl, ?yz135_3⟩) S_135.out ?rz135_3
    case yz135_3 =>
      rintro w' hSw
      go_simp
      try with_reducible rfl
    try simp only [Act.put, List.setIfInBounds_toArray, List.set_cons_zero, List.set_cons_succ]
    refine wpAnyH_take (i := 3) (oi := ⟨some 62, _, _, _, _, _⟩) (v := ?vz135_4) rfl (by kernel_rfl) (by kernel_rfl) (by kernel_rfl) (fun _ _ _ h => h) (Or.inl ⟨by rfl, ?yz135_4⟩) S_135.out ?rz135_4
    case yz135_4 =>
      rintro w' hSw
      go_simp
      try with_reducible rfl
    try simp only [Act.put, List.setIfInBounds_toArray, List.set_cons_zero, List.set_cons_succ]
    refine wpAnyH_take (i := 4) (oi := ⟨some 63, _, _, _, _, _⟩) (v := ?vz135_5) rfl (by kernel_rfl) (by kernel_rfl) (by kernel_rfl) (fun _ _ _ h => h) (Or.inl ⟨by rfl, ?yz135_5⟩) S_135.out ?rz135_5
    case yz135_5 =>
      rintro w' hSw
      go_simp
      try with_reducible rfl
    try simp only [Act.put, List.setIfInBounds_toArray, List.set_cons_zero, List.set_cons_succ]
    refine wpAnyH_take (i := 5) (oi := ⟨some 64, _, _, _, _, _⟩) (v := ?vz135_6) rfl (by kernel_rfl) (by kernel_rfl) (by kernel_rfl) (fun _ _ _ h => h) (Or.inl ⟨by rfl, ?yz135_6⟩) S_135.out ?rz135_6
    case yz135_6 =>
      rintro w' hSw
      go_simp
      try with_reducible rfl
    try simp only [Act.put, List.setIfInBounds_toArray, List.set_cons_zero, List.set_cons_succ]
    refine wpAnyH_take (i := 6) (oi := ⟨some 65, _, _, _, _, _⟩) (v := ?vz135_7) rfl (by kernel_rfl) (by kernel_rfl) (by kernel_rfl) (fun _ _ _ h => h) (Or.inl ⟨by rfl, ?yz135_7⟩) S_135.out ?rz135_7
    case yz135_7 =>
      rintro w' hSw
      go_simp
      try with_reducible rfl
    try simp only [Act.put, List.setIfInBounds_toArray, List.set_cons_zero, List.set_cons_succ]
    refine wpAnyH_take (i := 7) (oi := ⟨some 66, _, _, _, _, _⟩) (v := undef) rfl (by kernel_rfl) (by kernel_rfl) (by kernel_rfl) (fun _ _ _ h => h) (Or.inr ⟨by rfl, rfl⟩) S_135.out ?rz135_8
    try simp only [Act.put, List.setIfInBounds_toArray, List.set_cons_zero, List.set_cons_succ]
    refine wpAnyH_take (i := 8) (oi := ⟨some 67, _, _, _, _, _⟩) (v := undef) rfl (by kernel_rfl) (by kernel_rfl) (by kernel_rfl) (fun _ _ _ h => h) (Or.inr ⟨by rfl, rfl⟩) S_135.out ?rz135_9
    try simp only [Act.put, List.setIfInBounds_toArray, List.set_cons_zero, List.set_cons_succ]
    refine wpAnyH_take (i := 9) (oi := ⟨some 68, _, _, _, _, _⟩) (v := undef) rfl (by kernel_rfl) (by kernel_rfl) (by kernel_rfl) (fun _ _ _ h => h) (Or.inr ⟨by rfl, rfl⟩) S_135.out ?rz135_10
    try simp only [Act.put, List.setIfInBounds_toArray, List.set_cons_zero, List.set_cons_succ]
    refine wpAnyH_take (i := 10) (oi := ⟨some 69, _, _, _, _, _⟩) (v := undef) rfl (by kernel_rfl) (by kernel_rfl) (by kernel_rfl) (fun _ _ _ h => h) (Or.inr ⟨by rfl, rfl⟩) S_135.out ?rz135_11
    try simp only [Act.put, List.setIfInBounds_toArray, List.set_cons_zero, List.set_cons_succ]
    refine wpAnyH_take (i := 11) (oi := ⟨some 70, _, _, _, _, _⟩) (v := undef) rfl (by kernel_rfl) (by kernel_rfl) (by kernel_rfl) (fun _ _ _ h => h) (Or.inr ⟨by rfl, rfl⟩) S_135.out ?rz135_12
    try simp only [Act.put, List.setIfInBounds_toArray, List.set_cons_zero, List.set_cons_succ]
    refine wpAnyH_take (i := 12) (oi := ⟨some 71, _, _, _, _, _⟩) (v := undef) rfl (by kernel_rfl) (by kernel_rfl) (by kernel_rfl) (fun _ _ _ h => h) (Or.inr ⟨by rfl, rfl⟩) S_135.out ?rz135_13
    try simp only [Act.put, List.setIfInBounds_toArray, List.set_cons_zero, List.set_cons_succ]
    refine wpAnyH_take (i := 13) (oi := ⟨some 72, _, _, _, _, _⟩) (v := undef) rfl (by kernel_rfl) (by kernel_rfl) (by kernel_rfl) (fun _ _ _ h => h) (Or.inr ⟨by rfl, rfl⟩) S_135.out ?rz135_14
    try simp only [Act.put, List.setIfInBounds_toArray, List.set_cons_zero, List.set_cons_succ]
    refine wpAnyH_take (i := 14) (oi := ⟨some 73, _, _, _, _, _⟩) (v := ?vz135_15) rfl (by kernel_rfl) (by kernel_rfl) (by kernel_rfl) (fun _ _ _ h => h) (Or.inl ⟨by rfl, ?yz135_15⟩) S_135.out ?rz135_15
    case yz135_15 =>
      rintro w' hSw
      go_simp
      try with_reducible rfl
    try simp only [Act.put, List.setIfInBounds_toArray, List.set_cons_zero, List.set_cons_succ]
    refine wpAnyH_take (i := 15) (oi := ⟨some 6, _, _, _, _, _⟩) (v := ?vz135_16) rfl (by kernel_rfl) (by kernel_rfl) (by kernel_rfl) (fun _ _ _ h => h) (Or.inl ⟨by rfl, ?yz135_16⟩) S_135.out ?rz135_16
    case yz135_16 =>
      rintro w' hSw
      go_simp
      try with_reducible rfl
    try simp only [Act.put, List.setIfInBounds_toArray, List.set_cons_zero, List.set_cons_succ]
    refine wpAnyH_done (by kernel_rfl) ?_ _
    have RA_136 := Lib.hid (RA_132.out.below S_135.out RA_132.out.lt)
    have RB_136 := Lib.hid (RB_132.out.below S_135.out RB_132.out.lt)
    have RC_136 := Lib.hid (RC_132.out.below S_135.out RC_132.out.lt)
    have RX_136 := Lib.hid (RX_132.out.below S_135.out RX_132.out.lt)
    have RY_136 := Lib.hid (RY_132.out.below S_135.out RY_132.out.lt)
    have B_136 := Lib.hid (B_132.out.trans (S_135.out.mono B_132.out.size))
    clear S_135 RA_132 RB_132 RC_132 RX_132 RY_132 B_132
    go_wp2
    go_ret
    exact ⟨rfl, B_136.out⟩
  · refine wp_region_held_drew (S := fun w' => Below V132.heap.size V132 w') (by kernel_rfl) (Below.refl _ _).drew (fun hHeld => ?_)
    have S_137 := Lib.hid hHeld
    clear hHeld
    generalize V132.drew = D137 at S_137 ⊢
    refine wpAnyH_take (i := 0) (oi := ⟨some 59, _, _, _, _, _⟩) (v := ?vz137_1) rfl (by kernel_rfl) (by kernel_rfl) (by kernel_rfl) (fun _ _ _ h => h) (Or.inl ⟨by rfl, ?yz137_1⟩) S_137.out ?rz137_1
    case yz137_1 =>
      rintro w' hSw
      go_simp
      try with_reducible rfl
    try simp only [Act.put, List.setIfInBounds_toArray, List.set_cons_zero, List.set_cons_succ]
    refine wpAnyH_take (i := 1) (oi := ⟨some 60, _, _, _, _, _⟩) (v := ?vz137_2) rfl (by kernel_rfl) (by kernel_rfl) (by kernel_rfl) (fun _ _ _ h => h) (Or.inl ⟨by rfl, ?yz137_2⟩) S_137.out ?rz137_2
    case yz137_2 =>
      rintro w' hSw
      go_simp
      try with_reducible rfl
    try simp only [Act.put, List.setIfInBounds_toArray, List.set_cons_zero, List.set_cons_succ]
    refine wpAnyH_take (i := 2) (oi := ⟨some 61, _, _, _, _, _⟩) (v := ?vz137_3) rfl (by kernel_rfl) (by kernel_rfl) (by kernel_rfl) (fun _ _ _ h => h) (Or.inl ⟨by rfl, ?yz137_3⟩) S_137.out ?rz137_3
    case yz137_3 =>
      rintro w' hSw
      go_simp
      try with_reducible rfl
    try simp only [Act.put, List.setIfInBounds_toArray, List.set_cons_zero, List.set_cons_succ]
    refine wpAnyH_take (i := 3) (oi := ⟨some 62, _, _, _, _, _⟩) (v := ?vz137_4) rfl (by kernel_rfl) (by kernel_rfl) (by kernel_rfl) (fun _ _ _ h => h) (Or.inl ⟨by rfl, ?yz137_4⟩) S_137.out ?rz137_4
    case yz137_4 =>
      rintro w' hSw
      go_simp
      try with_reducible rfl
    try simp only [Act.put, List.setIfInBounds_toArray, List.set_cons_zero, List.set_cons_succ]
    refine wpAnyH_take (i := 4) (oi := ⟨some 63, _, _, _, _, _⟩) (v := ?vz137_5) rfl (by kernel_rfl) (by kernel_rfl) (by kernel_rfl) (fun _ _ _ h => h) (Or.inl ⟨by rfl, ?yz137_5⟩) S_137.out ?rz137_5
    case yz137_5 =>
      rintro w' hSw
      go_simp
      try with_reducible rfl
    try simp only [Act.put, List.setIfInBounds_toArray, List.set_cons_zero, List.set_cons_succ]
    refine wpAnyH_take (i := 5) (oi := ⟨some 64, _, _, _, _, _⟩) (v := ?vz137_6) rfl (by kernel_rfl) (by kernel_rfl) (by kernel_rfl) (fun _ _ _ h => h) (Or.inl ⟨by rfl, ?yz137_6⟩) S_137.out ?rz137_6
    case yz137_6 =>
      rintro w' hSw
      go_simp
      try with_reducible rfl
    try simp only [Act.put, List.setIfInBounds_toArray, List.set_cons_zero, List.set_cons_succ]
    refine wpAnyH_take (i := 6) (oi := ⟨some 65, _, _, _, _, _⟩) (v := ?vz137_7) rfl (by kernel_rfl) (by kernel_rfl) (by kernel_rfl) (fun _ _ _ h => h) (Or.inl ⟨by rfl, ?yz137_7⟩) S_137.out ?rz137_7
    case yz137_7 =>
      rintro w' hSw
      go_simp
      try with_reducible rfl
    try simp only [Act.put, List.setIfInBounds_toArray, List.set_cons_zero, List.set_cons_succ]
    refine wpAnyH_take (i := 7) (oi := ⟨some 66, _, _, _, _, _⟩) (v := ?vz137_8) rfl (by kernel_rfl) (by kernel_rfl) (by kernel_rfl) (fun _ _ _ h => h) (Or.inl ⟨by rfl, ?yz137_8⟩) S_137.out ?rz137_8
    case yz137_8 =>
      rintro w' hSw
      have k0 := (RX_132.out.below hSw RX_132.out.lt).cell 0
      have k1 := (RX_132.out.below hSw RX_132.out.lt).cell 1
      simp at k0 k1
      go_simp
      try with_reducible rfl
    try simp only [Act.put, List.setIfInBounds_toArray, List.set_cons_zero, List.set_cons_succ]
    refine wpAnyH_take (i := 8) (oi := ⟨some 67, _, _, _, _, _⟩) (v := ?vz137_9) rfl (by kernel_rfl) (by kernel_rfl) (by kernel_rfl) (fun _ _ _ h => h) (Or.inl ⟨by rfl, ?yz137_9⟩) S_137.out ?rz137_9
    case yz137_9 =>
      rintro w' hSw
      have k0 := (RY_132.out.below hSw RY_132.out.lt).cell 0
      have k1 := (RY_132.out.below hSw RY_132.out.lt).cell 1
      simp at k0 k1
      go_simp
      try with_reducible rfl
    try simp only [Act.put, List.setIfInBounds_toArray, List.set_cons_zero, List.set_cons_succ]
    refine wpAnyH_take (i := 10) (oi := ⟨some 69, _, _, _, _, _⟩) (v := ?vz137_10) rfl (by kernel_rfl) (by kernel_rfl) (by kernel_rfl) (fun _ _ _ h => h) (Or.inl ⟨by rfl, ?yz137_10⟩) S_137.out ?rz137_10
    case yz137_10 =>
      rintro w' hSw
      have k0 := (RA_132.out.below hSw RA_132.out.lt).cell 0
      have k1 := (RA_132.out.below hSw RA_132.out.lt).cell 1
      simp at k0 k1
      go_simp
      try with_reducible rfl
    try simp only [Act.put, List.setIfInBounds_toArray, List.set_cons_zero, List.set_cons_succ]
    refine wpAnyH_take (i := 11) (oi := ⟨some 70, _, _, _, _, _⟩) (v := ?vz137_11) rfl (by kernel_rfl) (by kernel_rfl) (by kernel_rfl) (fun _ _ _ h => h) (Or.inl ⟨by rfl, ?yz137_11⟩) S_137.out ?rz137_11
    case yz137_11 =>
      rintro w' hSw
      have k0 := (RB_132.out.below hSw RB_132.out.lt).cell 0
      have k1 := (RB_132.out.below hSw RB_132.out.lt).cell 1
      simp at k0 k1
      go_simp
      try with_reducible rfl
    try simp only [Act.put, List.setIfInBounds_toArray, List.set_cons_zero, List.set_cons_succ]
    refine wpAnyH_ready (rs := [9]) (by kernel_rfl) (by simp) ?_
    refine (AllReadyH.cons rfl (fun K hK => ?_) AllReadyH.nil)
    go_simp
    refine (HXY.out _).mono ?_
    rintro e Xz137_12 ⟨rfl, hb⟩
    have Sz137_12 := Lib.hid (S_137.out.trans (hb.mono S_137.out.size))
    clear hb S_137
    refine hK _ _ Sz137_12.out (fun _ => ?_)
    clear hK K
    try simp only [Act.put, List.setIfInBounds_toArray, List.set_cons_zero, List.set_cons_succ]
    refine wpAnyH_ready (rs := [12]) (by kernel_rfl) (by simp) ?_
    refine (AllReadyH.cons rfl (fun K hK => ?_) AllReadyH.nil)
    go_simp
    refine (HAB.out _).mono ?_
    rintro e Xz137_13 ⟨rfl, hb⟩
    have Sz137_13 := Lib.hid (Sz137_12.out.trans (hb.mono Sz137_12.out.size))
    clear hb Sz137_12
    refine hK _ _ Sz137_13.out (fun _ => ?_)
    clear hK K
    try simp only [Act.put, List.setIfInBounds_toArray, List.set_cons_zero, List.set_cons_succ]
    refine wpAnyH_take (i := 13) (oi := ⟨some 72, _, _, _, _, _⟩) (v := ?vz137_14) rfl (by kernel_rfl) (by kernel_rfl) (by kernel_rfl) (fun _ _ _ h => h) (Or.inl ⟨by rfl, ?yz137_14⟩) Sz137_13.out ?rz137_14
    case yz137_14 =>
      rintro w' hSw
      go_simp
      try with_reducible rfl
    try simp only [Act.put, List.setIfInBounds_toArray, List.set_cons_zero, List.set_cons_succ]
    refine wpAnyH_take (i := 14) (oi := ⟨some 73, _, _, _, _, _⟩) (v := ?vz137_15) rfl (by kernel_rfl) (by kernel_rfl) (by kernel_rfl) (fun _ _ _ h => h) (Or.inl ⟨by rfl, ?yz137_15⟩) Sz137_13.out ?rz137_15
    case yz137_15 =>
      rintro w' hSw
      go_simp
      try with_reducible rfl
    try simp only [Act.put, List.setIfInBounds_toArray, List.set_cons_zero, List.set_cons_succ]
    refine wpAnyH_take (i := 15) (oi := ⟨some 6, _, _, _, _, _⟩) (v := ?vz137_16) rfl (by kernel_rfl) (by kernel_rfl) (by kernel_rfl) (fun _ _ _ h => h) (Or.inl ⟨by rfl, ?yz137_16⟩) Sz137_13.out ?rz137_16
    case yz137_16 =>
      rintro w' hSw
      go_simp
      try with_reducible rfl
    try simp only [Act.put, List.setIfInBounds_toArray, List.set_cons_zero, List.set_cons_succ]
    refine wpAnyH_done (by kernel_rfl) ?_ _
    have RA_138 := Lib.hid (RA_132.out.below Sz137_13.out RA_132.out.lt)
    have RB_138 := Lib.hid (RB_132.out.below Sz137_13.out RB_132.out.lt)
    have RC_138 := Lib.hid (RC_132.out.below Sz137_13.out RC_132.out.lt)
    have RX_138 := Lib.hid (RX_132.out.below Sz137_13.out RX_132.out.lt)
    have RY_138 := Lib.hid (RY_132.out.below Sz137_13.out RY_132.out.lt)
    have B_138 := Lib.hid (B_132.out.trans (Sz137_13.out.mono B_132.out.size))
    clear Sz137_13 RA_132 RB_132 RC_132 RX_132 RY_132 B_132
    go_wp2
    go_ret
    exact ⟨rfl, B_138.out⟩

theorem walk (ah al bh bl ch cl : Nat) (w : World) (h1 : ah < 18446744073709551616) (h2 : al < 18446744073709551616) (h3 : bh < 18446744073709551616) (h4 : bl < 18446744073709551616) (h5 : ch < 18446744073709551616) (h6 : cl < 18446744073709551616) :
    Calls Try.prog 8 #[.agg #[.int .u64 (ah : Int), .int .u64 (al : Int)], .agg #[.int .u64 (bh : Int), .int .u64 (bl : Int)], .agg #[.int .u64 (ch : Int), .int .u64 (cl : Int)]] w fun e w' => e = .returned (.bool true) ∧ Below w.heap.size w w' := by
  by_cases e1 : ah = bh
  · subst e1
    by_cases e2 : al = bl
    · subst e2
      exact walk_e ah al ch cl w h1 h2 h5 h6
    · by_cases hlt : al < bl
      · exact walk_l2 ah al bl ch cl w h1 h2 h4 h5 h6 (by omega) (by omega)
      · exact walk_g2 ah al bl ch cl w h1 h2 h4 h5 h6 (by omega) (by omega)
  · by_cases hlt : ah * 18446744073709551616 + al < bh * 18446744073709551616 + bl
    · exact walk_l ah al bh bl ch cl w h1 h2 h3 h4 h5 h6 hlt (by omega)
    · exact walk_g ah al bh bl ch cl w h1 h2 h3 h4 h5 h6 (by omega) (by omega)

theorem resT_WideOrder : Try.f8.resultTypes = #[4] := by kernel_rfl
set_option maxRecDepth 100000 in
theorem lifted_WideOrder (os : Os) (started : os.Started) (H : Type) (enc : TypeId × Value → H) :
    ReturnsInHanded {} Try.checked os 8 .any (Rows.wideOrderSpec.pre6 enc Try.prog Try.f8 Rows.wideOrderRow.domain false) (Rows.wideOrderSpec.post enc Try.prog Try.f8 false true false false) := by
  refine Lift.law_lift (C := Try.checked) (s := Rows.wideOrderSpec) (tb := 4) own laidOut started (by kernel_rfl) Try.func8
    (ChangeSpec.witness6 (enc := enc) (C := Try.checked) false ⟨#[], #[.agg #[.int .u64 0, .int .u64 0], .agg #[.int .u64 0, .int .u64 0], .agg #[.int .u64 0, .int .u64 0]], []⟩ 8 (by kernel_rfl) (by kernel_rfl) (by kernel_rfl) (by kernel_rfl))
    rfl resT_WideOrder Try.underlying4 (by
      have hr : ∀ t ∈ ([25, 25, 25] : List TypeId), Try.prog.readableRec t = true ∧ t < Try.prog.types.size := by
        intro t ht
        simp only [List.mem_cons, List.not_mem_nil, or_false] at ht
        rcases ht with rfl | rfl | rfl <;> exact ⟨by kernel_rfl, of_decide_eq_true (by kernel_rfl)⟩
      intro t ht
      exact hr t (by
        have ht' : t ∈ Try.f8.params.toList := ht
        rw [Try.params8] at ht'
        exact ht')) ?_
  intro W base args ds p hval0 hA0 hsz0
  have hval : ∀ (j : Nat) t v, Try.f8.params[j]? = some t → args[j]? = some v → Value.okWide Try.prog W .any base t v := hval0
  have hA : DataW.TrodAll enc Try.prog W 0 (fun _ => true) true Try.f8.params.toList args.toList ds p := hA0
  have hsz : (DataW.weightsEach Try.prog Try.f8.params.toList ds).all (· ≤ reachBytes) = true := hsz0
  clear hval0 hA0 hsz0
  rw [Try.params8] at hA hval hsz
  obtain ⟨v0, vs0, d0, ds0, p0, q0, hargs, rfl, rfl, h0, r0⟩ := trodAll_cons hA
  obtain ⟨v1, vs1, d1, ds1, p1, q1, rfl, rfl, rfl, h1, r1⟩ := trodAll_cons r0
  obtain ⟨v2, vs2, d2, ds2, p2, q2, rfl, rfl, rfl, h2, r2⟩ := trodAll_cons r1
  obtain ⟨rfl, rfl, rfl⟩ := trodAll_nil r2
  obtain rfl : args = #[v0, v1, v2] := by cases args; simp_all
  obtain ⟨h0a, h0b, hl0a, hl0b, rfl⟩ := open_wide (hval 0 25 v0 rfl rfl) h0
  obtain ⟨h1a, h1b, hl1a, hl1b, rfl⟩ := open_wide (hval 1 25 v1 rfl rfl) h1
  obtain ⟨h2a, h2b, hl2a, hl2b, rfl⟩ := open_wide (hval 2 25 v2 rfl rfl) h2
  exact ⟨rfl, walk h0a h0b h1a h1b h2a h2b W hl0a hl0b hl1a hl1b hl2a hl2b⟩

theorem proved_WideOrder : Rows.WideOrderSaid :=
  OpenClaim.holds_of_wide 8 Try.f8 rfl rfl rfl rfl rfl rfl rfl ⟨rfl, rfl, rfl, rfl, rfl⟩ rfl rfl rfl rfl rfl (by kernel_rfl) Try.func8 (by kernel_rfl)
    (of_decide_eq_true (by kernel_rfl)) (by unfold Func.isWrapper; first | (rw [if_pos (by decide +kernel)]; kernel_rfl) | (rw [if_neg (by decide +kernel)]; exact ⟨rfl, rfl⟩))
    (fun os started H enc _ => lifted_WideOrder os started H enc)
end Go.Proofs.Ytleeanbfhfklmaa.WideOrder
