/-
  WideBoxes: whatever row's width, box's area and margin is the document's. No condition.
-/
import Derived.Test.YtleeanbfhfklmaaWi5
import Derived.Test.YtleeanbfhfklmaaWiI
import Derived.Test.YtleeanbfhfklmaaWiO
import Derived.Deep.RegionHeld
import Derived.Deep.Cut
import Derived.WalkLawsBesides
namespace Go.Proofs.Ytleeanbfhfklmaa.WideBoxes
set_option maxRecDepth 100000
open Go.ChangeShapes Go.WideShapes Go.ChangeAt Go.RowKit Go.Proofs.Ytleeanbfhfklmaa.Wd Go.Proofs.Ytleeanbfhfklmaa.Wi

theorem own : ownKnob Try.prog.godebug = none := by kernel_rfl
theorem laidOut : laidOutB Try.prog = true := by kernel_rfl


set_option maxHeartbeats 4000000 in
theorem walk (x0 x1 y0 y1 : Int) (w : World) (a1 : -9223372036854775808 ≤ x0) (a2 : x0 ≤ 9223372036854775807) (a3 : -9223372036854775808 ≤ x1) (a4 : x1 ≤ 9223372036854775807) (a5 : -9223372036854775808 ≤ y0) (a6 : y0 ≤ 9223372036854775807) (a7 : -9223372036854775808 ≤ y1) (a8 : y1 ≤ 9223372036854775807) :
    Calls Try.prog 5 #[.agg #[.int .i64 x0, .int .i64 x1, .int .i64 y0, .int .i64 y1]] w fun e w' => e = .returned (.bool true) ∧ Below w.heap.size w w' := by
  have HW := Lib.hid wakes_any
  obtain ⟨ih, il, hi1, hi2, hi⟩ := parts (widM x0 x1 * widM y0 y1) (mul_lt (widM_lt a1 a4) (widM_lt a5 a8))
  obtain ⟨kh, kl, hk1, hk2, hk⟩ := parts (widM x0 x1 + widM y0 y1) (by have := widM_lt a1 a4; have := widM_lt a5 a8; omega)
  have H1 := Lib.hid (fun w => Width_any x0 x1 w a1 a2 a3 a4)
  have H2 := Lib.hid (fun w => Width_ref x0 x1 w a1 a2 a3 a4)
  have H3 := Lib.hid (fun w => Area_any x0 x1 y0 y1 ih il w a1 a2 a3 a4 a5 a6 a7 a8 hi1 hi2 hi)
  have H4 := Lib.hid (fun w => Area_ref x0 x1 y0 y1 ih il w a1 a2 a3 a4 a5 a6 a7 a8 hi1 hi2 hi)
  have H5 := Lib.hid (fun w => Margin_any x0 x1 y0 y1 kh kl w a1 a2 a3 a4 a5 a6 a7 a8 hk1 hk2 hk)
  have H6 := Lib.hid (fun w => Margin_ref x0 x1 y0 y1 kh kl w a1 a2 a3 a4 a5 a6 a7 a8 hk1 hk2 hk)
  clear hi hk
  generalize widM x0 x1 = u at H1 H2
  clear a1 a2 a3 a4 a5 a6 a7 a8
  go_enter Try.func5, Try.ntmps5
  go_upto_region 1 with fail
  have RK_0 := Lib.hid (row_last w (w.heap.size) 33 [.int .i64 x0, .int .i64 x1, .int .i64 y0, .int .i64 y1] (by simp))
  have B_0 := Lib.hid ((Below.refl w.heap.size w).alloc (Nat.le_refl _) (.cells #[.int .i64 x0, .int .i64 x1, .int .i64 y0, .int .i64 y1] 33))
  generalize (w.alloc (.cells #[.int .i64 x0, .int .i64 x1, .int .i64 y0, .int .i64 y1] 33)) = V0 at RK_0 B_0 ⊢
  go_wp2_with fail
  refine (HW.out _).mono ?_
  rintro e W1 ⟨rfl, hb⟩
  have RK_2 := Lib.hid (RK_0.out.below hb RK_0.out.lt)
  have B_2 := Lib.hid (B_0.out.trans (hb.mono B_0.out.size))
  clear hb RK_0 B_0
  go_wp2_with fail
  refine wp_region_held_drew (S := fun w' => Below W1.heap.size W1 w') (by kernel_rfl) (Below.refl _ _).drew (fun hHeld => ?_)
  have S_3 := Lib.hid hHeld
  clear hHeld
  generalize W1.drew = D3 at S_3 ⊢
  refine wpAnyH_take (i := 0) (oi := ⟨some 5, _, _, _, _, _⟩) (v := ?vz3_1) rfl (by kernel_rfl) (by kernel_rfl) (by kernel_rfl) (fun _ _ _ h => h) (Or.inl ⟨by rfl, ?yz3_1⟩) S_3.out ?rz3_1
  case yz3_1 =>
    rintro w' hSw
    go_simp
    try with_reducible rfl
  try simp only [Act.put, List.setIfInBounds_toArray, List.set_cons_zero, List.set_cons_succ]
  refine wpAnyH_take (i := 1) (oi := ⟨some 6, _, _, _, _, _⟩) (v := ?vz3_2) rfl (by kernel_rfl) (by kernel_rfl) (by kernel_rfl) (fun _ _ _ h => h) (Or.inl ⟨by rfl, ?yz3_2⟩) S_3.out ?rz3_2
  case yz3_2 =>
    rintro w' hSw
    have k0 := (RK_2.out.below hSw RK_2.out.lt).cell 0
    simp at k0
    go_simp
    try with_reducible rfl
  try simp only [Act.put, List.setIfInBounds_toArray, List.set_cons_zero, List.set_cons_succ]
  refine wpAnyH_take (i := 2) (oi := ⟨some 7, _, _, _, _, _⟩) (v := ?vz3_3) rfl (by kernel_rfl) (by kernel_rfl) (by kernel_rfl) (fun _ _ _ h => h) (Or.inl ⟨by rfl, ?yz3_3⟩) S_3.out ?rz3_3
  case yz3_3 =>
    rintro w' hSw
    go_simp
    try with_reducible rfl
  try simp only [Act.put, List.setIfInBounds_toArray, List.set_cons_zero, List.set_cons_succ]
  refine wpAnyH_take (i := 3) (oi := ⟨some 8, _, _, _, _, _⟩) (v := ?vz3_4) rfl (by kernel_rfl) (by kernel_rfl) (by kernel_rfl) (fun _ _ _ h => h) (Or.inl ⟨by rfl, ?yz3_4⟩) S_3.out ?rz3_4
  case yz3_4 =>
    rintro w' hSw
    have k1 := (RK_2.out.below hSw RK_2.out.lt).cell 1
    simp at k1
    go_simp
    try with_reducible rfl
  try simp only [Act.put, List.setIfInBounds_toArray, List.set_cons_zero, List.set_cons_succ]
  refine wpAnyH_take (i := 5) (oi := ⟨some 10, _, _, _, _, _⟩) (v := ?vz3_5) rfl (by kernel_rfl) (by kernel_rfl) (by kernel_rfl) (fun _ _ _ h => h) (Or.inl ⟨by rfl, ?yz3_5⟩) S_3.out ?rz3_5
  case yz3_5 =>
    rintro w' hSw
    go_simp
    try with_reducible rfl
  try simp only [Act.put, List.setIfInBounds_toArray, List.set_cons_zero, List.set_cons_succ]
  refine wpAnyH_take (i := 6) (oi := ⟨some 11, _, _, _, _, _⟩) (v := ?vz3_6) rfl (by kernel_rfl) (by kernel_rfl) (by kernel_rfl) (fun _ _ _ h => h) (Or.inl ⟨by rfl, ?yz3_6⟩) S_3.out ?rz3_6
  case yz3_6 =>
    rintro w' hSw
    have k0 := (RK_2.out.below hSw RK_2.out.lt).cell 0
    simp at k0
    go_simp
    try with_reducible rfl
  try simp only [Act.put, List.setIfInBounds_toArray, List.set_cons_zero, List.set_cons_succ]
  refine wpAnyH_take (i := 7) (oi := ⟨some 12, _, _, _, _, _⟩) (v := ?vz3_7) rfl (by kernel_rfl) (by kernel_rfl) (by kernel_rfl) (fun _ _ _ h => h) (Or.inl ⟨by rfl, ?yz3_7⟩) S_3.out ?rz3_7
  case yz3_7 =>
    rintro w' hSw
    go_simp
    try with_reducible rfl
  try simp only [Act.put, List.setIfInBounds_toArray, List.set_cons_zero, List.set_cons_succ]
  refine wpAnyH_take (i := 8) (oi := ⟨some 13, _, _, _, _, _⟩) (v := ?vz3_8) rfl (by kernel_rfl) (by kernel_rfl) (by kernel_rfl) (fun _ _ _ h => h) (Or.inl ⟨by rfl, ?yz3_8⟩) S_3.out ?rz3_8
  case yz3_8 =>
    rintro w' hSw
    have k1 := (RK_2.out.below hSw RK_2.out.lt).cell 1
    simp at k1
    go_simp
    try with_reducible rfl
  try simp only [Act.put, List.setIfInBounds_toArray, List.set_cons_zero, List.set_cons_succ]
  refine wpAnyH_ready (rs := [4]) (by kernel_rfl) (by simp) ?_
  refine (AllReadyH.cons rfl (fun K hK => ?_) AllReadyH.nil)
  go_simp
  refine (H1.out _).mono ?_
  rintro e Xz3_9 ⟨rfl, rfl⟩
  refine hK _ _ S_3.out (fun _ => ?_)
  clear hK K
  try simp only [Act.put, List.setIfInBounds_toArray, List.set_cons_zero, List.set_cons_succ]
  refine wpAnyH_ready (rs := [9]) (by kernel_rfl) (by simp) ?_
  refine (AllReadyH.cons rfl (fun K hK => ?_) AllReadyH.nil)
  go_simp
  refine (H2.out _).mono ?_
  rintro e Xz3_10 ⟨rfl, rfl⟩
  refine hK _ _ S_3.out (fun _ => ?_)
  clear hK K
  try simp only [Act.put, List.setIfInBounds_toArray, List.set_cons_zero, List.set_cons_succ]
  refine wpAnyH_take (i := 10) (oi := ⟨some 15, _, _, _, _, _⟩) (v := ?vz3_11) rfl (by kernel_rfl) (by kernel_rfl) (by kernel_rfl) (fun _ _ _ h => h) (Or.inl ⟨by rfl, ?yz3_11⟩) S_3.out ?rz3_11
  case yz3_11 =>
    rintro w' hSw
    go_simp
    try with_reducible rfl
  try simp only [Act.put, List.setIfInBounds_toArray, List.set_cons_zero, List.set_cons_succ]
  refine wpAnyH_take (i := 11) (oi := ⟨some 16, _, _, _, _, _⟩) (v := ?vz3_12) rfl (by kernel_rfl) (by kernel_rfl) (by kernel_rfl) (fun _ _ _ h => h) (Or.inl ⟨by rfl, ?yz3_12⟩) S_3.out ?rz3_12
  case yz3_12 =>
    rintro w' hSw
    go_simp
    try with_reducible rfl
  try simp only [Act.put, List.setIfInBounds_toArray, List.set_cons_zero, List.set_cons_succ]
  refine wpAnyH_take (i := 12) (oi := ⟨some 17, _, _, _, _, _⟩) (v := ?vz3_13) rfl (by kernel_rfl) (by kernel_rfl) (by kernel_rfl) (fun _ _ _ h => h) (Or.inl ⟨by rfl, ?yz3_13⟩) S_3.out ?rz3_13
  case yz3_13 =>
    rintro w' hSw
    have k0 := (RK_2.out.below hSw RK_2.out.lt).cell 0
    have k1 := (RK_2.out.below hSw RK_2.out.lt).cell 1
    have k2 := (RK_2.out.below hSw RK_2.out.lt).cell 2
    have k3 := (RK_2.out.below hSw RK_2.out.lt).cell 3
    simp at k0 k1 k2 k3
    go_simp
    try with_reducible rfl
  try simp only [Act.put, List.setIfInBounds_toArray, List.set_cons_zero, List.set_cons_succ]
  refine wpAnyH_take (i := 14) (oi := ⟨some 19, _, _, _, _, _⟩) (v := ?vz3_14) rfl (by kernel_rfl) (by kernel_rfl) (by kernel_rfl) (fun _ _ _ h => h) (Or.inl ⟨by rfl, ?yz3_14⟩) S_3.out ?rz3_14
  case yz3_14 =>
    rintro w' hSw
    have k0 := (RK_2.out.below hSw RK_2.out.lt).cell 0
    have k1 := (RK_2.out.below hSw RK_2.out.lt).cell 1
    have k2 := (RK_2.out.below hSw RK_2.out.lt).cell 2
    have k3 := (RK_2.out.below hSw RK_2.out.lt).cell 3
    simp at k0 k1 k2 k3
    go_simp
    try with_reducible rfl
  try simp only [Act.put, List.setIfInBounds_toArray, List.set_cons_zero, List.set_cons_succ]
  refine wpAnyH_ready (rs := [13]) (by kernel_rfl) (by simp) ?_
  refine (AllReadyH.cons rfl (fun K hK => ?_) AllReadyH.nil)
  go_simp
  refine (H3.out _).mono ?_
  rintro e Xz3_15 ⟨rfl, hb⟩
  have Sz3_15 := Lib.hid (S_3.out.trans (hb.mono S_3.out.size))
  clear hb S_3
  refine hK _ _ Sz3_15.out (fun _ => ?_)
  clear hK K
  try simp only [Act.put, List.setIfInBounds_toArray, List.set_cons_zero, List.set_cons_succ]
  refine wpAnyH_ready (rs := [15]) (by kernel_rfl) (by simp) ?_
  refine (AllReadyH.cons rfl (fun K hK => ?_) AllReadyH.nil)
  go_simp
  refine (H4.out _).mono ?_
  rintro e Xz3_16 ⟨rfl, hb⟩
  have Sz3_16 := Lib.hid (Sz3_15.out.trans (hb.mono Sz3_15.out.size))
  clear hb Sz3_15
  refine hK _ _ Sz3_16.out (fun _ => ?_)
  clear hK K
  try simp only [Act.put, List.setIfInBounds_toArray, List.set_cons_zero, List.set_cons_succ]
  refine wpAnyH_take (i := 16) (oi := ⟨some 21, _, _, _, _, _⟩) (v := ?vz3_17) rfl (by kernel_rfl) (by kernel_rfl) (by kernel_rfl) (fun _ _ _ h => h) (Or.inl ⟨by rfl, ?yz3_17⟩) Sz3_16.out ?rz3_17
  case yz3_17 =>
    rintro w' hSw
    go_simp
    try with_reducible rfl
  try simp only [Act.put, List.setIfInBounds_toArray, List.set_cons_zero, List.set_cons_succ]
  refine wpAnyH_take (i := 17) (oi := ⟨some 22, _, _, _, _, _⟩) (v := ?vz3_18) rfl (by kernel_rfl) (by kernel_rfl) (by kernel_rfl) (fun _ _ _ h => h) (Or.inl ⟨by rfl, ?yz3_18⟩) Sz3_16.out ?rz3_18
  case yz3_18 =>
    rintro w' hSw
    go_simp
    try with_reducible rfl
  try simp only [Act.put, List.setIfInBounds_toArray, List.set_cons_zero, List.set_cons_succ]
  refine wpAnyH_take (i := 18) (oi := ⟨some 23, _, _, _, _, _⟩) (v := ?vz3_19) rfl (by kernel_rfl) (by kernel_rfl) (by kernel_rfl) (fun _ _ _ h => h) (Or.inl ⟨by rfl, ?yz3_19⟩) Sz3_16.out ?rz3_19
  case yz3_19 =>
    rintro w' hSw
    go_simp
    try with_reducible rfl
  try simp only [Act.put, List.setIfInBounds_toArray, List.set_cons_zero, List.set_cons_succ]
  refine wpAnyH_take (i := 19) (oi := ⟨some 24, _, _, _, _, _⟩) (v := ?vz3_20) rfl (by kernel_rfl) (by kernel_rfl) (by kernel_rfl) (fun _ _ _ h => h) (Or.inl ⟨by rfl, ?yz3_20⟩) Sz3_16.out ?rz3_20
  case yz3_20 =>
    rintro w' hSw
    have k0 := (RK_2.out.below hSw RK_2.out.lt).cell 0
    have k1 := (RK_2.out.below hSw RK_2.out.lt).cell 1
    have k2 := (RK_2.out.below hSw RK_2.out.lt).cell 2
    have k3 := (RK_2.out.below hSw RK_2.out.lt).cell 3
    simp at k0 k1 k2 k3
    go_simp
    try with_reducible rfl
  try simp only [Act.put, List.setIfInBounds_toArray, List.set_cons_zero, List.set_cons_succ]
  refine wpAnyH_take (i := 21) (oi := ⟨some 26, _, _, _, _, _⟩) (v := ?vz3_21) rfl (by kernel_rfl) (by kernel_rfl) (by kernel_rfl) (fun _ _ _ h => h) (Or.inl ⟨by rfl, ?yz3_21⟩) Sz3_16.out ?rz3_21
  case yz3_21 =>
    rintro w' hSw
    have k0 := (RK_2.out.below hSw RK_2.out.lt).cell 0
    have k1 := (RK_2.out.below hSw RK_2.out.lt).cell 1
    have k2 := (RK_2.out.below hSw RK_2.out.lt).cell 2
    have k3 := (RK_2.out.below hSw RK_2.out.lt).cell 3
    simp at k0 k1 k2 k3
    go_simp
    try with_reducible rfl
  try simp only [Act.put, List.setIfInBounds_toArray, List.set_cons_zero, List.set_cons_succ]
  refine wpAnyH_ready (rs := [20]) (by kernel_rfl) (by simp) ?_
  refine (AllReadyH.cons rfl (fun K hK => ?_) AllReadyH.nil)
  go_simp
  refine (H5.out _).mono ?_
  rintro e Xz3_22 ⟨rfl, hb⟩
  have Sz3_22 := Lib.hid (Sz3_16.out.trans (hb.mono Sz3_16.out.size))
  clear hb Sz3_16
  refine hK _ _ Sz3_22.out (fun _ => ?_)
  clear hK K
  try simp only [Act.put, List.setIfInBounds_toArray, List.set_cons_zero, List.set_cons_succ]
  refine wpAnyH_ready (rs := [22]) (by kernel_rfl) (by simp) ?_
  refine (AllReadyH.cons rfl (fun K hK => ?_) AllReadyH.nil)
  go_simp
  refine (H6.out _).mono ?_
  rintro e Xz3_23 ⟨rfl, hb⟩
  have Sz3_23 := Lib.hid (Sz3_22.out.trans (hb.mono Sz3_22.out.size))
  clear hb Sz3_22
  refine hK _ _ Sz3_23.out (fun _ => ?_)
  clear hK K
  try simp only [Act.put, List.setIfInBounds_toArray, List.set_cons_zero, List.set_cons_succ]
  refine wpAnyH_take (i := 23) (oi := ⟨some 28, _, _, _, _, _⟩) (v := ?vz3_24) rfl (by kernel_rfl) (by kernel_rfl) (by kernel_rfl) (fun _ _ _ h => h) (Or.inl ⟨by rfl, ?yz3_24⟩) Sz3_23.out ?rz3_24
  case yz3_24 =>
    rintro w' hSw
    go_simp
    try with_reducible rfl
  try simp only [Act.put, List.setIfInBounds_toArray, List.set_cons_zero, List.set_cons_succ]
  refine wpAnyH_take (i := 24) (oi := ⟨some 29, _, _, _, _, _⟩) (v := ?vz3_25) rfl (by kernel_rfl) (by kernel_rfl) (by kernel_rfl) (fun _ _ _ h => h) (Or.inl ⟨by rfl, ?yz3_25⟩) Sz3_23.out ?rz3_25
  case yz3_25 =>
    rintro w' hSw
    go_simp
    try with_reducible rfl
  try simp only [Act.put, List.setIfInBounds_toArray, List.set_cons_zero, List.set_cons_succ]
  refine wpAnyH_take (i := 25) (oi := ⟨some 2, _, _, _, _, _⟩) (v := ?vz3_26) rfl (by kernel_rfl) (by kernel_rfl) (by kernel_rfl) (fun _ _ _ h => h) (Or.inl ⟨by rfl, ?yz3_26⟩) Sz3_23.out ?rz3_26
  case yz3_26 =>
    rintro w' hSw
    go_simp
    try with_reducible rfl
  try simp only [Act.put, List.setIfInBounds_toArray, List.set_cons_zero, List.set_cons_succ]
  refine wpAnyH_done (by kernel_rfl) ?_ _
  have RK_4 := Lib.hid (RK_2.out.below Sz3_23.out RK_2.out.lt)
  have B_4 := Lib.hid (B_2.out.trans (Sz3_23.out.mono B_2.out.size))
  clear Sz3_23 RK_2 B_2
  go_wp2
  go_ret
  exact ⟨rfl, B_4.out⟩

theorem resT_WideBoxes : Try.f5.resultTypes = #[4] := by kernel_rfl
set_option maxRecDepth 100000 in
theorem lifted_WideBoxes (os : Os) (started : os.Started) (H : Type) (enc : TypeId × Value → H) :
    ReturnsInHanded {} Try.checked os 5 .any (Rows.wideBoxesSpec.pre6 enc Try.prog Try.f5 Rows.wideBoxesRow.domain false) (Rows.wideBoxesSpec.post enc Try.prog Try.f5 false true false false) := by
  refine Lift.law_lift (C := Try.checked) (s := Rows.wideBoxesSpec) (tb := 4) own laidOut started (by kernel_rfl) Try.func5
    (ChangeSpec.witness6 (enc := enc) (C := Try.checked) false ⟨#[], #[.agg #[.int .i64 0, .int .i64 0, .int .i64 0, .int .i64 0]], []⟩ 8 (by kernel_rfl) (by kernel_rfl) (by kernel_rfl) (by kernel_rfl))
    rfl resT_WideBoxes Try.underlying4 (by
      have hr : ∀ t ∈ ([33] : List TypeId), Try.prog.readableRec t = true ∧ t < Try.prog.types.size := by
        intro t ht
        simp only [List.mem_cons, List.not_mem_nil, or_false] at ht
        rcases ht with rfl <;> exact ⟨by kernel_rfl, of_decide_eq_true (by kernel_rfl)⟩
      intro t ht
      exact hr t (by
        have ht' : t ∈ Try.f5.params.toList := ht
        rw [Try.params5] at ht'
        exact ht')) ?_
  intro W base args ds p hval0 hA0 hsz0
  have hval : ∀ (j : Nat) t v, Try.f5.params[j]? = some t → args[j]? = some v → Value.okWide Try.prog W .any base t v := hval0
  have hA : DataW.TrodAll enc Try.prog W 0 (fun _ => true) true Try.f5.params.toList args.toList ds p := hA0
  have hsz : (DataW.weightsEach Try.prog Try.f5.params.toList ds).all (· ≤ reachBytes) = true := hsz0
  clear hval0 hA0 hsz0
  rw [Try.params5] at hA hval hsz
  obtain ⟨v0, vs0, d0, ds0, p0, q0, hargs, rfl, rfl, h0, r0⟩ := trodAll_cons hA
  obtain ⟨rfl, rfl, rfl⟩ := trodAll_nil r0
  obtain rfl : args = #[v0] := by cases args; simp_all
  obtain ⟨k0a, k0b, k0c, k0d, ⟨m0a, n0a⟩, ⟨m0b, n0b⟩, ⟨m0c, n0c⟩, ⟨m0d, n0d⟩, rfl⟩ := open_key (hval 0 33 v0 rfl rfl) h0
  exact ⟨rfl, walk k0a k0b k0c k0d W m0a n0a m0b n0b m0c n0c m0d n0d⟩

theorem proved_WideBoxes : Rows.WideBoxesSaid :=
  OpenClaim.holds_of_wide 5 Try.f5 rfl rfl rfl rfl rfl rfl rfl ⟨rfl, rfl, rfl, rfl, rfl⟩ rfl rfl rfl rfl rfl (by kernel_rfl) Try.func5 (by kernel_rfl)
    (of_decide_eq_true (by kernel_rfl)) (by unfold Func.isWrapper; first | (rw [if_pos (by decide +kernel)]; kernel_rfl) | (rw [if_neg (by decide +kernel)]; exact ⟨rfl, rfl⟩))
    (fun os started H enc _ => lifted_WideBoxes os started H enc)
end Go.Proofs.Ytleeanbfhfklmaa.WideBoxes
