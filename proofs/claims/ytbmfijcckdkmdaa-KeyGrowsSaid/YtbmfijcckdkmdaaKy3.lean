/-
  Keys: Covers, Meets.
-/
import Derived.Test.YtbmfijcckdkmdaaKy1
import Derived.LoopTactic
import Derived.Deep.RegionHeld
import Derived.Deep.Cut
import Derived.WalkLawsBesides
namespace Go.Proofs.Ytbmfijcckdkmdaa.Ky
set_option maxRecDepth 100000
open Go.RowKit Go.Proofs.Ytbmfijcckdkmdaa.Wd Go.Proofs.Ytbmfijcckdkmdaa.Wi Go.Proofs.Ytbmfijcckdkmdaa.Lift

/-- does a box cover another one? -/
def coverB (x0 x1 y0 y1 u0 u1 v0 v1 : Int) : Bool := boxB x0 x1 y0 y1 && boxB u0 u1 v0 v1 && decide (x0 ≤ u0 ∧ u1 ≤ x1 ∧ y0 ≤ v0 ∧ v1 ≤ y1)
theorem ite4 {α : Type} {a b c d : Prop} [Decidable a] [Decidable b] [Decidable c] [Decidable d] (f : Bool → α) {q : Bool} (h : decide (a ∧ b ∧ c ∧ d) = q) :
    (if a then if b then if c then if d then f true else f false else f false else f false else f false) = f q := by
  subst h
  by_cases ha : a <;> by_cases hb : b <;> by_cases hc : c <;> by_cases hd : d <;> simp [ha, hb, hc, hd]
theorem covers_key (x0 x1 y0 y1 u0 u1 v0 v1 : Int) : decide (minI x0 u0 = x0 ∧ maxI x1 u1 = x1 ∧ minI y0 v0 = y0 ∧ maxI y1 v1 = y1) = decide (x0 ≤ u0 ∧ u1 ≤ x1 ∧ y0 ≤ v0 ∧ v1 ≤ y1) := by
  rw [decide_eq_decide]
  unfold minI maxI
  constructor
  · rintro ⟨h1, h2, h3, h4⟩
    split at h1 <;> split at h2 <;> split at h3 <;> split at h4 <;> omega
  · rintro ⟨h1, h2, h3, h4⟩
    rw [if_neg (by omega), if_neg (by omega), if_neg (by omega), if_neg (by omega)]
    exact ⟨rfl, rfl, rfl, rfl⟩
set_option maxHeartbeats 1000000 in
theorem Covers_any (x0 x1 y0 y1 u0 u1 v0 v1 : Int) (w : World) :
    Calls Try.prog 13 #[KV x0 x1 y0 y1, KV u0 u1 v0 v1] w fun e w' => e = .returned (.bool (coverB x0 x1 y0 y1 u0 u1 v0 v1)) ∧ Below w.heap.size w w' := by
  have HX := Lib.hid (boxes2 x0 x1 y0 y1 u0 u1 v0 v1)
  have HU := Lib.hid (Union_any x0 x1 y0 y1 u0 u1 v0 v1)
  obtain ⟨r, hr⟩ : ∃ r, (boxB x0 x1 y0 y1 && boxB u0 u1 v0 v1) = r := ⟨_, rfl⟩
  unfold unionV at HU
  unfold coverB
  rw [hr] at HX HU ⊢
  clear hr
  cases r
  · clear HU
    go_enter Try.func13, Try.ntmps13
    go_upto_region 1 with fail
    have RA_1 := Lib.hid ((row_last w (w.heap.size) 23 [.int .i64 x0, .int .i64 x1, .int .i64 y0, .int .i64 y1] (by simp)).alloc (.cells #[.int .i64 u0, .int .i64 u1, .int .i64 v0, .int .i64 v1] 23))
    have RB_1 := Lib.hid (row_last (w.alloc (.cells #[.int .i64 x0, .int .i64 x1, .int .i64 y0, .int .i64 y1] 23)) (w.heap.size + 1) 23 [.int .i64 u0, .int .i64 u1, .int .i64 v0, .int .i64 v1] (by simp))
    have B_1 := Lib.hid (((Below.refl w.heap.size w).alloc (Nat.le_refl _) (.cells #[.int .i64 x0, .int .i64 x1, .int .i64 y0, .int .i64 y1] 23)).alloc (by have := Nat.le_refl w.heap.size; simp <;> omega) (.cells #[.int .i64 u0, .int .i64 u1, .int .i64 v0, .int .i64 v1] 23))
    generalize ((w.alloc (.cells #[.int .i64 x0, .int .i64 x1, .int .i64 y0, .int .i64 y1] 23)).alloc (.cells #[.int .i64 u0, .int .i64 u1, .int .i64 v0, .int .i64 v1] 23)) = V1 at RA_1 RB_1 B_1 ⊢
    go_wp2_with fail
    refine wp_region_held_drew (S := fun w' => Below V1.heap.size V1 w') (by kernel_rfl) (Below.refl _ _).drew (fun hHeld => ?_)
    have S_2 := Lib.hid hHeld
    clear hHeld
    generalize V1.drew = D2 at S_2 ⊢
    refine wpAnyH_take (i := 0) (oi := ⟨some 5, _, _, _, _, _⟩) (v := ?vd2_1) rfl (by kernel_rfl) (by kernel_rfl) (by kernel_rfl) (fun _ _ _ h => h) (Or.inl ⟨by rfl, ?yd2_1⟩) S_2.out ?rd2_1
    case yd2_1 =>
      rintro w' hSw
      have k0 := (RA_1.out.below hSw RA_1.out.lt).cell 0
      have k1 := (RA_1.out.below hSw RA_1.out.lt).cell 1
      have k2 := (RA_1.out.below hSw RA_1.out.lt).cell 2
      have k3 := (RA_1.out.below hSw RA_1.out.lt).cell 3
      simp only [List.getElem?_cons_zero, List.getElem?_cons_succ] at k0 k1 k2 k3
      go_simp
      try with_reducible rfl
    try simp only [Act.put, List.setIfInBounds_toArray, List.set_cons_zero, List.set_cons_succ]
    refine wpAnyH_take (i := 1) (oi := ⟨some 6, _, _, _, _, _⟩) (v := ?vd2_2) rfl (by kernel_rfl) (by kernel_rfl) (by kernel_rfl) (fun _ _ _ h => h) (Or.inl ⟨by rfl, ?yd2_2⟩) S_2.out ?rd2_2
    case yd2_2 =>
      rintro w' hSw
      have k0 := (RB_1.out.below hSw RB_1.out.lt).cell 0
      have k1 := (RB_1.out.below hSw RB_1.out.lt).cell 1
      have k2 := (RB_1.out.below hSw RB_1.out.lt).cell 2
      have k3 := (RB_1.out.below hSw RB_1.out.lt).cell 3
      simp only [List.getElem?_cons_zero, List.getElem?_cons_succ] at k0 k1 k2 k3
      go_simp
      try with_reducible rfl
    try simp only [Act.put, List.setIfInBounds_toArray, List.set_cons_zero, List.set_cons_succ]
    refine wpAnyH_ready (rs := [2]) (by kernel_rfl) (by simp) ?_
    refine (AllReadyH.cons rfl (fun K hK => ?_) AllReadyH.nil)
    try rw [if_pos (by rfl)]
    go_simp
    have Sd2_3 := Lib.hid (S_2.out.alloc S_2.out.size (.cells #[.int .i64 x0, .int .i64 x1, .int .i64 y0, .int .i64 y1, .int .i64 u0, .int .i64 u1, .int .i64 v0, .int .i64 v1] 23))
    refine hK _ _ Sd2_3.out (fun _ => ?_)
    clear hK K
    try simp only [Act.put, List.setIfInBounds_toArray, List.set_cons_zero, List.set_cons_succ]
    refine wpAnyH_ready (rs := [3]) (by kernel_rfl) (by simp) ?_
    refine (AllReadyH.cons rfl (fun K hK => ?_) AllReadyH.nil)
    go_simp
    refine (HX.out _).mono ?_
    rintro e Xd2_4 ⟨rfl, hb⟩
    have Sd2_4 := Lib.hid (S_2.out.trans (hb.mono S_2.out.size))
    clear hb S_2
    refine hK _ _ Sd2_4.out (fun _ => ?_)
    clear hK K
    try simp only [Act.put, List.setIfInBounds_toArray, List.set_cons_zero, List.set_cons_succ]
    refine wpAnyH_take (i := 4) (oi := ⟨some 9, _, _, _, _, _⟩) (v := ?vd2_5) rfl (by kernel_rfl) (by kernel_rfl) (by kernel_rfl) (fun _ _ _ h => h) (Or.inl ⟨by rfl, ?yd2_5⟩) Sd2_4.out ?rd2_5
    case yd2_5 =>
      rintro w' hSw
      go_simp
      try with_reducible rfl
    try simp only [Act.put, List.setIfInBounds_toArray, List.set_cons_zero, List.set_cons_succ]
    refine wpAnyH_take (i := 5) (oi := ⟨some 10, _, _, _, _, _⟩) (v := undef) rfl (by kernel_rfl) (by kernel_rfl) (by kernel_rfl) (fun _ _ _ h => h) (Or.inr ⟨by rfl, rfl⟩) Sd2_4.out ?rd2_6
    try simp only [Act.put, List.setIfInBounds_toArray, List.set_cons_zero, List.set_cons_succ]
    refine wpAnyH_take (i := 6) (oi := ⟨some 11, _, _, _, _, _⟩) (v := undef) rfl (by kernel_rfl) (by kernel_rfl) (by kernel_rfl) (fun _ _ _ h => h) (Or.inr ⟨by rfl, rfl⟩) Sd2_4.out ?rd2_7
    try simp only [Act.put, List.setIfInBounds_toArray, List.set_cons_zero, List.set_cons_succ]
    refine wpAnyH_take (i := 7) (oi := ⟨some 12, _, _, _, _, _⟩) (v := undef) rfl (by kernel_rfl) (by kernel_rfl) (by kernel_rfl) (fun _ _ _ h => h) (Or.inr ⟨by rfl, rfl⟩) Sd2_4.out ?rd2_8
    try simp only [Act.put, List.setIfInBounds_toArray, List.set_cons_zero, List.set_cons_succ]
    refine wpAnyH_take (i := 8) (oi := ⟨some 13, _, _, _, _, _⟩) (v := undef) rfl (by kernel_rfl) (by kernel_rfl) (by kernel_rfl) (fun _ _ _ h => h) (Or.inr ⟨by rfl, rfl⟩) Sd2_4.out ?rd2_9
    try simp only [Act.put, List.setIfInBounds_toArray, List.set_cons_zero, List.set_cons_succ]
    refine wpAnyH_take (i := 9) (oi := ⟨some 14, _, _, _, _, _⟩) (v := undef) rfl (by kernel_rfl) (by kernel_rfl) (by kernel_rfl) (fun _ _ _ h => h) (Or.inr ⟨by rfl, rfl⟩) Sd2_4.out ?rd2_10
    try simp only [Act.put, List.setIfInBounds_toArray, List.set_cons_zero, List.set_cons_succ]
    refine wpAnyH_take (i := 10) (oi := ⟨some 15, _, _, _, _, _⟩) (v := ?vd2_11) rfl (by kernel_rfl) (by kernel_rfl) (by kernel_rfl) (fun _ _ _ h => h) (Or.inl ⟨by rfl, ?yd2_11⟩) Sd2_4.out ?rd2_11
    case yd2_11 =>
      rintro w' hSw
      go_simp
      try with_reducible rfl
    try simp only [Act.put, List.setIfInBounds_toArray, List.set_cons_zero, List.set_cons_succ]
    refine wpAnyH_take (i := 11) (oi := ⟨some 4, _, _, _, _, _⟩) (v := ?vd2_12) rfl (by kernel_rfl) (by kernel_rfl) (by kernel_rfl) (fun _ _ _ h => h) (Or.inl ⟨by rfl, ?yd2_12⟩) Sd2_4.out ?rd2_12
    case yd2_12 =>
      rintro w' hSw
      go_simp
      try with_reducible rfl
    try simp only [Act.put, List.setIfInBounds_toArray, List.set_cons_zero, List.set_cons_succ]
    refine wpAnyH_done (by kernel_rfl) ?_ _
    go_wp2
    go_ret
    exact ⟨rfl, B_1.out.trans (Sd2_4.out.mono B_1.out.size)⟩
  · rw [if_pos rfl] at HU
    obtain ⟨m0, h0⟩ : ∃ m, minI x0 u0 = m := ⟨_, rfl⟩
    obtain ⟨m1, h1⟩ : ∃ m, maxI x1 u1 = m := ⟨_, rfl⟩
    obtain ⟨m2, h2⟩ : ∃ m, minI y0 v0 = m := ⟨_, rfl⟩
    obtain ⟨m3, h3⟩ : ∃ m, maxI y1 v1 = m := ⟨_, rfl⟩
    obtain ⟨q, hq⟩ : ∃ q, decide (x0 ≤ u0 ∧ u1 ≤ x1 ∧ y0 ≤ v0 ∧ v1 ≤ y1) = q := ⟨_, rfl⟩
    have HQ := Lib.hid (covers_key x0 x1 y0 y1 u0 u1 v0 v1)
    rw [h0, h1, h2, h3] at HU HQ
    rw [hq] at HQ ⊢
    rw [Bool.true_and]
    clear h0 h1 h2 h3 hq
    go_enter Try.func13, Try.ntmps13
    go_upto_region 1 with fail
    have RA_q1 := Lib.hid ((row_last w (w.heap.size) 23 [.int .i64 x0, .int .i64 x1, .int .i64 y0, .int .i64 y1] (by simp)).alloc (.cells #[.int .i64 u0, .int .i64 u1, .int .i64 v0, .int .i64 v1] 23))
    have RB_q1 := Lib.hid (row_last (w.alloc (.cells #[.int .i64 x0, .int .i64 x1, .int .i64 y0, .int .i64 y1] 23)) (w.heap.size + 1) 23 [.int .i64 u0, .int .i64 u1, .int .i64 v0, .int .i64 v1] (by simp))
    have B_q1 := Lib.hid (((Below.refl w.heap.size w).alloc (Nat.le_refl _) (.cells #[.int .i64 x0, .int .i64 x1, .int .i64 y0, .int .i64 y1] 23)).alloc (by have := Nat.le_refl w.heap.size; simp <;> omega) (.cells #[.int .i64 u0, .int .i64 u1, .int .i64 v0, .int .i64 v1] 23))
    generalize ((w.alloc (.cells #[.int .i64 x0, .int .i64 x1, .int .i64 y0, .int .i64 y1] 23)).alloc (.cells #[.int .i64 u0, .int .i64 u1, .int .i64 v0, .int .i64 v1] 23)) = Vq1 at RA_q1 RB_q1 B_q1 ⊢
    go_wp2_with fail
    refine wp_region_held_drew (S := fun w' => Below Vq1.heap.size Vq1 w') (by kernel_rfl) (Below.refl _ _).drew (fun hHeld => ?_)
    have S_q2 := Lib.hid hHeld
    clear hHeld
    generalize Vq1.drew = Dq2 at S_q2 ⊢
    refine wpAnyH_take (i := 0) (oi := ⟨some 5, _, _, _, _, _⟩) (v := ?vqdq2_1) rfl (by kernel_rfl) (by kernel_rfl) (by kernel_rfl) (fun _ _ _ h => h) (Or.inl ⟨by rfl, ?yqdq2_1⟩) S_q2.out ?rqdq2_1
    case yqdq2_1 =>
      rintro w' hSw
      have k0 := (RA_q1.out.below hSw RA_q1.out.lt).cell 0
      have k1 := (RA_q1.out.below hSw RA_q1.out.lt).cell 1
      have k2 := (RA_q1.out.below hSw RA_q1.out.lt).cell 2
      have k3 := (RA_q1.out.below hSw RA_q1.out.lt).cell 3
      simp only [List.getElem?_cons_zero, List.getElem?_cons_succ] at k0 k1 k2 k3
      go_simp
      try with_reducible rfl
    try simp only [Act.put, List.setIfInBounds_toArray, List.set_cons_zero, List.set_cons_succ]
    refine wpAnyH_take (i := 1) (oi := ⟨some 6, _, _, _, _, _⟩) (v := ?vqdq2_2) rfl (by kernel_rfl) (by kernel_rfl) (by kernel_rfl) (fun _ _ _ h => h) (Or.inl ⟨by rfl, ?yqdq2_2⟩) S_q2.out ?rqdq2_2
    case yqdq2_2 =>
      rintro w' hSw
      have k0 := (RB_q1.out.below hSw RB_q1.out.lt).cell 0
      have k1 := (RB_q1.out.below hSw RB_q1.out.lt).cell 1
      have k2 := (RB_q1.out.below hSw RB_q1.out.lt).cell 2
      have k3 := (RB_q1.out.below hSw RB_q1.out.lt).cell 3
      simp only [List.getElem?_cons_zero, List.getElem?_cons_succ] at k0 k1 k2 k3
      go_simp
      try with_reducible rfl
    try simp only [Act.put, List.setIfInBounds_toArray, List.set_cons_zero, List.set_cons_succ]
    refine wpAnyH_ready (rs := [2]) (by kernel_rfl) (by simp) ?_
    refine (AllReadyH.cons rfl (fun K hK => ?_) AllReadyH.nil)
    try rw [if_pos (by rfl)]
    go_simp
    have Sqdq2_3 := Lib.hid (S_q2.out.alloc S_q2.out.size (.cells #[.int .i64 x0, .int .i64 x1, .int .i64 y0, .int .i64 y1, .int .i64 u0, .int .i64 u1, .int .i64 v0, .int .i64 v1] 23))
    refine hK _ _ Sqdq2_3.out (fun _ => ?_)
    clear hK K
    try simp only [Act.put, List.setIfInBounds_toArray, List.set_cons_zero, List.set_cons_succ]
    refine wpAnyH_ready (rs := [3]) (by kernel_rfl) (by simp) ?_
    refine (AllReadyH.cons rfl (fun K hK => ?_) AllReadyH.nil)
    go_simp
    refine (HX.out _).mono ?_
    rintro e Xqdq2_4 ⟨rfl, hb⟩
    have Sqdq2_4 := Lib.hid (S_q2.out.trans (hb.mono S_q2.out.size))
    clear hb S_q2
    refine hK _ _ Sqdq2_4.out (fun _ => ?_)
    clear hK K
    try simp only [Act.put, List.setIfInBounds_toArray, List.set_cons_zero, List.set_cons_succ]
    refine wpAnyH_take (i := 4) (oi := ⟨some 9, _, _, _, _, _⟩) (v := ?vqdq2_5) rfl (by kernel_rfl) (by kernel_rfl) (by kernel_rfl) (fun _ _ _ h => h) (Or.inl ⟨by rfl, ?yqdq2_5⟩) Sqdq2_4.out ?rqdq2_5
    case yqdq2_5 =>
      rintro w' hSw
      go_simp
      try with_reducible rfl
    try simp only [Act.put, List.setIfInBounds_toArray, List.set_cons_zero, List.set_cons_succ]
    refine wpAnyH_take (i := 5) (oi := ⟨some 10, _, _, _, _, _⟩) (v := ?vqdq2_6) rfl (by kernel_rfl) (by kernel_rfl) (by kernel_rfl) (fun _ _ _ h => h) (Or.inl ⟨by rfl, ?yqdq2_6⟩) Sqdq2_4.out ?rqdq2_6
    case yqdq2_6 =>
      rintro w' hSw
      have k0 := (RA_q1.out.below hSw RA_q1.out.lt).cell 0
      have k1 := (RA_q1.out.below hSw RA_q1.out.lt).cell 1
      have k2 := (RA_q1.out.below hSw RA_q1.out.lt).cell 2
      have k3 := (RA_q1.out.below hSw RA_q1.out.lt).cell 3
      simp only [List.getElem?_cons_zero, List.getElem?_cons_succ] at k0 k1 k2 k3
      go_simp
      try with_reducible rfl
    try simp only [Act.put, List.setIfInBounds_toArray, List.set_cons_zero, List.set_cons_succ]
    refine wpAnyH_take (i := 6) (oi := ⟨some 11, _, _, _, _, _⟩) (v := ?vqdq2_7) rfl (by kernel_rfl) (by kernel_rfl) (by kernel_rfl) (fun _ _ _ h => h) (Or.inl ⟨by rfl, ?yqdq2_7⟩) Sqdq2_4.out ?rqdq2_7
    case yqdq2_7 =>
      rintro w' hSw
      have k0 := (RB_q1.out.below hSw RB_q1.out.lt).cell 0
      have k1 := (RB_q1.out.below hSw RB_q1.out.lt).cell 1
      have k2 := (RB_q1.out.below hSw RB_q1.out.lt).cell 2
      have k3 := (RB_q1.out.below hSw RB_q1.out.lt).cell 3
      simp only [List.getElem?_cons_zero, List.getElem?_cons_succ] at k0 k1 k2 k3
      go_simp
      try with_reducible rfl
    try simp only [Act.put, List.setIfInBounds_toArray, List.set_cons_zero, List.set_cons_succ]
    refine wpAnyH_take (i := 8) (oi := ⟨some 13, _, _, _, _, _⟩) (v := ?vqdq2_8) rfl (by kernel_rfl) (by kernel_rfl) (by kernel_rfl) (fun _ _ _ h => h) (Or.inl ⟨by rfl, ?yqdq2_8⟩) Sqdq2_4.out ?rqdq2_8
    case yqdq2_8 =>
      rintro w' hSw
      have k0 := (RA_q1.out.below hSw RA_q1.out.lt).cell 0
      have k1 := (RA_q1.out.below hSw RA_q1.out.lt).cell 1
      have k2 := (RA_q1.out.below hSw RA_q1.out.lt).cell 2
      have k3 := (RA_q1.out.below hSw RA_q1.out.lt).cell 3
      simp only [List.getElem?_cons_zero, List.getElem?_cons_succ] at k0 k1 k2 k3
      go_simp
      try with_reducible rfl
    try simp only [Act.put, List.setIfInBounds_toArray, List.set_cons_zero, List.set_cons_succ]
    refine wpAnyH_ready (rs := [7]) (by kernel_rfl) (by simp) ?_
    refine (AllReadyH.cons rfl (fun K hK => ?_) AllReadyH.nil)
    go_simp
    refine (HU.out _).mono ?_
    rintro e Xqdq2_9 ⟨rfl, hb⟩
    have Sqdq2_9 := Lib.hid (Sqdq2_4.out.trans (hb.mono Sqdq2_4.out.size))
    clear hb Sqdq2_4
    refine hK _ _ Sqdq2_9.out (fun _ => ?_)
    clear hK K
    try simp only [Act.put, List.setIfInBounds_toArray, List.set_cons_zero, List.set_cons_succ]
    refine wpAnyH_take (i := 9) (oi := ⟨some 14, _, _, _, _, _⟩) (v := .bool q) rfl (by kernel_rfl) (by kernel_rfl) (by kernel_rfl) (fun _ _ _ h => h) (Or.inl ⟨by rfl, ?yqdq2_10⟩) Sqdq2_9.out ?rqdq2_10
    case yqdq2_10 =>
      rintro w' hSw
      go_simp
      exact ite4 (fun b => Result.ok (Next.value (.bool b)) w') HQ.out
    try simp only [Act.put, List.setIfInBounds_toArray, List.set_cons_zero, List.set_cons_succ]
    refine wpAnyH_take (i := 10) (oi := ⟨some 15, _, _, _, _, _⟩) (v := ?vqdq2_11) rfl (by kernel_rfl) (by kernel_rfl) (by kernel_rfl) (fun _ _ _ h => h) (Or.inl ⟨by rfl, ?yqdq2_11⟩) Sqdq2_9.out ?rqdq2_11
    case yqdq2_11 =>
      rintro w' hSw
      go_simp
      try with_reducible rfl
    try simp only [Act.put, List.setIfInBounds_toArray, List.set_cons_zero, List.set_cons_succ]
    refine wpAnyH_take (i := 11) (oi := ⟨some 4, _, _, _, _, _⟩) (v := ?vqdq2_12) rfl (by kernel_rfl) (by kernel_rfl) (by kernel_rfl) (fun _ _ _ h => h) (Or.inl ⟨by rfl, ?yqdq2_12⟩) Sqdq2_9.out ?rqdq2_12
    case yqdq2_12 =>
      rintro w' hSw
      go_simp
      try with_reducible rfl
    try simp only [Act.put, List.setIfInBounds_toArray, List.set_cons_zero, List.set_cons_succ]
    refine wpAnyH_done (by kernel_rfl) ?_ _
    go_wp2
    go_ret
    exact ⟨rfl, B_q1.out.trans (Sqdq2_9.out.mono B_q1.out.size)⟩

/-- have two boxes a point in common? -/
def meetB (x0 x1 y0 y1 u0 u1 v0 v1 : Int) : Bool := boxB (maxI x0 u0) (minI x1 u1) (maxI y0 v0) (minI y1 v1)
set_option maxHeartbeats 1000000 in
theorem Meets_any (x0 x1 y0 y1 u0 u1 v0 v1 : Int) (w : World) :
    Calls Try.prog 11 #[KV x0 x1 y0 y1, KV u0 u1 v0 v1] w fun e w' => e = .returned (.bool (meetB x0 x1 y0 y1 u0 u1 v0 v1)) ∧ Below w.heap.size w w' := by
  unfold meetB
  obtain ⟨m0, h0⟩ : ∃ m, maxI x0 u0 = m := ⟨_, rfl⟩
  obtain ⟨m1, h1⟩ : ∃ m, minI x1 u1 = m := ⟨_, rfl⟩
  obtain ⟨m2, h2⟩ : ∃ m, maxI y0 v0 = m := ⟨_, rfl⟩
  obtain ⟨m3, h3⟩ : ∃ m, minI y1 v1 = m := ⟨_, rfl⟩
  rw [h0, h1, h2, h3]
  have HX := Lib.hid (boxes1 m0 m1 m2 m3)
  unfold minI at h1 h3
  unfold maxI at h0 h2
  go_enter Try.func11, Try.ntmps11
  go_upto_region 1 with fail
  have RA_1 := Lib.hid ((row_last w (w.heap.size) 23 [.int .i64 x0, .int .i64 x1, .int .i64 y0, .int .i64 y1] (by simp)).alloc (.cells #[.int .i64 u0, .int .i64 u1, .int .i64 v0, .int .i64 v1] 23))
  have RB_1 := Lib.hid (row_last (w.alloc (.cells #[.int .i64 x0, .int .i64 x1, .int .i64 y0, .int .i64 y1] 23)) (w.heap.size + 1) 23 [.int .i64 u0, .int .i64 u1, .int .i64 v0, .int .i64 v1] (by simp))
  have B_1 := Lib.hid (((Below.refl w.heap.size w).alloc (Nat.le_refl _) (.cells #[.int .i64 x0, .int .i64 x1, .int .i64 y0, .int .i64 y1] 23)).alloc (by have := Nat.le_refl w.heap.size; simp <;> omega) (.cells #[.int .i64 u0, .int .i64 u1, .int .i64 v0, .int .i64 v1] 23))
  generalize ((w.alloc (.cells #[.int .i64 x0, .int .i64 x1, .int .i64 y0, .int .i64 y1] 23)).alloc (.cells #[.int .i64 u0, .int .i64 u1, .int .i64 v0, .int .i64 v1] 23)) = V1 at RA_1 RB_1 B_1 ⊢
  have c2_0 := RA_1.out.cell 0
  have c2_1 := RA_1.out.cell 1
  have c2_2 := RA_1.out.cell 2
  have c2_3 := RA_1.out.cell 3
  simp only [List.getElem?_cons_zero, List.getElem?_cons_succ] at c2_0 c2_1 c2_2 c2_3
  have c3_0 := RB_1.out.cell 0
  have c3_1 := RB_1.out.cell 1
  have c3_2 := RB_1.out.cell 2
  have c3_3 := RB_1.out.cell 3
  simp only [List.getElem?_cons_zero, List.getElem?_cons_succ] at c3_0 c3_1 c3_2 c3_3
  go_upto_region 2 with fail
  clear c2_0 c2_1 c2_2 c2_3 c3_0 c3_1 c3_2 c3_3
  clear h0 h1 h2 h3
  have hlt4_0 : w.heap.size < V1.heap.size := RA_1.out.lt
  have hlt4_1 : w.heap.size + 1 < V1.heap.size := RB_1.out.lt
  have RA_4 := Lib.hid (RA_1.out.alloc (.cells #[.int .i64 m0, .int .i64 m1, .int .i64 m2, .int .i64 m3] 23))
  have RB_4 := Lib.hid (RB_1.out.alloc (.cells #[.int .i64 m0, .int .i64 m1, .int .i64 m2, .int .i64 m3] 23))
  have RM_4 := Lib.hid (row_last V1 (V1.heap.size) 23 [.int .i64 m0, .int .i64 m1, .int .i64 m2, .int .i64 m3] (by simp))
  have B_4 := Lib.hid (B_1.out.alloc B_1.out.size (.cells #[.int .i64 m0, .int .i64 m1, .int .i64 m2, .int .i64 m3] 23))
  clear RA_1 RB_1 B_1
  generalize (V1.alloc (.cells #[.int .i64 m0, .int .i64 m1, .int .i64 m2, .int .i64 m3] 23)) = V4 at RA_4 RB_4 RM_4 B_4 ⊢
  have c6_0 := RM_4.out.cell 0
  have c6_1 := RM_4.out.cell 1
  have c6_2 := RM_4.out.cell 2
  have c6_3 := RM_4.out.cell 3
  simp only [List.getElem?_cons_zero, List.getElem?_cons_succ] at c6_0 c6_1 c6_2 c6_3
  go_wp2_with fail
  refine (HX.out _).mono ?_
  rintro e W5 ⟨rfl, hb⟩
  clear c6_0 c6_1 c6_2 c6_3
  have RA_7 := Lib.hid (RA_4.out.below hb RA_4.out.lt)
  have RB_7 := Lib.hid (RB_4.out.below hb RB_4.out.lt)
  have RM_7 := Lib.hid (RM_4.out.below hb RM_4.out.lt)
  have B_7 := Lib.hid (B_4.out.trans (hb.mono B_4.out.size))
  clear hb RA_4 RB_4 RM_4 B_4
  go_wp2
  go_ret
  exact ⟨rfl, B_7.out⟩
end Go.Proofs.Ytbmfijcckdkmdaa.Ky
