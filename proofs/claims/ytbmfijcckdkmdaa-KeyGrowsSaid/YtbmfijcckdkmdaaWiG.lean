/-
  The reference's Cmp.
-/
import Derived.Test.YtbmfijcckdkmdaaWiF
namespace Go.Proofs.Ytbmfijcckdkmdaa.Wi
set_option maxRecDepth 100000
open Go.RowKit Go.Proofs.Ytbmfijcckdkmdaa.Wd

/-- what stands behind the bits of both -/
def CmpC (x y : Nat) (w0 wx : World) (t5 t6 : Value) : Prop := ∃ gx gy, t5 = .pointer (some ⟨gx, 0, none⟩) ∧ t6 = .pointer (some ⟨gy, 0, none⟩) ∧ Row wx gx 59 (iv (bitsN x)) ∧ Row wx gy 59 (iv (bitsN y)) ∧ Below w0.heap.size w0 wx
theorem cmp_bits {x y j p q : Nat} (h : x / 2 ^ (j + 1) = y / 2 ^ (j + 1)) (hp : x / 2 ^ j % 2 = p) (hq : y / 2 ^ j % 2 = q) : (p = q → x / 2 ^ j = y / 2 ^ j) ∧ (¬ p = q → (p : Int) - (q : Int) = cmpM x y) := by
  have e1 : x / 2 ^ (j + 1) = x / 2 ^ j / 2 := by rw [Nat.pow_succ, Nat.div_div_eq_div_mul]
  have e2 : y / 2 ^ (j + 1) = y / 2 ^ j / 2 := by rw [Nat.pow_succ, Nat.div_div_eq_div_mul]
  rw [e1, e2] at h
  refine ⟨fun hpq => by omega, fun hpq => ?_⟩
  have hx := Nat.div_add_mod x (2 ^ j)
  have hy := Nat.div_add_mod y (2 ^ j)
  have lx := Nat.mod_lt x (Nat.two_pow_pos j)
  have ly := Nat.mod_lt y (Nat.two_pow_pos j)
  have hc : (p = 0 ∧ q = 1) ∨ (p = 1 ∧ q = 0) := by omega
  generalize x / 2 ^ j = a at *
  generalize y / 2 ^ j = b at *
  generalize x % 2 ^ j = c at *
  generalize y % 2 ^ j = d at *
  generalize 2 ^ j = P at *
  rcases hc with ⟨rfl, rfl⟩ | ⟨rfl, rfl⟩
  · have hab : a + 1 = b := by omega
    have : P * (a + 1) = P * a + P := by rw [Nat.mul_add, Nat.mul_one]
    subst hab
    have hlt : x < y := by omega
    unfold cmpM
    rw [if_pos hlt]
    rfl
  · have hab : b + 1 = a := by omega
    have : P * (b + 1) = P * b + P := by rw [Nat.mul_add, Nat.mul_one]
    subst hab
    have hlt : y < x := by omega
    unfold cmpM
    rw [if_neg (by omega), if_neg (by omega)]
    rfl

set_option maxHeartbeats 8000000 in
theorem Cmp_ref (ah al bh bl : Nat) (w : World) (h1 : ah < 18446744073709551616) (h2 : al < 18446744073709551616) (h3 : bh < 18446744073709551616) (h4 : bl < 18446744073709551616) :
    Calls Try.prog 43 #[.agg #[.int .u64 (ah : Int), .int .u64 (al : Int)], .agg #[.int .u64 (bh : Int), .int .u64 (bl : Int)]] w fun e w' => e = .returned (.int .i64 (cmpM (ah * 18446744073709551616 + al) (bh * 18446744073709551616 + bl))) ∧ Below w.heap.size w w' := by
  obtain ⟨x, hx⟩ : ∃ x, x = ah * 18446744073709551616 + al := ⟨_, rfl⟩
  obtain ⟨y, hy⟩ : ∃ y, y = bh * 18446744073709551616 + bl := ⟨_, rfl⟩
  have HA := Lib.hid (fun w => Bits_any ah al w h1 h2)
  have HB := Lib.hid (fun w => Bits_any bh bl w h3 h4)
  rw [← hx] at HA ⊢
  rw [← hy] at HB ⊢
  have hx128 : x / 2 ^ 128 = 0 := Nat.div_eq_of_lt (by rw [show (2 : Nat) ^ 128 = 340282366920938463463374607431768211456 from by decide]; omega)
  have hy128 : y / 2 ^ 128 = 0 := Nat.div_eq_of_lt (by rw [show (2 : Nat) ^ 128 = 340282366920938463463374607431768211456 from by decide]; omega)
  have H128 := Lib.hid (show x / 2 ^ 128 = y / 2 ^ 128 by rw [hx128, hy128])
  clear hx hy hx128 hy128
  go_enter Try.func43, Try.ntmps43
  go_upto_region 1 with fail
  have RA := Lib.hid ((row_last w w.heap.size 33 [.int .u64 (ah : Int), .int .u64 (al : Int)] rfl).alloc (.cells #[.int .u64 (bh : Int), .int .u64 (bl : Int)] 33))
  have RB := Lib.hid (row_last (w.alloc (.cells #[.int .u64 (ah : Int), .int .u64 (al : Int)] 33)) (w.heap.size + 1) 33 [.int .u64 (bh : Int), .int .u64 (bl : Int)] (by simp))
  have B0 := Lib.hid (((Below.refl w.heap.size w).alloc (Nat.le_refl _) (.cells #[.int .u64 (ah : Int), .int .u64 (al : Int)] 33)).alloc (by simp) (.cells #[.int .u64 (bh : Int), .int .u64 (bl : Int)] 33))
  generalize (w.alloc (.cells #[.int .u64 (ah : Int), .int .u64 (al : Int)] 33)).alloc (.cells #[.int .u64 (bh : Int), .int .u64 (bl : Int)] 33) = w0 at RA RB B0 ⊢
  go_cut [5, 6] from 8 to 11 (fun t5 t6 wx => CmpC x y w0 wx t5 t6)
  case first =>
    refine wp_region_held_drew (S := fun w' => Below w0.heap.size w0 w') (by kernel_rfl) (Below.refl _ _).drew (fun hHeld => ?_)
    have S0 := Lib.hid hHeld
    clear hHeld
    generalize w0.drew = wd at S0 ⊢
    refine wpAnyH_take (i := 0) (oi := ⟨some 8, _, _, _, _, _⟩) (v := ?va1) rfl (by kernel_rfl) (by kernel_rfl) (by kernel_rfl) (fun _ _ _ h => h) (Or.inl ⟨by rfl, ?ya1⟩) S0.out ?ra1
    case ya1 =>
      rintro w' hSw
      have k0 := (RA.out.below hSw RA.out.lt).cell 0
      have k1 := (RA.out.below hSw RA.out.lt).cell 1
      simp at k0 k1
      go_simp
      try with_reducible rfl
    try simp only [Act.put, List.setIfInBounds_toArray, List.set_cons_zero, List.set_cons_succ]
    refine wpAnyH_take (i := 2) (oi := ⟨some 10, _, _, _, _, _⟩) (v := ?va2) rfl (by kernel_rfl) (by kernel_rfl) (by kernel_rfl) (fun _ _ _ h => h) (Or.inl ⟨by rfl, ?ya2⟩) S0.out ?ra2
    case ya2 =>
      rintro w' hSw
      have k0 := (RB.out.below hSw RB.out.lt).cell 0
      have k1 := (RB.out.below hSw RB.out.lt).cell 1
      simp at k0 k1
      go_simp
      try with_reducible rfl
    try simp only [Act.put, List.setIfInBounds_toArray, List.set_cons_zero, List.set_cons_succ]
    refine wpAnyH_ready (rs := [1, 4, 5]) (by kernel_rfl) (by simp) ?_
    refine (AllReadyH.cons rfl (fun K hK => ?_) (AllReadyH.cons rfl (fun K hK => ?_) (AllReadyH.cons rfl (fun K hK => ?_) AllReadyH.nil)))
    · go_simp
      refine (HA.out _).mono ?_
      rintro e Wa3 ⟨rfl, hb⟩
      have Sa3 := Lib.hid (S0.out.trans (hb.mono S0.out.size))
      clear hb S0 
      refine hK _ _ Sa3.out (fun _ => ?_)
      clear hK K
      try simp only [Act.put, List.setIfInBounds_toArray, List.set_cons_zero, List.set_cons_succ]
      refine wpAnyH_ready (rs := [3, 4, 5]) (by kernel_rfl) (by simp) ?_
      refine (AllReadyH.cons rfl (fun K hK => ?_) (AllReadyH.cons rfl (fun K hK => ?_) (AllReadyH.cons rfl (fun K hK => ?_) AllReadyH.nil)))
      · go_simp
        refine (HB.out _).mono ?_
        rintro e Wa4 ⟨rfl, hb⟩
        have Sa4 := Lib.hid (Sa3.out.trans (hb.mono Sa3.out.size))
        clear hb Sa3 
        refine hK _ _ Sa4.out (fun _ => ?_)
        clear hK K
        try simp only [Act.put, List.setIfInBounds_toArray, List.set_cons_zero, List.set_cons_succ]
        refine wpAnyH_ready (rs := [4, 5]) (by kernel_rfl) (by simp) ?_
        refine (AllReadyH.cons rfl (fun K hK => ?_) (AllReadyH.cons rfl (fun K hK => ?_) AllReadyH.nil))
        · rw [if_pos (by rfl)]
          refine wp_alloc45 rfl (some 5) rfl ?_
          intro Wa5 hr hb hs
          have Sa5 := Lib.hid (Sa4.out.trans (hb.mono Sa4.out.size))
          obtain ⟨gx, hgx⟩ : ∃ g, g = Wa4.heap.size := ⟨_, rfl⟩
          rw [← hgx] at hr ⊢
          have ngx : w0.heap.size ≤ gx := by rw [hgx]; exact Sa4.out.size
          have Ax_a5 := Lib.hid hr
          clear hb hr hs hgx Sa4 
          refine hK _ _ Sa5.out (fun _ => ?_)
          clear hK K
          try simp only [Act.put, List.setIfInBounds_toArray, List.set_cons_zero, List.set_cons_succ]
          refine wpAnyH_ready (rs := [5]) (by kernel_rfl) (by simp) ?_
          refine (AllReadyH.cons rfl (fun K hK => ?_) AllReadyH.nil)
          rw [if_pos (by rfl)]
          refine wp_alloc45 rfl (some 6) rfl ?_
          intro Wa6 hr hb hs
          have Ax_a6 := Lib.hid (Ax_a5.out.below hb Ax_a5.out.lt)
          have Sa6 := Lib.hid (Sa5.out.trans (hb.mono Sa5.out.size))
          obtain ⟨gy, hgy⟩ : ∃ g, g = Wa5.heap.size := ⟨_, rfl⟩
          rw [← hgy] at hr ⊢
          have ngy : w0.heap.size ≤ gy := by rw [hgy]; exact Sa5.out.size
          have ne_x_y : gx < gy := by rw [hgy]; exact Ax_a5.out.lt
          have Ay_a6 := Lib.hid hr
          clear hb hr hs hgy Sa5 Ax_a5
          refine hK _ _ Sa6.out (fun _ => ?_)
          clear hK K
          try simp only [Act.put, List.setIfInBounds_toArray, List.set_cons_zero, List.set_cons_succ]
          refine wpAnyH_ready (rs := [6]) (by kernel_rfl) (by simp) ?_
          refine (AllReadyH.cons rfl (fun K hK => ?_) AllReadyH.nil)
          rw [if_pos (by rfl)]
          refine wp_store45 (.tmp 5) (.tmp 9) rfl rfl gx rfl (bitsN x) zeros rfl Ax_a6.out zeros_len (bitsN_len _) ?_
          intro Wa7 hr hg hs
          have Ay_a7 := Lib.hid (Ay_a6.out.grown hg (by simp; omega))
          have Ax_a7 := Lib.hid hr
          have Sa7 := Lib.hid (Sa6.out.grown hg Sa6.out.size (fun i hi => by cases hi; omega))
          clear hr hg hs Sa6 Ax_a6 Ay_a6
          refine hK _ _ Sa7.out (fun _ => ?_)
          clear hK K
          try simp only [Act.put, List.setIfInBounds_toArray, List.set_cons_zero, List.set_cons_succ]
          refine wpAnyH_ready (rs := [7]) (by kernel_rfl) (by simp) ?_
          refine (AllReadyH.cons rfl (fun K hK => ?_) AllReadyH.nil)
          rw [if_pos (by rfl)]
          refine wp_store45 (.tmp 6) (.tmp 11) rfl rfl gy rfl (bitsN y) zeros rfl Ay_a7.out zeros_len (bitsN_len _) ?_
          intro Wa8 hr hg hs
          have Ax_a8 := Lib.hid (Ax_a7.out.grown hg (by simp; omega))
          have Ay_a8 := Lib.hid hr
          have Sa8 := Lib.hid (Sa7.out.grown hg Sa7.out.size (fun i hi => by cases hi; omega))
          clear hr hg hs Sa7 Ay_a7 Ax_a7
          refine hK _ _ Sa8.out (fun _ => ?_)
          clear hK K
          try simp only [Act.put, List.setIfInBounds_toArray, List.set_cons_zero, List.set_cons_succ]
          refine wpAnyH_done (by kernel_rfl) ?_ _
          go_wp2_with fail
          go_meet
          exact ⟨gx, gy, rfl, rfl, Ax_a8.out, Ay_a8.out, Sa8.out⟩
        · rw [if_pos (by rfl)]
          refine wp_alloc45 rfl (some 6) rfl ?_
          intro Wa9 hr hb hs
          have Sa9 := Lib.hid (Sa4.out.trans (hb.mono Sa4.out.size))
          obtain ⟨gy, hgy⟩ : ∃ g, g = Wa4.heap.size := ⟨_, rfl⟩
          rw [← hgy] at hr ⊢
          have ngy : w0.heap.size ≤ gy := by rw [hgy]; exact Sa4.out.size
          have Ay_a9 := Lib.hid hr
          clear hb hr hs hgy Sa4 
          refine hK _ _ Sa9.out (fun _ => ?_)
          clear hK K
          try simp only [Act.put, List.setIfInBounds_toArray, List.set_cons_zero, List.set_cons_succ]
          refine wpAnyH_ready (rs := [4]) (by kernel_rfl) (by simp) ?_
          refine (AllReadyH.cons rfl (fun K hK => ?_) AllReadyH.nil)
          rw [if_pos (by rfl)]
          refine wp_alloc45 rfl (some 5) rfl ?_
          intro Wa10 hr hb hs
          have Ay_a10 := Lib.hid (Ay_a9.out.below hb Ay_a9.out.lt)
          have Sa10 := Lib.hid (Sa9.out.trans (hb.mono Sa9.out.size))
          obtain ⟨gx, hgx⟩ : ∃ g, g = Wa9.heap.size := ⟨_, rfl⟩
          rw [← hgx] at hr ⊢
          have ngx : w0.heap.size ≤ gx := by rw [hgx]; exact Sa9.out.size
          have ne_y_x : gy < gx := by rw [hgx]; exact Ay_a9.out.lt
          have Ax_a10 := Lib.hid hr
          clear hb hr hs hgx Sa9 Ay_a9
          refine hK _ _ Sa10.out (fun _ => ?_)
          clear hK K
          try simp only [Act.put, List.setIfInBounds_toArray, List.set_cons_zero, List.set_cons_succ]
          refine wpAnyH_ready (rs := [6]) (by kernel_rfl) (by simp) ?_
          refine (AllReadyH.cons rfl (fun K hK => ?_) AllReadyH.nil)
          rw [if_pos (by rfl)]
          refine wp_store45 (.tmp 5) (.tmp 9) rfl rfl gx rfl (bitsN x) zeros rfl Ax_a10.out zeros_len (bitsN_len _) ?_
          intro Wa11 hr hg hs
          have Ay_a11 := Lib.hid (Ay_a10.out.grown hg (by simp; omega))
          have Ax_a11 := Lib.hid hr
          have Sa11 := Lib.hid (Sa10.out.grown hg Sa10.out.size (fun i hi => by cases hi; omega))
          clear hr hg hs Sa10 Ax_a10 Ay_a10
          refine hK _ _ Sa11.out (fun _ => ?_)
          clear hK K
          try simp only [Act.put, List.setIfInBounds_toArray, List.set_cons_zero, List.set_cons_succ]
          refine wpAnyH_ready (rs := [7]) (by kernel_rfl) (by simp) ?_
          refine (AllReadyH.cons rfl (fun K hK => ?_) AllReadyH.nil)
          rw [if_pos (by rfl)]
          refine wp_store45 (.tmp 6) (.tmp 11) rfl rfl gy rfl (bitsN y) zeros rfl Ay_a11.out zeros_len (bitsN_len _) ?_
          intro Wa12 hr hg hs
          have Ax_a12 := Lib.hid (Ax_a11.out.grown hg (by simp; omega))
          have Ay_a12 := Lib.hid hr
          have Sa12 := Lib.hid (Sa11.out.grown hg Sa11.out.size (fun i hi => by cases hi; omega))
          clear hr hg hs Sa11 Ay_a11 Ax_a11
          refine hK _ _ Sa12.out (fun _ => ?_)
          clear hK K
          try simp only [Act.put, List.setIfInBounds_toArray, List.set_cons_zero, List.set_cons_succ]
          refine wpAnyH_done (by kernel_rfl) ?_ _
          go_wp2_with fail
          go_meet
          exact ⟨gx, gy, rfl, rfl, Ax_a12.out, Ay_a12.out, Sa12.out⟩
      · rw [if_pos (by rfl)]
        refine wp_alloc45 rfl (some 5) rfl ?_
        intro Wa13 hr hb hs
        have Sa13 := Lib.hid (Sa3.out.trans (hb.mono Sa3.out.size))
        obtain ⟨gx, hgx⟩ : ∃ g, g = Wa3.heap.size := ⟨_, rfl⟩
        rw [← hgx] at hr ⊢
        have ngx : w0.heap.size ≤ gx := by rw [hgx]; exact Sa3.out.size
        have Ax_a13 := Lib.hid hr
        clear hb hr hs hgx Sa3 
        refine hK _ _ Sa13.out (fun _ => ?_)
        clear hK K
        try simp only [Act.put, List.setIfInBounds_toArray, List.set_cons_zero, List.set_cons_succ]
        refine wpAnyH_ready (rs := [3, 5]) (by kernel_rfl) (by simp) ?_
        refine (AllReadyH.cons rfl (fun K hK => ?_) (AllReadyH.cons rfl (fun K hK => ?_) AllReadyH.nil))
        · go_simp
          refine (HB.out _).mono ?_
          rintro e Wa14 ⟨rfl, hb⟩
          have Ax_a14 := Lib.hid (Ax_a13.out.below hb Ax_a13.out.lt)
          have Sa14 := Lib.hid (Sa13.out.trans (hb.mono Sa13.out.size))
          clear hb Sa13 Ax_a13
          refine hK _ _ Sa14.out (fun _ => ?_)
          clear hK K
          try simp only [Act.put, List.setIfInBounds_toArray, List.set_cons_zero, List.set_cons_succ]
          refine wpAnyH_ready (rs := [5]) (by kernel_rfl) (by simp) ?_
          refine (AllReadyH.cons rfl (fun K hK => ?_) AllReadyH.nil)
          rw [if_pos (by rfl)]
          refine wp_alloc45 rfl (some 6) rfl ?_
          intro Wa15 hr hb hs
          have Ax_a15 := Lib.hid (Ax_a14.out.below hb Ax_a14.out.lt)
          have Sa15 := Lib.hid (Sa14.out.trans (hb.mono Sa14.out.size))
          obtain ⟨gy, hgy⟩ : ∃ g, g = Wa14.heap.size := ⟨_, rfl⟩
          rw [← hgy] at hr ⊢
          have ngy : w0.heap.size ≤ gy := by rw [hgy]; exact Sa14.out.size
          have ne_x_y : gx < gy := by rw [hgy]; exact Ax_a14.out.lt
          have Ay_a15 := Lib.hid hr
          clear hb hr hs hgy Sa14 Ax_a14
          refine hK _ _ Sa15.out (fun _ => ?_)
          clear hK K
          try simp only [Act.put, List.setIfInBounds_toArray, List.set_cons_zero, List.set_cons_succ]
          refine wpAnyH_ready (rs := [6]) (by kernel_rfl) (by simp) ?_
          refine (AllReadyH.cons rfl (fun K hK => ?_) AllReadyH.nil)
          rw [if_pos (by rfl)]
          refine wp_store45 (.tmp 5) (.tmp 9) rfl rfl gx rfl (bitsN x) zeros rfl Ax_a15.out zeros_len (bitsN_len _) ?_
          intro Wa16 hr hg hs
          have Ay_a16 := Lib.hid (Ay_a15.out.grown hg (by simp; omega))
          have Ax_a16 := Lib.hid hr
          have Sa16 := Lib.hid (Sa15.out.grown hg Sa15.out.size (fun i hi => by cases hi; omega))
          clear hr hg hs Sa15 Ax_a15 Ay_a15
          refine hK _ _ Sa16.out (fun _ => ?_)
          clear hK K
          try simp only [Act.put, List.setIfInBounds_toArray, List.set_cons_zero, List.set_cons_succ]
          refine wpAnyH_ready (rs := [7]) (by kernel_rfl) (by simp) ?_
          refine (AllReadyH.cons rfl (fun K hK => ?_) AllReadyH.nil)
          rw [if_pos (by rfl)]
          refine wp_store45 (.tmp 6) (.tmp 11) rfl rfl gy rfl (bitsN y) zeros rfl Ay_a16.out zeros_len (bitsN_len _) ?_
          intro Wa17 hr hg hs
          have Ax_a17 := Lib.hid (Ax_a16.out.grown hg (by simp; omega))
          have Ay_a17 := Lib.hid hr
          have Sa17 := Lib.hid (Sa16.out.grown hg Sa16.out.size (fun i hi => by cases hi; omega))
          clear hr hg hs Sa16 Ay_a16 Ax_a16
          refine hK _ _ Sa17.out (fun _ => ?_)
          clear hK K
          try simp only [Act.put, List.setIfInBounds_toArray, List.set_cons_zero, List.set_cons_succ]
          refine wpAnyH_done (by kernel_rfl) ?_ _
          go_wp2_with fail
          go_meet
          exact ⟨gx, gy, rfl, rfl, Ax_a17.out, Ay_a17.out, Sa17.out⟩
        · rw [if_pos (by rfl)]
          refine wp_alloc45 rfl (some 6) rfl ?_
          intro Wa18 hr hb hs
          have Ax_a18 := Lib.hid (Ax_a13.out.below hb Ax_a13.out.lt)
          have Sa18 := Lib.hid (Sa13.out.trans (hb.mono Sa13.out.size))
          obtain ⟨gy, hgy⟩ : ∃ g, g = Wa13.heap.size := ⟨_, rfl⟩
          rw [← hgy] at hr ⊢
          have ngy : w0.heap.size ≤ gy := by rw [hgy]; exact Sa13.out.size
          have ne_x_y : gx < gy := by rw [hgy]; exact Ax_a13.out.lt
          have Ay_a18 := Lib.hid hr
          clear hb hr hs hgy Sa13 Ax_a13
          refine hK _ _ Sa18.out (fun _ => ?_)
          clear hK K
          try simp only [Act.put, List.setIfInBounds_toArray, List.set_cons_zero, List.set_cons_succ]
          refine wpAnyH_ready (rs := [3]) (by kernel_rfl) (by simp) ?_
          refine (AllReadyH.cons rfl (fun K hK => ?_) AllReadyH.nil)
          go_simp
          refine (HB.out _).mono ?_
          rintro e Wa19 ⟨rfl, hb⟩
          have Ax_a19 := Lib.hid (Ax_a18.out.below hb Ax_a18.out.lt)
          have Ay_a19 := Lib.hid (Ay_a18.out.below hb Ay_a18.out.lt)
          have Sa19 := Lib.hid (Sa18.out.trans (hb.mono Sa18.out.size))
          clear hb Sa18 Ax_a18 Ay_a18
          refine hK _ _ Sa19.out (fun _ => ?_)
          clear hK K
          try simp only [Act.put, List.setIfInBounds_toArray, List.set_cons_zero, List.set_cons_succ]
          refine wpAnyH_ready (rs := [6]) (by kernel_rfl) (by simp) ?_
          refine (AllReadyH.cons rfl (fun K hK => ?_) AllReadyH.nil)
          rw [if_pos (by rfl)]
          refine wp_store45 (.tmp 5) (.tmp 9) rfl rfl gx rfl (bitsN x) zeros rfl Ax_a19.out zeros_len (bitsN_len _) ?_
          intro Wa20 hr hg hs
          have Ay_a20 := Lib.hid (Ay_a19.out.grown hg (by simp; omega))
          have Ax_a20 := Lib.hid hr
          have Sa20 := Lib.hid (Sa19.out.grown hg Sa19.out.size (fun i hi => by cases hi; omega))
          clear hr hg hs Sa19 Ax_a19 Ay_a19
          refine hK _ _ Sa20.out (fun _ => ?_)
          clear hK K
          try simp only [Act.put, List.setIfInBounds_toArray, List.set_cons_zero, List.set_cons_succ]
          refine wpAnyH_ready (rs := [7]) (by kernel_rfl) (by simp) ?_
          refine (AllReadyH.cons rfl (fun K hK => ?_) AllReadyH.nil)
          rw [if_pos (by rfl)]
          refine wp_store45 (.tmp 6) (.tmp 11) rfl rfl gy rfl (bitsN y) zeros rfl Ay_a20.out zeros_len (bitsN_len _) ?_
          intro Wa21 hr hg hs
          have Ax_a21 := Lib.hid (Ax_a20.out.grown hg (by simp; omega))
          have Ay_a21 := Lib.hid hr
          have Sa21 := Lib.hid (Sa20.out.grown hg Sa20.out.size (fun i hi => by cases hi; omega))
          clear hr hg hs Sa20 Ay_a20 Ax_a20
          refine hK _ _ Sa21.out (fun _ => ?_)
          clear hK K
          try simp only [Act.put, List.setIfInBounds_toArray, List.set_cons_zero, List.set_cons_succ]
          refine wpAnyH_done (by kernel_rfl) ?_ _
          go_wp2_with fail
          go_meet
          exact ⟨gx, gy, rfl, rfl, Ax_a21.out, Ay_a21.out, Sa21.out⟩
      · rw [if_pos (by rfl)]
        refine wp_alloc45 rfl (some 6) rfl ?_
        intro Wa22 hr hb hs
        have Sa22 := Lib.hid (Sa3.out.trans (hb.mono Sa3.out.size))
        obtain ⟨gy, hgy⟩ : ∃ g, g = Wa3.heap.size := ⟨_, rfl⟩
        rw [← hgy] at hr ⊢
        have ngy : w0.heap.size ≤ gy := by rw [hgy]; exact Sa3.out.size
        have Ay_a22 := Lib.hid hr
        clear hb hr hs hgy Sa3 
        refine hK _ _ Sa22.out (fun _ => ?_)
        clear hK K
        try simp only [Act.put, List.setIfInBounds_toArray, List.set_cons_zero, List.set_cons_succ]
        refine wpAnyH_ready (rs := [3, 4]) (by kernel_rfl) (by simp) ?_
        refine (AllReadyH.cons rfl (fun K hK => ?_) (AllReadyH.cons rfl (fun K hK => ?_) AllReadyH.nil))
        · go_simp
          refine (HB.out _).mono ?_
          rintro e Wa23 ⟨rfl, hb⟩
          have Ay_a23 := Lib.hid (Ay_a22.out.below hb Ay_a22.out.lt)
          have Sa23 := Lib.hid (Sa22.out.trans (hb.mono Sa22.out.size))
          clear hb Sa22 Ay_a22
          refine hK _ _ Sa23.out (fun _ => ?_)
          clear hK K
          try simp only [Act.put, List.setIfInBounds_toArray, List.set_cons_zero, List.set_cons_succ]
          refine wpAnyH_ready (rs := [4]) (by kernel_rfl) (by simp) ?_
          refine (AllReadyH.cons rfl (fun K hK => ?_) AllReadyH.nil)
          rw [if_pos (by rfl)]
          refine wp_alloc45 rfl (some 5) rfl ?_
          intro Wa24 hr hb hs
          have Ay_a24 := Lib.hid (Ay_a23.out.below hb Ay_a23.out.lt)
          have Sa24 := Lib.hid (Sa23.out.trans (hb.mono Sa23.out.size))
          obtain ⟨gx, hgx⟩ : ∃ g, g = Wa23.heap.size := ⟨_, rfl⟩
          rw [← hgx] at hr ⊢
          have ngx : w0.heap.size ≤ gx := by rw [hgx]; exact Sa23.out.size
          have ne_y_x : gy < gx := by rw [hgx]; exact Ay_a23.out.lt
          have Ax_a24 := Lib.hid hr
          clear hb hr hs hgx Sa23 Ay_a23
          refine hK _ _ Sa24.out (fun _ => ?_)
          clear hK K
          try simp only [Act.put, List.setIfInBounds_toArray, List.set_cons_zero, List.set_cons_succ]
          refine wpAnyH_ready (rs := [6]) (by kernel_rfl) (by simp) ?_
          refine (AllReadyH.cons rfl (fun K hK => ?_) AllReadyH.nil)
          rw [if_pos (by rfl)]
          refine wp_store45 (.tmp 5) (.tmp 9) rfl rfl gx rfl (bitsN x) zeros rfl Ax_a24.out zeros_len (bitsN_len _) ?_
          intro Wa25 hr hg hs
          have Ay_a25 := Lib.hid (Ay_a24.out.grown hg (by simp; omega))
          have Ax_a25 := Lib.hid hr
          have Sa25 := Lib.hid (Sa24.out.grown hg Sa24.out.size (fun i hi => by cases hi; omega))
          clear hr hg hs Sa24 Ax_a24 Ay_a24
          refine hK _ _ Sa25.out (fun _ => ?_)
          clear hK K
          try simp only [Act.put, List.setIfInBounds_toArray, List.set_cons_zero, List.set_cons_succ]
          refine wpAnyH_ready (rs := [7]) (by kernel_rfl) (by simp) ?_
          refine (AllReadyH.cons rfl (fun K hK => ?_) AllReadyH.nil)
          rw [if_pos (by rfl)]
          refine wp_store45 (.tmp 6) (.tmp 11) rfl rfl gy rfl (bitsN y) zeros rfl Ay_a25.out zeros_len (bitsN_len _) ?_
          intro Wa26 hr hg hs
          have Ax_a26 := Lib.hid (Ax_a25.out.grown hg (by simp; omega))
          have Ay_a26 := Lib.hid hr
          have Sa26 := Lib.hid (Sa25.out.grown hg Sa25.out.size (fun i hi => by cases hi; omega))
          clear hr hg hs Sa25 Ay_a25 Ax_a25
          refine hK _ _ Sa26.out (fun _ => ?_)
          clear hK K
          try simp only [Act.put, List.setIfInBounds_toArray, List.set_cons_zero, List.set_cons_succ]
          refine wpAnyH_done (by kernel_rfl) ?_ _
          go_wp2_with fail
          go_meet
          exact ⟨gx, gy, rfl, rfl, Ax_a26.out, Ay_a26.out, Sa26.out⟩
        · rw [if_pos (by rfl)]
          refine wp_alloc45 rfl (some 5) rfl ?_
          intro Wa27 hr hb hs
          have Ay_a27 := Lib.hid (Ay_a22.out.below hb Ay_a22.out.lt)
          have Sa27 := Lib.hid (Sa22.out.trans (hb.mono Sa22.out.size))
          obtain ⟨gx, hgx⟩ : ∃ g, g = Wa22.heap.size := ⟨_, rfl⟩
          rw [← hgx] at hr ⊢
          have ngx : w0.heap.size ≤ gx := by rw [hgx]; exact Sa22.out.size
          have ne_y_x : gy < gx := by rw [hgx]; exact Ay_a22.out.lt
          have Ax_a27 := Lib.hid hr
          clear hb hr hs hgx Sa22 Ay_a22
          refine hK _ _ Sa27.out (fun _ => ?_)
          clear hK K
          try simp only [Act.put, List.setIfInBounds_toArray, List.set_cons_zero, List.set_cons_succ]
          refine wpAnyH_ready (rs := [3]) (by kernel_rfl) (by simp) ?_
          refine (AllReadyH.cons rfl (fun K hK => ?_) AllReadyH.nil)
          go_simp
          refine (HB.out _).mono ?_
          rintro e Wa28 ⟨rfl, hb⟩
          have Ay_a28 := Lib.hid (Ay_a27.out.below hb Ay_a27.out.lt)
          have Ax_a28 := Lib.hid (Ax_a27.out.below hb Ax_a27.out.lt)
          have Sa28 := Lib.hid (Sa27.out.trans (hb.mono Sa27.out.size))
          clear hb Sa27 Ay_a27 Ax_a27
          refine hK _ _ Sa28.out (fun _ => ?_)
          clear hK K
          try simp only [Act.put, List.setIfInBounds_toArray, List.set_cons_zero, List.set_cons_succ]
          refine wpAnyH_ready (rs := [6]) (by kernel_rfl) (by simp) ?_
          refine (AllReadyH.cons rfl (fun K hK => ?_) AllReadyH.nil)
          rw [if_pos (by rfl)]
          refine wp_store45 (.tmp 5) (.tmp 9) rfl rfl gx rfl (bitsN x) zeros rfl Ax_a28.out zeros_len (bitsN_len _) ?_
          intro Wa29 hr hg hs
          have Ay_a29 := Lib.hid (Ay_a28.out.grown hg (by simp; omega))
          have Ax_a29 := Lib.hid hr
          have Sa29 := Lib.hid (Sa28.out.grown hg Sa28.out.size (fun i hi => by cases hi; omega))
          clear hr hg hs Sa28 Ax_a28 Ay_a28
          refine hK _ _ Sa29.out (fun _ => ?_)
          clear hK K
          try simp only [Act.put, List.setIfInBounds_toArray, List.set_cons_zero, List.set_cons_succ]
          refine wpAnyH_ready (rs := [7]) (by kernel_rfl) (by simp) ?_
          refine (AllReadyH.cons rfl (fun K hK => ?_) AllReadyH.nil)
          rw [if_pos (by rfl)]
          refine wp_store45 (.tmp 6) (.tmp 11) rfl rfl gy rfl (bitsN y) zeros rfl Ay_a29.out zeros_len (bitsN_len _) ?_
          intro Wa30 hr hg hs
          have Ax_a30 := Lib.hid (Ax_a29.out.grown hg (by simp; omega))
          have Ay_a30 := Lib.hid hr
          have Sa30 := Lib.hid (Sa29.out.grown hg Sa29.out.size (fun i hi => by cases hi; omega))
          clear hr hg hs Sa29 Ay_a29 Ax_a29
          refine hK _ _ Sa30.out (fun _ => ?_)
          clear hK K
          try simp only [Act.put, List.setIfInBounds_toArray, List.set_cons_zero, List.set_cons_succ]
          refine wpAnyH_done (by kernel_rfl) ?_ _
          go_wp2_with fail
          go_meet
          exact ⟨gx, gy, rfl, rfl, Ax_a30.out, Ay_a30.out, Sa30.out⟩
    · rw [if_pos (by rfl)]
      refine wp_alloc45 rfl (some 5) rfl ?_
      intro Wa31 hr hb hs
      have Sa31 := Lib.hid (S0.out.trans (hb.mono S0.out.size))
      obtain ⟨gx, hgx⟩ : ∃ g, g = wd.heap.size := ⟨_, rfl⟩
      rw [← hgx] at hr ⊢
      have ngx : w0.heap.size ≤ gx := by rw [hgx]; exact S0.out.size
      have Ax_a31 := Lib.hid hr
      clear hb hr hs hgx S0 
      refine hK _ _ Sa31.out (fun _ => ?_)
      clear hK K
      try simp only [Act.put, List.setIfInBounds_toArray, List.set_cons_zero, List.set_cons_succ]
      refine wpAnyH_ready (rs := [1, 5]) (by kernel_rfl) (by simp) ?_
      refine (AllReadyH.cons rfl (fun K hK => ?_) (AllReadyH.cons rfl (fun K hK => ?_) AllReadyH.nil))
      · go_simp
        refine (HA.out _).mono ?_
        rintro e Wa32 ⟨rfl, hb⟩
        have Ax_a32 := Lib.hid (Ax_a31.out.below hb Ax_a31.out.lt)
        have Sa32 := Lib.hid (Sa31.out.trans (hb.mono Sa31.out.size))
        clear hb Sa31 Ax_a31
        refine hK _ _ Sa32.out (fun _ => ?_)
        clear hK K
        try simp only [Act.put, List.setIfInBounds_toArray, List.set_cons_zero, List.set_cons_succ]
        refine wpAnyH_ready (rs := [3, 5]) (by kernel_rfl) (by simp) ?_
        refine (AllReadyH.cons rfl (fun K hK => ?_) (AllReadyH.cons rfl (fun K hK => ?_) AllReadyH.nil))
        · go_simp
          refine (HB.out _).mono ?_
          rintro e Wa33 ⟨rfl, hb⟩
          have Ax_a33 := Lib.hid (Ax_a32.out.below hb Ax_a32.out.lt)
          have Sa33 := Lib.hid (Sa32.out.trans (hb.mono Sa32.out.size))
          clear hb Sa32 Ax_a32
          refine hK _ _ Sa33.out (fun _ => ?_)
          clear hK K
          try simp only [Act.put, List.setIfInBounds_toArray, List.set_cons_zero, List.set_cons_succ]
          refine wpAnyH_ready (rs := [5]) (by kernel_rfl) (by simp) ?_
          refine (AllReadyH.cons rfl (fun K hK => ?_) AllReadyH.nil)
          rw [if_pos (by rfl)]
          refine wp_alloc45 rfl (some 6) rfl ?_
          intro Wa34 hr hb hs
          have Ax_a34 := Lib.hid (Ax_a33.out.below hb Ax_a33.out.lt)
          have Sa34 := Lib.hid (Sa33.out.trans (hb.mono Sa33.out.size))
          obtain ⟨gy, hgy⟩ : ∃ g, g = Wa33.heap.size := ⟨_, rfl⟩
          rw [← hgy] at hr ⊢
          have ngy : w0.heap.size ≤ gy := by rw [hgy]; exact Sa33.out.size
          have ne_x_y : gx < gy := by rw [hgy]; exact Ax_a33.out.lt
          have Ay_a34 := Lib.hid hr
          clear hb hr hs hgy Sa33 Ax_a33
          refine hK _ _ Sa34.out (fun _ => ?_)
          clear hK K
          try simp only [Act.put, List.setIfInBounds_toArray, List.set_cons_zero, List.set_cons_succ]
          refine wpAnyH_ready (rs := [6]) (by kernel_rfl) (by simp) ?_
          refine (AllReadyH.cons rfl (fun K hK => ?_) AllReadyH.nil)
          rw [if_pos (by rfl)]
          refine wp_store45 (.tmp 5) (.tmp 9) rfl rfl gx rfl (bitsN x) zeros rfl Ax_a34.out zeros_len (bitsN_len _) ?_
          intro Wa35 hr hg hs
          have Ay_a35 := Lib.hid (Ay_a34.out.grown hg (by simp; omega))
          have Ax_a35 := Lib.hid hr
          have Sa35 := Lib.hid (Sa34.out.grown hg Sa34.out.size (fun i hi => by cases hi; omega))
          clear hr hg hs Sa34 Ax_a34 Ay_a34
          refine hK _ _ Sa35.out (fun _ => ?_)
          clear hK K
          try simp only [Act.put, List.setIfInBounds_toArray, List.set_cons_zero, List.set_cons_succ]
          refine wpAnyH_ready (rs := [7]) (by kernel_rfl) (by simp) ?_
          refine (AllReadyH.cons rfl (fun K hK => ?_) AllReadyH.nil)
          rw [if_pos (by rfl)]
          refine wp_store45 (.tmp 6) (.tmp 11) rfl rfl gy rfl (bitsN y) zeros rfl Ay_a35.out zeros_len (bitsN_len _) ?_
          intro Wa36 hr hg hs
          have Ax_a36 := Lib.hid (Ax_a35.out.grown hg (by simp; omega))
          have Ay_a36 := Lib.hid hr
          have Sa36 := Lib.hid (Sa35.out.grown hg Sa35.out.size (fun i hi => by cases hi; omega))
          clear hr hg hs Sa35 Ay_a35 Ax_a35
          refine hK _ _ Sa36.out (fun _ => ?_)
          clear hK K
          try simp only [Act.put, List.setIfInBounds_toArray, List.set_cons_zero, List.set_cons_succ]
          refine wpAnyH_done (by kernel_rfl) ?_ _
          go_wp2_with fail
          go_meet
          exact ⟨gx, gy, rfl, rfl, Ax_a36.out, Ay_a36.out, Sa36.out⟩
        · rw [if_pos (by rfl)]
          refine wp_alloc45 rfl (some 6) rfl ?_
          intro Wa37 hr hb hs
          have Ax_a37 := Lib.hid (Ax_a32.out.below hb Ax_a32.out.lt)
          have Sa37 := Lib.hid (Sa32.out.trans (hb.mono Sa32.out.size))
          obtain ⟨gy, hgy⟩ : ∃ g, g = Wa32.heap.size := ⟨_, rfl⟩
          rw [← hgy] at hr ⊢
          have ngy : w0.heap.size ≤ gy := by rw [hgy]; exact Sa32.out.size
          have ne_x_y : gx < gy := by rw [hgy]; exact Ax_a32.out.lt
          have Ay_a37 := Lib.hid hr
          clear hb hr hs hgy Sa32 Ax_a32
          refine hK _ _ Sa37.out (fun _ => ?_)
          clear hK K
          try simp only [Act.put, List.setIfInBounds_toArray, List.set_cons_zero, List.set_cons_succ]
          refine wpAnyH_ready (rs := [3]) (by kernel_rfl) (by simp) ?_
          refine (AllReadyH.cons rfl (fun K hK => ?_) AllReadyH.nil)
          go_simp
          refine (HB.out _).mono ?_
          rintro e Wa38 ⟨rfl, hb⟩
          have Ax_a38 := Lib.hid (Ax_a37.out.below hb Ax_a37.out.lt)
          have Ay_a38 := Lib.hid (Ay_a37.out.below hb Ay_a37.out.lt)
          have Sa38 := Lib.hid (Sa37.out.trans (hb.mono Sa37.out.size))
          clear hb Sa37 Ax_a37 Ay_a37
          refine hK _ _ Sa38.out (fun _ => ?_)
          clear hK K
          try simp only [Act.put, List.setIfInBounds_toArray, List.set_cons_zero, List.set_cons_succ]
          refine wpAnyH_ready (rs := [6]) (by kernel_rfl) (by simp) ?_
          refine (AllReadyH.cons rfl (fun K hK => ?_) AllReadyH.nil)
          rw [if_pos (by rfl)]
          refine wp_store45 (.tmp 5) (.tmp 9) rfl rfl gx rfl (bitsN x) zeros rfl Ax_a38.out zeros_len (bitsN_len _) ?_
          intro Wa39 hr hg hs
          have Ay_a39 := Lib.hid (Ay_a38.out.grown hg (by simp; omega))
          have Ax_a39 := Lib.hid hr
          have Sa39 := Lib.hid (Sa38.out.grown hg Sa38.out.size (fun i hi => by cases hi; omega))
          clear hr hg hs Sa38 Ax_a38 Ay_a38
          refine hK _ _ Sa39.out (fun _ => ?_)
          clear hK K
          try simp only [Act.put, List.setIfInBounds_toArray, List.set_cons_zero, List.set_cons_succ]
          refine wpAnyH_ready (rs := [7]) (by kernel_rfl) (by simp) ?_
          refine (AllReadyH.cons rfl (fun K hK => ?_) AllReadyH.nil)
          rw [if_pos (by rfl)]
          refine wp_store45 (.tmp 6) (.tmp 11) rfl rfl gy rfl (bitsN y) zeros rfl Ay_a39.out zeros_len (bitsN_len _) ?_
          intro Wa40 hr hg hs
          have Ax_a40 := Lib.hid (Ax_a39.out.grown hg (by simp; omega))
          have Ay_a40 := Lib.hid hr
          have Sa40 := Lib.hid (Sa39.out.grown hg Sa39.out.size (fun i hi => by cases hi; omega))
          clear hr hg hs Sa39 Ay_a39 Ax_a39
          refine hK _ _ Sa40.out (fun _ => ?_)
          clear hK K
          try simp only [Act.put, List.setIfInBounds_toArray, List.set_cons_zero, List.set_cons_succ]
          refine wpAnyH_done (by kernel_rfl) ?_ _
          go_wp2_with fail
          go_meet
          exact ⟨gx, gy, rfl, rfl, Ax_a40.out, Ay_a40.out, Sa40.out⟩
      · rw [if_pos (by rfl)]
        refine wp_alloc45 rfl (some 6) rfl ?_
        intro Wa41 hr hb hs
        have Ax_a41 := Lib.hid (Ax_a31.out.below hb Ax_a31.out.lt)
        have Sa41 := Lib.hid (Sa31.out.trans (hb.mono Sa31.out.size))
        obtain ⟨gy, hgy⟩ : ∃ g, g = Wa31.heap.size := ⟨_, rfl⟩
        rw [← hgy] at hr ⊢
        have ngy : w0.heap.size ≤ gy := by rw [hgy]; exact Sa31.out.size
        have ne_x_y : gx < gy := by rw [hgy]; exact Ax_a31.out.lt
        have Ay_a41 := Lib.hid hr
        clear hb hr hs hgy Sa31 Ax_a31
        refine hK _ _ Sa41.out (fun _ => ?_)
        clear hK K
        try simp only [Act.put, List.setIfInBounds_toArray, List.set_cons_zero, List.set_cons_succ]
        refine wpAnyH_ready (rs := [1]) (by kernel_rfl) (by simp) ?_
        refine (AllReadyH.cons rfl (fun K hK => ?_) AllReadyH.nil)
        go_simp
        refine (HA.out _).mono ?_
        rintro e Wa42 ⟨rfl, hb⟩
        have Ax_a42 := Lib.hid (Ax_a41.out.below hb Ax_a41.out.lt)
        have Ay_a42 := Lib.hid (Ay_a41.out.below hb Ay_a41.out.lt)
        have Sa42 := Lib.hid (Sa41.out.trans (hb.mono Sa41.out.size))
        clear hb Sa41 Ax_a41 Ay_a41
        refine hK _ _ Sa42.out (fun _ => ?_)
        clear hK K
        try simp only [Act.put, List.setIfInBounds_toArray, List.set_cons_zero, List.set_cons_succ]
        refine wpAnyH_ready (rs := [3]) (by kernel_rfl) (by simp) ?_
        refine (AllReadyH.cons rfl (fun K hK => ?_) AllReadyH.nil)
        go_simp
        refine (HB.out _).mono ?_
        rintro e Wa43 ⟨rfl, hb⟩
        have Ax_a43 := Lib.hid (Ax_a42.out.below hb Ax_a42.out.lt)
        have Ay_a43 := Lib.hid (Ay_a42.out.below hb Ay_a42.out.lt)
        have Sa43 := Lib.hid (Sa42.out.trans (hb.mono Sa42.out.size))
        clear hb Sa42 Ax_a42 Ay_a42
        refine hK _ _ Sa43.out (fun _ => ?_)
        clear hK K
        try simp only [Act.put, List.setIfInBounds_toArray, List.set_cons_zero, List.set_cons_succ]
        refine wpAnyH_ready (rs := [6]) (by kernel_rfl) (by simp) ?_
        refine (AllReadyH.cons rfl (fun K hK => ?_) AllReadyH.nil)
        rw [if_pos (by rfl)]
        refine wp_store45 (.tmp 5) (.tmp 9) rfl rfl gx rfl (bitsN x) zeros rfl Ax_a43.out zeros_len (bitsN_len _) ?_
        intro Wa44 hr hg hs
        have Ay_a44 := Lib.hid (Ay_a43.out.grown hg (by simp; omega))
        have Ax_a44 := Lib.hid hr
        have Sa44 := Lib.hid (Sa43.out.grown hg Sa43.out.size (fun i hi => by cases hi; omega))
        clear hr hg hs Sa43 Ax_a43 Ay_a43
        refine hK _ _ Sa44.out (fun _ => ?_)
        clear hK K
        try simp only [Act.put, List.setIfInBounds_toArray, List.set_cons_zero, List.set_cons_succ]
        refine wpAnyH_ready (rs := [7]) (by kernel_rfl) (by simp) ?_
        refine (AllReadyH.cons rfl (fun K hK => ?_) AllReadyH.nil)
        rw [if_pos (by rfl)]
        refine wp_store45 (.tmp 6) (.tmp 11) rfl rfl gy rfl (bitsN y) zeros rfl Ay_a44.out zeros_len (bitsN_len _) ?_
        intro Wa45 hr hg hs
        have Ax_a45 := Lib.hid (Ax_a44.out.grown hg (by simp; omega))
        have Ay_a45 := Lib.hid hr
        have Sa45 := Lib.hid (Sa44.out.grown hg Sa44.out.size (fun i hi => by cases hi; omega))
        clear hr hg hs Sa44 Ay_a44 Ax_a44
        refine hK _ _ Sa45.out (fun _ => ?_)
        clear hK K
        try simp only [Act.put, List.setIfInBounds_toArray, List.set_cons_zero, List.set_cons_succ]
        refine wpAnyH_done (by kernel_rfl) ?_ _
        go_wp2_with fail
        go_meet
        exact ⟨gx, gy, rfl, rfl, Ax_a45.out, Ay_a45.out, Sa45.out⟩
    · rw [if_pos (by rfl)]
      refine wp_alloc45 rfl (some 6) rfl ?_
      intro Wa46 hr hb hs
      have Sa46 := Lib.hid (S0.out.trans (hb.mono S0.out.size))
      obtain ⟨gy, hgy⟩ : ∃ g, g = wd.heap.size := ⟨_, rfl⟩
      rw [← hgy] at hr ⊢
      have ngy : w0.heap.size ≤ gy := by rw [hgy]; exact S0.out.size
      have Ay_a46 := Lib.hid hr
      clear hb hr hs hgy S0 
      refine hK _ _ Sa46.out (fun _ => ?_)
      clear hK K
      try simp only [Act.put, List.setIfInBounds_toArray, List.set_cons_zero, List.set_cons_succ]
      refine wpAnyH_ready (rs := [1, 4]) (by kernel_rfl) (by simp) ?_
      refine (AllReadyH.cons rfl (fun K hK => ?_) (AllReadyH.cons rfl (fun K hK => ?_) AllReadyH.nil))
      · go_simp
        refine (HA.out _).mono ?_
        rintro e Wa47 ⟨rfl, hb⟩
        have Ay_a47 := Lib.hid (Ay_a46.out.below hb Ay_a46.out.lt)
        have Sa47 := Lib.hid (Sa46.out.trans (hb.mono Sa46.out.size))
        clear hb Sa46 Ay_a46
        refine hK _ _ Sa47.out (fun _ => ?_)
        clear hK K
        try simp only [Act.put, List.setIfInBounds_toArray, List.set_cons_zero, List.set_cons_succ]
        refine wpAnyH_ready (rs := [3, 4]) (by kernel_rfl) (by simp) ?_
        refine (AllReadyH.cons rfl (fun K hK => ?_) (AllReadyH.cons rfl (fun K hK => ?_) AllReadyH.nil))
        · go_simp
          refine (HB.out _).mono ?_
          rintro e Wa48 ⟨rfl, hb⟩
          have Ay_a48 := Lib.hid (Ay_a47.out.below hb Ay_a47.out.lt)
          have Sa48 := Lib.hid (Sa47.out.trans (hb.mono Sa47.out.size))
          clear hb Sa47 Ay_a47
          refine hK _ _ Sa48.out (fun _ => ?_)
          clear hK K
          try simp only [Act.put, List.setIfInBounds_toArray, List.set_cons_zero, List.set_cons_succ]
          refine wpAnyH_ready (rs := [4]) (by kernel_rfl) (by simp) ?_
          refine (AllReadyH.cons rfl (fun K hK => ?_) AllReadyH.nil)
          rw [if_pos (by rfl)]
          refine wp_alloc45 rfl (some 5) rfl ?_
          intro Wa49 hr hb hs
          have Ay_a49 := Lib.hid (Ay_a48.out.below hb Ay_a48.out.lt)
          have Sa49 := Lib.hid (Sa48.out.trans (hb.mono Sa48.out.size))
          obtain ⟨gx, hgx⟩ : ∃ g, g = Wa48.heap.size := ⟨_, rfl⟩
          rw [← hgx] at hr ⊢
          have ngx : w0.heap.size ≤ gx := by rw [hgx]; exact Sa48.out.size
          have ne_y_x : gy < gx := by rw [hgx]; exact Ay_a48.out.lt
          have Ax_a49 := Lib.hid hr
          clear hb hr hs hgx Sa48 Ay_a48
          refine hK _ _ Sa49.out (fun _ => ?_)
          clear hK K
          try simp only [Act.put, List.setIfInBounds_toArray, List.set_cons_zero, List.set_cons_succ]
          refine wpAnyH_ready (rs := [6]) (by kernel_rfl) (by simp) ?_
          refine (AllReadyH.cons rfl (fun K hK => ?_) AllReadyH.nil)
          rw [if_pos (by rfl)]
          refine wp_store45 (.tmp 5) (.tmp 9) rfl rfl gx rfl (bitsN x) zeros rfl Ax_a49.out zeros_len (bitsN_len _) ?_
          intro Wa50 hr hg hs
          have Ay_a50 := Lib.hid (Ay_a49.out.grown hg (by simp; omega))
          have Ax_a50 := Lib.hid hr
          have Sa50 := Lib.hid (Sa49.out.grown hg Sa49.out.size (fun i hi => by cases hi; omega))
          clear hr hg hs Sa49 Ax_a49 Ay_a49
          refine hK _ _ Sa50.out (fun _ => ?_)
          clear hK K
          try simp only [Act.put, List.setIfInBounds_toArray, List.set_cons_zero, List.set_cons_succ]
          refine wpAnyH_ready (rs := [7]) (by kernel_rfl) (by simp) ?_
          refine (AllReadyH.cons rfl (fun K hK => ?_) AllReadyH.nil)
          rw [if_pos (by rfl)]
          refine wp_store45 (.tmp 6) (.tmp 11) rfl rfl gy rfl (bitsN y) zeros rfl Ay_a50.out zeros_len (bitsN_len _) ?_
          intro Wa51 hr hg hs
          have Ax_a51 := Lib.hid (Ax_a50.out.grown hg (by simp; omega))
          have Ay_a51 := Lib.hid hr
          have Sa51 := Lib.hid (Sa50.out.grown hg Sa50.out.size (fun i hi => by cases hi; omega))
          clear hr hg hs Sa50 Ay_a50 Ax_a50
          refine hK _ _ Sa51.out (fun _ => ?_)
          clear hK K
          try simp only [Act.put, List.setIfInBounds_toArray, List.set_cons_zero, List.set_cons_succ]
          refine wpAnyH_done (by kernel_rfl) ?_ _
          go_wp2_with fail
          go_meet
          exact ⟨gx, gy, rfl, rfl, Ax_a51.out, Ay_a51.out, Sa51.out⟩
        · rw [if_pos (by rfl)]
          refine wp_alloc45 rfl (some 5) rfl ?_
          intro Wa52 hr hb hs
          have Ay_a52 := Lib.hid (Ay_a47.out.below hb Ay_a47.out.lt)
          have Sa52 := Lib.hid (Sa47.out.trans (hb.mono Sa47.out.size))
          obtain ⟨gx, hgx⟩ : ∃ g, g = Wa47.heap.size := ⟨_, rfl⟩
          rw [← hgx] at hr ⊢
          have ngx : w0.heap.size ≤ gx := by rw [hgx]; exact Sa47.out.size
          have ne_y_x : gy < gx := by rw [hgx]; exact Ay_a47.out.lt
          have Ax_a52 := Lib.hid hr
          clear hb hr hs hgx Sa47 Ay_a47
          refine hK _ _ Sa52.out (fun _ => ?_)
          clear hK K
          try simp only [Act.put, List.setIfInBounds_toArray, List.set_cons_zero, List.set_cons_succ]
          refine wpAnyH_ready (rs := [3]) (by kernel_rfl) (by simp) ?_
          refine (AllReadyH.cons rfl (fun K hK => ?_) AllReadyH.nil)
          go_simp
          refine (HB.out _).mono ?_
          rintro e Wa53 ⟨rfl, hb⟩
          have Ay_a53 := Lib.hid (Ay_a52.out.below hb Ay_a52.out.lt)
          have Ax_a53 := Lib.hid (Ax_a52.out.below hb Ax_a52.out.lt)
          have Sa53 := Lib.hid (Sa52.out.trans (hb.mono Sa52.out.size))
          clear hb Sa52 Ay_a52 Ax_a52
          refine hK _ _ Sa53.out (fun _ => ?_)
          clear hK K
          try simp only [Act.put, List.setIfInBounds_toArray, List.set_cons_zero, List.set_cons_succ]
          refine wpAnyH_ready (rs := [6]) (by kernel_rfl) (by simp) ?_
          refine (AllReadyH.cons rfl (fun K hK => ?_) AllReadyH.nil)
          rw [if_pos (by rfl)]
          refine wp_store45 (.tmp 5) (.tmp 9) rfl rfl gx rfl (bitsN x) zeros rfl Ax_a53.out zeros_len (bitsN_len _) ?_
          intro Wa54 hr hg hs
          have Ay_a54 := Lib.hid (Ay_a53.out.grown hg (by simp; omega))
          have Ax_a54 := Lib.hid hr
          have Sa54 := Lib.hid (Sa53.out.grown hg Sa53.out.size (fun i hi => by cases hi; omega))
          clear hr hg hs Sa53 Ax_a53 Ay_a53
          refine hK _ _ Sa54.out (fun _ => ?_)
          clear hK K
          try simp only [Act.put, List.setIfInBounds_toArray, List.set_cons_zero, List.set_cons_succ]
          refine wpAnyH_ready (rs := [7]) (by kernel_rfl) (by simp) ?_
          refine (AllReadyH.cons rfl (fun K hK => ?_) AllReadyH.nil)
          rw [if_pos (by rfl)]
          refine wp_store45 (.tmp 6) (.tmp 11) rfl rfl gy rfl (bitsN y) zeros rfl Ay_a54.out zeros_len (bitsN_len _) ?_
          intro Wa55 hr hg hs
          have Ax_a55 := Lib.hid (Ax_a54.out.grown hg (by simp; omega))
          have Ay_a55 := Lib.hid hr
          have Sa55 := Lib.hid (Sa54.out.grown hg Sa54.out.size (fun i hi => by cases hi; omega))
          clear hr hg hs Sa54 Ay_a54 Ax_a54
          refine hK _ _ Sa55.out (fun _ => ?_)
          clear hK K
          try simp only [Act.put, List.setIfInBounds_toArray, List.set_cons_zero, List.set_cons_succ]
          refine wpAnyH_done (by kernel_rfl) ?_ _
          go_wp2_with fail
          go_meet
          exact ⟨gx, gy, rfl, rfl, Ax_a55.out, Ay_a55.out, Sa55.out⟩
      · rw [if_pos (by rfl)]
        refine wp_alloc45 rfl (some 5) rfl ?_
        intro Wa56 hr hb hs
        have Ay_a56 := Lib.hid (Ay_a46.out.below hb Ay_a46.out.lt)
        have Sa56 := Lib.hid (Sa46.out.trans (hb.mono Sa46.out.size))
        obtain ⟨gx, hgx⟩ : ∃ g, g = Wa46.heap.size := ⟨_, rfl⟩
        rw [← hgx] at hr ⊢
        have ngx : w0.heap.size ≤ gx := by rw [hgx]; exact Sa46.out.size
        have ne_y_x : gy < gx := by rw [hgx]; exact Ay_a46.out.lt
        have Ax_a56 := Lib.hid hr
        clear hb hr hs hgx Sa46 Ay_a46
        refine hK _ _ Sa56.out (fun _ => ?_)
        clear hK K
        try simp only [Act.put, List.setIfInBounds_toArray, List.set_cons_zero, List.set_cons_succ]
        refine wpAnyH_ready (rs := [1]) (by kernel_rfl) (by simp) ?_
        refine (AllReadyH.cons rfl (fun K hK => ?_) AllReadyH.nil)
        go_simp
        refine (HA.out _).mono ?_
        rintro e Wa57 ⟨rfl, hb⟩
        have Ay_a57 := Lib.hid (Ay_a56.out.below hb Ay_a56.out.lt)
        have Ax_a57 := Lib.hid (Ax_a56.out.below hb Ax_a56.out.lt)
        have Sa57 := Lib.hid (Sa56.out.trans (hb.mono Sa56.out.size))
        clear hb Sa56 Ay_a56 Ax_a56
        refine hK _ _ Sa57.out (fun _ => ?_)
        clear hK K
        try simp only [Act.put, List.setIfInBounds_toArray, List.set_cons_zero, List.set_cons_succ]
        refine wpAnyH_ready (rs := [3]) (by kernel_rfl) (by simp) ?_
        refine (AllReadyH.cons rfl (fun K hK => ?_) AllReadyH.nil)
        go_simp
        refine (HB.out _).mono ?_
        rintro e Wa58 ⟨rfl, hb⟩
        have Ay_a58 := Lib.hid (Ay_a57.out.below hb Ay_a57.out.lt)
        have Ax_a58 := Lib.hid (Ax_a57.out.below hb Ax_a57.out.lt)
        have Sa58 := Lib.hid (Sa57.out.trans (hb.mono Sa57.out.size))
        clear hb Sa57 Ay_a57 Ax_a57
        refine hK _ _ Sa58.out (fun _ => ?_)
        clear hK K
        try simp only [Act.put, List.setIfInBounds_toArray, List.set_cons_zero, List.set_cons_succ]
        refine wpAnyH_ready (rs := [6]) (by kernel_rfl) (by simp) ?_
        refine (AllReadyH.cons rfl (fun K hK => ?_) AllReadyH.nil)
        rw [if_pos (by rfl)]
        refine wp_store45 (.tmp 5) (.tmp 9) rfl rfl gx rfl (bitsN x) zeros rfl Ax_a58.out zeros_len (bitsN_len _) ?_
        intro Wa59 hr hg hs
        have Ay_a59 := Lib.hid (Ay_a58.out.grown hg (by simp; omega))
        have Ax_a59 := Lib.hid hr
        have Sa59 := Lib.hid (Sa58.out.grown hg Sa58.out.size (fun i hi => by cases hi; omega))
        clear hr hg hs Sa58 Ax_a58 Ay_a58
        refine hK _ _ Sa59.out (fun _ => ?_)
        clear hK K
        try simp only [Act.put, List.setIfInBounds_toArray, List.set_cons_zero, List.set_cons_succ]
        refine wpAnyH_ready (rs := [7]) (by kernel_rfl) (by simp) ?_
        refine (AllReadyH.cons rfl (fun K hK => ?_) AllReadyH.nil)
        rw [if_pos (by rfl)]
        refine wp_store45 (.tmp 6) (.tmp 11) rfl rfl gy rfl (bitsN y) zeros rfl Ay_a59.out zeros_len (bitsN_len _) ?_
        intro Wa60 hr hg hs
        have Ax_a60 := Lib.hid (Ax_a59.out.grown hg (by simp; omega))
        have Ay_a60 := Lib.hid hr
        have Sa60 := Lib.hid (Sa59.out.grown hg Sa59.out.size (fun i hi => by cases hi; omega))
        clear hr hg hs Sa59 Ay_a59 Ax_a59
        refine hK _ _ Sa60.out (fun _ => ?_)
        clear hK K
        try simp only [Act.put, List.setIfInBounds_toArray, List.set_cons_zero, List.set_cons_succ]
        refine wpAnyH_done (by kernel_rfl) ?_ _
        go_wp2_with fail
        go_meet
        exact ⟨gx, gy, rfl, rfl, Ax_a60.out, Ay_a60.out, Sa60.out⟩
  case rest =>
    obtain ⟨gx, gy, rfl, rfl, hrx, hry, hbel⟩ := hcut
    have B2 := Lib.hid (B0.out.trans (hbel.mono B0.out.size))
    have HI0 := Lib.hid (show Row wc gx 59 (iv (bitsN x)) ∧ Row wc gy 59 (iv (bitsN y)) ∧ Below w.heap.size w wc ∧ x / 2 ^ 128 = y / 2 ^ 128 from ⟨hrx, hry, B2.out, H128.out⟩)
    clear hrx hry hbel RA RB B0 HA HB B2 H128
    go_wp2_with fail
    go_loopw [7] (fun i wr => ∃ k : Nat, k ≤ 128 ∧ i = .int .i64 ((k : Int) - 1) ∧ Hid (Row wr gx 59 (iv (bitsN x)) ∧ Row wr gy 59 (iv (bitsN y)) ∧ Below w.heap.size w wr ∧ x / 2 ^ k = y / 2 ^ k)) (fun i _ => (intOf i + 1).toNat)
    case atStart => exact ⟨128, by omega, by go_num, HI0⟩
    rename World => wr
    obtain ⟨k, hk, rfl, HI⟩ := hrel
    clear HI0
    obtain ⟨hrx, hry, hbel, hxy⟩ := HI.out
    clear HI
    rcases Nat.eq_zero_or_pos k with rfl | hk0
    · have hxe : x = y := by simpa using hxy
      have HCM := Lib.hid (show cmpM x y = 0 by rw [hxe]; unfold cmpM; rw [if_neg (by omega), if_pos rfl])
      have BW := Lib.hid hbel
      clear hrx hry hbel hxy hxe
      rw [show ((0 : Nat) : Int) - 1 = -1 from rfl]
      go_wp2
      go_ret
      exact ⟨by rw [HCM.out]; rfl, BW.out⟩
    · obtain ⟨j, rfl⟩ : ∃ j, k = j + 1 := ⟨k - 1, by omega⟩
      rw [show ((j + 1 : Nat) : Int) - 1 = (j : Int) from by omega]
      obtain ⟨p, hp⟩ : ∃ p, x / 2 ^ j % 2 = p := ⟨_, rfl⟩
      obtain ⟨q, hq⟩ : ∃ p, y / 2 ^ j % 2 = p := ⟨_, rfl⟩
      obtain ⟨hsame, hdiff⟩ := cmp_bits hxy hp hq
      have hp1 : p ≤ 1 := by omega
      have hq1 : q ≤ 1 := by omega
      have RX := Lib.hid hrx
      have RY := Lib.hid hry
      have BW := Lib.hid hbel
      have hj260 : (j : Int) < 260 := by omega
      have HCX := Lib.hid (show ∀ w', Below wr.heap.size wr w' → w'.cell? ⟨gx, j, none⟩ = some (.int .i64 (p : Int)) from fun w' hb => by
        rw [← hp, ← bitsN_get x j (by omega)]; exact ((RX.out.below hb RX.out.lt).cell j).trans (iv_cell _ j (by rw [bitsN_len]; omega)))
      have HCY := Lib.hid (show ∀ w', Below wr.heap.size wr w' → w'.cell? ⟨gy, j, none⟩ = some (.int .i64 (q : Int)) from fun w' hb => by
        rw [← hq, ← bitsN_get y j (by omega)]; exact ((RY.out.below hb RY.out.lt).cell j).trans (iv_cell _ j (by rw [bitsN_len]; omega)))
      clear hrx hry hbel hxy hp hq
      by_cases hpq : p = q
      · subst hpq
        have HS := Lib.hid (hsame rfl)
        clear hsame hdiff
        go_wp2_with fail
        refine wp_region_held_drew (S := fun w' => Below wr.heap.size wr w') (by kernel_rfl) (Below.refl _ _).drew (fun hHeld => ?_)
        have S5 := Lib.hid hHeld
        clear hHeld
        generalize wr.drew = wd at S5 ⊢
        refine wpAnyH_take (i := 0) (oi := ⟨some 16, _, _, _, _, _⟩) (v := ?vc1) rfl (by kernel_rfl) (by kernel_rfl) (by kernel_rfl) (fun _ _ _ h => h) (Or.inl ⟨by rfl, ?yc1⟩) S5.out ?rc1
        case yc1 =>
          rintro w' hSw
          go_simp
          try with_reducible rfl
        try simp only [Act.put, List.setIfInBounds_toArray, List.set_cons_zero, List.set_cons_succ]
        refine wpAnyH_take (i := 1) (oi := ⟨some 17, _, _, _, _, _⟩) (v := ?vc2) rfl (by kernel_rfl) (by kernel_rfl) (by kernel_rfl) (fun _ _ _ h => h) (Or.inl ⟨by rfl, ?yc2⟩) S5.out ?rc2
        case yc2 =>
          rintro w' hSw
          go_simp
          try with_reducible rfl
        try simp only [Act.put, List.setIfInBounds_toArray, List.set_cons_zero, List.set_cons_succ]
        refine wpAnyH_take (i := 2) (oi := ⟨some 18, _, _, _, _, _⟩) (v := ?vc3) rfl (by kernel_rfl) (by kernel_rfl) (by kernel_rfl) (fun _ _ _ h => h) (Or.inl ⟨by rfl, ?yc3⟩) S5.out ?rc3
        case yc3 =>
          rintro w' hSw
          have c0 := HCX.out w' hSw
          go_simp
          try with_reducible rfl
        try simp only [Act.put, List.setIfInBounds_toArray, List.set_cons_zero, List.set_cons_succ]
        refine wpAnyH_take (i := 3) (oi := ⟨some 19, _, _, _, _, _⟩) (v := ?vc4) rfl (by kernel_rfl) (by kernel_rfl) (by kernel_rfl) (fun _ _ _ h => h) (Or.inl ⟨by rfl, ?yc4⟩) S5.out ?rc4
        case yc4 =>
          rintro w' hSw
          go_simp
          try with_reducible rfl
        try simp only [Act.put, List.setIfInBounds_toArray, List.set_cons_zero, List.set_cons_succ]
        refine wpAnyH_take (i := 4) (oi := ⟨some 20, _, _, _, _, _⟩) (v := ?vc5) rfl (by kernel_rfl) (by kernel_rfl) (by kernel_rfl) (fun _ _ _ h => h) (Or.inl ⟨by rfl, ?yc5⟩) S5.out ?rc5
        case yc5 =>
          rintro w' hSw
          go_simp
          try with_reducible rfl
        try simp only [Act.put, List.setIfInBounds_toArray, List.set_cons_zero, List.set_cons_succ]
        refine wpAnyH_take (i := 5) (oi := ⟨some 21, _, _, _, _, _⟩) (v := ?vc6) rfl (by kernel_rfl) (by kernel_rfl) (by kernel_rfl) (fun _ _ _ h => h) (Or.inl ⟨by rfl, ?yc6⟩) S5.out ?rc6
        case yc6 =>
          rintro w' hSw
          have c0 := HCY.out w' hSw
          go_simp
          try with_reducible rfl
        try simp only [Act.put, List.setIfInBounds_toArray, List.set_cons_zero, List.set_cons_succ]
        refine wpAnyH_take (i := 6) (oi := ⟨some 22, _, _, _, _, _⟩) (v := ?vc7) rfl (by kernel_rfl) (by kernel_rfl) (by kernel_rfl) (fun _ _ _ h => h) (Or.inl ⟨by rfl, ?yc7⟩) S5.out ?rc7
        case yc7 =>
          rintro w' hSw
          go_simp
          try with_reducible rfl
        try simp only [Act.put, List.setIfInBounds_toArray, List.set_cons_zero, List.set_cons_succ]
        refine wpAnyH_done (by kernel_rfl) ?_ _
        have HF := Lib.hid (show Row wd gx 59 (iv (bitsN x)) ∧ Row wd gy 59 (iv (bitsN y)) ∧ Below w.heap.size w wd ∧ x / 2 ^ j = y / 2 ^ j from ⟨RX.out.below S5.out RX.out.lt, RY.out.below S5.out RY.out.lt, BW.out.trans (S5.out.mono BW.out.size), HS.out⟩)
        clear S5 HCX HCY RX RY BW HS
        go_wp2
        exact ⟨⟨j, by omega, by go_num, HF⟩, by simp [intOf] <;> omega⟩
      · have HCM := Lib.hid (hdiff hpq)
        have hne : ¬ (p : Int) = (q : Int) := by omega
        have hneb : ((p : Int) != (q : Int)) = true := by simp; omega
        have hw : IntKind.i64.wrap ((p : Int) - (q : Int)) = (p : Int) - (q : Int) := by rw [IntKind.wrap_i64]; omega
        clear hsame hdiff hpq
        go_wp2_with fail
        refine wp_region_held_drew (S := fun w' => Below wr.heap.size wr w') (by kernel_rfl) (Below.refl _ _).drew (fun hHeld => ?_)
        have S5 := Lib.hid hHeld
        clear hHeld
        generalize wr.drew = wd at S5 ⊢
        refine wpAnyH_take (i := 0) (oi := ⟨some 16, _, _, _, _, _⟩) (v := ?ve1) rfl (by kernel_rfl) (by kernel_rfl) (by kernel_rfl) (fun _ _ _ h => h) (Or.inl ⟨by rfl, ?ye1⟩) S5.out ?re1
        case ye1 =>
          rintro w' hSw
          go_simp
          try with_reducible rfl
        try simp only [Act.put, List.setIfInBounds_toArray, List.set_cons_zero, List.set_cons_succ]
        refine wpAnyH_take (i := 1) (oi := ⟨some 17, _, _, _, _, _⟩) (v := ?ve2) rfl (by kernel_rfl) (by kernel_rfl) (by kernel_rfl) (fun _ _ _ h => h) (Or.inl ⟨by rfl, ?ye2⟩) S5.out ?re2
        case ye2 =>
          rintro w' hSw
          go_simp
          try with_reducible rfl
        try simp only [Act.put, List.setIfInBounds_toArray, List.set_cons_zero, List.set_cons_succ]
        refine wpAnyH_take (i := 2) (oi := ⟨some 18, _, _, _, _, _⟩) (v := ?ve3) rfl (by kernel_rfl) (by kernel_rfl) (by kernel_rfl) (fun _ _ _ h => h) (Or.inl ⟨by rfl, ?ye3⟩) S5.out ?re3
        case ye3 =>
          rintro w' hSw
          have c0 := HCX.out w' hSw
          go_simp
          try with_reducible rfl
        try simp only [Act.put, List.setIfInBounds_toArray, List.set_cons_zero, List.set_cons_succ]
        refine wpAnyH_take (i := 3) (oi := ⟨some 19, _, _, _, _, _⟩) (v := ?ve4) rfl (by kernel_rfl) (by kernel_rfl) (by kernel_rfl) (fun _ _ _ h => h) (Or.inl ⟨by rfl, ?ye4⟩) S5.out ?re4
        case ye4 =>
          rintro w' hSw
          go_simp
          try with_reducible rfl
        try simp only [Act.put, List.setIfInBounds_toArray, List.set_cons_zero, List.set_cons_succ]
        refine wpAnyH_take (i := 4) (oi := ⟨some 20, _, _, _, _, _⟩) (v := ?ve5) rfl (by kernel_rfl) (by kernel_rfl) (by kernel_rfl) (fun _ _ _ h => h) (Or.inl ⟨by rfl, ?ye5⟩) S5.out ?re5
        case ye5 =>
          rintro w' hSw
          go_simp
          try with_reducible rfl
        try simp only [Act.put, List.setIfInBounds_toArray, List.set_cons_zero, List.set_cons_succ]
        refine wpAnyH_take (i := 5) (oi := ⟨some 21, _, _, _, _, _⟩) (v := ?ve6) rfl (by kernel_rfl) (by kernel_rfl) (by kernel_rfl) (fun _ _ _ h => h) (Or.inl ⟨by rfl, ?ye6⟩) S5.out ?re6
        case ye6 =>
          rintro w' hSw
          have c0 := HCY.out w' hSw
          go_simp
          try with_reducible rfl
        try simp only [Act.put, List.setIfInBounds_toArray, List.set_cons_zero, List.set_cons_succ]
        refine wpAnyH_take (i := 6) (oi := ⟨some 22, _, _, _, _, _⟩) (v := ?ve7) rfl (by kernel_rfl) (by kernel_rfl) (by kernel_rfl) (fun _ _ _ h => h) (Or.inl ⟨by rfl, ?ye7⟩) S5.out ?re7
        case ye7 =>
          rintro w' hSw
          go_simp
          try with_reducible rfl
        try simp only [Act.put, List.setIfInBounds_toArray, List.set_cons_zero, List.set_cons_succ]
        refine wpAnyH_done (by kernel_rfl) ?_ _
        go_wp2_with fail
        refine wp_region_held_drew (S := fun w' => Below wr.heap.size wr w') (by kernel_rfl) S5.out.drew (fun hHeld => ?_)
        have S6 := Lib.hid hHeld
        clear hHeld S5
        generalize wd.drew = wd6 at S6 ⊢
        refine wpAnyH_take (i := 0) (oi := ⟨some 23, _, _, _, _, _⟩) (v := ?vd1) rfl (by kernel_rfl) (by kernel_rfl) (by kernel_rfl) (fun _ _ _ h => h) (Or.inl ⟨by rfl, ?yd1⟩) S6.out ?rd1
        case yd1 =>
          rintro w' hSw
          go_simp
          try with_reducible rfl
        try simp only [Act.put, List.setIfInBounds_toArray, List.set_cons_zero, List.set_cons_succ]
        refine wpAnyH_take (i := 1) (oi := ⟨some 24, _, _, _, _, _⟩) (v := ?vd2) rfl (by kernel_rfl) (by kernel_rfl) (by kernel_rfl) (fun _ _ _ h => h) (Or.inl ⟨by rfl, ?yd2⟩) S6.out ?rd2
        case yd2 =>
          rintro w' hSw
          go_simp
          try with_reducible rfl
        try simp only [Act.put, List.setIfInBounds_toArray, List.set_cons_zero, List.set_cons_succ]
        refine wpAnyH_take (i := 2) (oi := ⟨some 25, _, _, _, _, _⟩) (v := ?vd3) rfl (by kernel_rfl) (by kernel_rfl) (by kernel_rfl) (fun _ _ _ h => h) (Or.inl ⟨by rfl, ?yd3⟩) S6.out ?rd3
        case yd3 =>
          rintro w' hSw
          have c0 := HCX.out w' hSw
          go_simp
          try with_reducible rfl
        try simp only [Act.put, List.setIfInBounds_toArray, List.set_cons_zero, List.set_cons_succ]
        refine wpAnyH_take (i := 3) (oi := ⟨some 26, _, _, _, _, _⟩) (v := ?vd4) rfl (by kernel_rfl) (by kernel_rfl) (by kernel_rfl) (fun _ _ _ h => h) (Or.inl ⟨by rfl, ?yd4⟩) S6.out ?rd4
        case yd4 =>
          rintro w' hSw
          go_simp
          try with_reducible rfl
        try simp only [Act.put, List.setIfInBounds_toArray, List.set_cons_zero, List.set_cons_succ]
        refine wpAnyH_take (i := 4) (oi := ⟨some 27, _, _, _, _, _⟩) (v := ?vd5) rfl (by kernel_rfl) (by kernel_rfl) (by kernel_rfl) (fun _ _ _ h => h) (Or.inl ⟨by rfl, ?yd5⟩) S6.out ?rd5
        case yd5 =>
          rintro w' hSw
          go_simp
          try with_reducible rfl
        try simp only [Act.put, List.setIfInBounds_toArray, List.set_cons_zero, List.set_cons_succ]
        refine wpAnyH_take (i := 5) (oi := ⟨some 28, _, _, _, _, _⟩) (v := ?vd6) rfl (by kernel_rfl) (by kernel_rfl) (by kernel_rfl) (fun _ _ _ h => h) (Or.inl ⟨by rfl, ?yd6⟩) S6.out ?rd6
        case yd6 =>
          rintro w' hSw
          have c0 := HCY.out w' hSw
          go_simp
          try with_reducible rfl
        try simp only [Act.put, List.setIfInBounds_toArray, List.set_cons_zero, List.set_cons_succ]
        refine wpAnyH_take (i := 6) (oi := ⟨some 29, _, _, _, _, _⟩) (v := ?vd7) rfl (by kernel_rfl) (by kernel_rfl) (by kernel_rfl) (fun _ _ _ h => h) (Or.inl ⟨by rfl, ?yd7⟩) S6.out ?rd7
        case yd7 =>
          rintro w' hSw
          go_simp
          try with_reducible rfl
        try simp only [Act.put, List.setIfInBounds_toArray, List.set_cons_zero, List.set_cons_succ]
        refine wpAnyH_take (i := 7) (oi := ⟨some 4, _, _, _, _, _⟩) (v := ?vd8) rfl (by kernel_rfl) (by kernel_rfl) (by kernel_rfl) (fun _ _ _ h => h) (Or.inl ⟨by rfl, ?yd8⟩) S6.out ?rd8
        case yd8 =>
          rintro w' hSw
          go_simp
          try with_reducible rfl
        try simp only [Act.put, List.setIfInBounds_toArray, List.set_cons_zero, List.set_cons_succ]
        refine wpAnyH_done (by kernel_rfl) ?_ _
        go_wp2
        go_ret
        exact ⟨by rw [HCM.out]; rfl, BW.out.trans (S6.out.mono BW.out.size)⟩
end Go.Proofs.Ytbmfijcckdkmdaa.Wi
