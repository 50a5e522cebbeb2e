/-
  The reference's Sub.
-/
import Derived.Test.YtbmfijcckdkmdaaWiG
namespace Go.Proofs.Ytbmfijcckdkmdaa.Wi
set_option maxRecDepth 100000
open Go.RowKit Go.Proofs.Ytbmfijcckdkmdaa.Wd

theorem Bits_one (w : World) : Calls Try.prog 41 #[.agg #[.int .u64 0, .int .u64 1]] w fun e w' => e = .returned (arr (bitsN 1)) ∧ Below w.heap.size w w' :=
  Bits_low 1 w (by decide)
/-- what the last line reads -/
structure SubS (z gz go gA gB gR : Nat) (ah al bh bl : Nat) (w : World) : Prop where
  rz : Row w gz 59 (iv (bitsN z))
  ro : Row w go 59 (iv (bitsN 1))
  ra : Row w gA 33 [.int .u64 (ah : Int), .int .u64 (al : Int)]
  rb : Row w gB 33 [.int .u64 (bh : Int), .int .u64 (bl : Int)]
  lt : gA < gR ∧ gB < gR ∧ gR < gz ∧ gR < go
theorem SubS.below {z gz go gA gB gR ah al bh bl : Nat} {w w' : World} (h : SubS z gz go gA gB gR ah al bh bl w) (hb : Below w.heap.size w w') : SubS z gz go gA gB gR ah al bh bl w' :=
  ⟨h.rz.below hb h.rz.lt, h.ro.below hb h.ro.lt, h.ra.below hb h.ra.lt, h.rb.below hb h.rb.lt, h.lt⟩
theorem SubS.far {z gz go gA gB gR ah al bh bl : Nat} {w : World} (h : SubS z gz go gA gB gR ah al bh bl w) (i : Nat) (u : Value) : SubS z gz go gA gB gR ah al bh bl (w.setCell ⟨gR, i, none⟩ u) :=
  have hl := h.lt
  ⟨h.rz.far (by dsimp only; omega) u, h.ro.far (by dsimp only; omega) u, h.ra.far (by dsimp only; omega) u, h.rb.far (by dsimp only; omega) u, hl⟩

set_option maxHeartbeats 8000000 in
theorem Sub_ref (ah al bh bl h l c : Nat) (w : World) (h1 : ah < 18446744073709551616) (h2 : al < 18446744073709551616) (h3 : bh < 18446744073709551616) (h4 : bl < 18446744073709551616) (hh : h < 18446744073709551616) (hl : l < 18446744073709551616) (hc : c = 1 ↔ bh * 18446744073709551616 + bl ≤ ah * 18446744073709551616 + al)
    (he : ah * 18446744073709551616 + al + 340282366920938463463374607431768211456 = c * 340282366920938463463374607431768211456 + (h * 18446744073709551616 + l) + (bh * 18446744073709551616 + bl)) :
    Calls Try.prog 29 #[.agg #[.int .u64 (ah : Int), .int .u64 (al : Int)], .agg #[.int .u64 (bh : Int), .int .u64 (bl : Int)]] w fun e w' => e = .returned (.tuple #[.agg #[.int .u64 (h : Int), .int .u64 (l : Int)], .bool (decide (c = 1))]) ∧ Below w.heap.size w w' := by
  have n1 := not_u64 bh h3
  have n2 := not_u64 bl h4
  obtain ⟨ch, hch⟩ : ∃ x, x = 18446744073709551615 - bh := ⟨_, rfl⟩
  obtain ⟨cl, hcl⟩ : ∃ x, x = 18446744073709551615 - bl := ⟨_, rfl⟩
  rw [← hch] at n1
  rw [← hcl] at n2
  obtain ⟨x, hx⟩ : ∃ x, x = ah * 18446744073709551616 + al := ⟨_, rfl⟩
  obtain ⟨y, hy⟩ : ∃ y, y = ch * 18446744073709551616 + cl := ⟨_, rfl⟩
  obtain ⟨z, hz⟩ : ∃ z, z = bh * 18446744073709551616 + bl := ⟨_, rfl⟩
  have hyz : y + z + 1 = 340282366920938463463374607431768211456 := by omega
  have HA := Lib.hid (fun w => Bits_any ah al w h1 h2)
  have HB := Lib.hid (fun w => Bits_any ch cl w (by omega) (by omega))
  have HP := Lib.hid (fun w => plus_ref x y 0 w (by omega))
  have HQ := Lib.hid (fun w => plus_ref (x + y) 1 0 w (by omega))
  have HE := Lib.hid Bits_one
  obtain ⟨s, hs⟩ : ∃ s, cmpM x z = s := ⟨_, rfl⟩
  have HM : Hid (∀ w, Calls Try.prog 43 #[.agg #[.int .u64 (ah : Int), .int .u64 (al : Int)], .agg #[.int .u64 (bh : Int), .int .u64 (bl : Int)]] w fun e w' => e = .returned (.int .i64 s) ∧ Below w.heap.size w w') := Lib.hid (fun w => by
    rw [← hs, hx, hz]; exact Cmp_ref ah al bh bl w h1 h2 h3 h4)
  rw [← hx] at HA he hc
  rw [← hy] at HB
  rw [← hz] at he hc
  rw [Nat.pow_zero, Nat.mul_one] at HP HQ
  have HO := Lib.hid (fun w => Of_any (x + y + 1) h l w (by clear hx hy hz hch hcl; omega) (by clear hx hy hz hch hcl; omega))
  have hsc : decide (0 ≤ s) = decide (c = 1) := by
    rw [Bool.eq_iff_iff, decide_eq_true_eq, decide_eq_true_eq, hc, ← hs]
    unfold cmpM
    repeat' split
    all_goals omega
  have HSC := Lib.hid hsc
  clear hx hy hz hch hcl hyz he hs hc hsc
  have hsg : IntKind.u64.signed = false := rfl
  go_enter Try.func29, Try.ntmps29
  go_upto_region 2 with fail
  have RA := Lib.hid (((row_last w w.heap.size 33 [.int .u64 (ah : Int), .int .u64 (al : Int)] rfl).alloc (.cells #[.int .u64 (bh : Int), .int .u64 (bl : Int)] 33)).alloc (.cells #[.int .u64 0, .int .u64 0] 33) |>.alloc (.cells #[.int .u64 (ch : Int), .int .u64 (cl : Int)] 33))
  have RB := Lib.hid (((row_last (w.alloc (.cells #[.int .u64 (ah : Int), .int .u64 (al : Int)] 33)) (w.heap.size + 1) 33 [.int .u64 (bh : Int), .int .u64 (bl : Int)] (by simp)).alloc (.cells #[.int .u64 0, .int .u64 0] 33)).alloc (.cells #[.int .u64 (ch : Int), .int .u64 (cl : Int)] 33))
  have RR := Lib.hid ((row_last ((w.alloc (.cells #[.int .u64 (ah : Int), .int .u64 (al : Int)] 33)).alloc (.cells #[.int .u64 (bh : Int), .int .u64 (bl : Int)] 33)) (w.heap.size + 1 + 1) 33 [.int .u64 0, .int .u64 0] (by simp)).alloc (.cells #[.int .u64 (ch : Int), .int .u64 (cl : Int)] 33))
  have RT := Lib.hid (row_last (((w.alloc (.cells #[.int .u64 (ah : Int), .int .u64 (al : Int)] 33)).alloc (.cells #[.int .u64 (bh : Int), .int .u64 (bl : Int)] 33)).alloc (.cells #[.int .u64 0, .int .u64 0] 33)) (w.heap.size + 1 + 1 + 1) 33 [.int .u64 (ch : Int), .int .u64 (cl : Int)] (by simp))
  have B0 := Lib.hid (((((Below.refl w.heap.size w).alloc (Nat.le_refl _) (.cells #[.int .u64 (ah : Int), .int .u64 (al : Int)] 33)).alloc (by simp) (.cells #[.int .u64 (bh : Int), .int .u64 (bl : Int)] 33)).alloc (by simp; omega) (.cells #[.int .u64 0, .int .u64 0] 33)).alloc (by simp; omega) (.cells #[.int .u64 (ch : Int), .int .u64 (cl : Int)] 33))
  generalize ((((w.alloc (.cells #[.int .u64 (ah : Int), .int .u64 (al : Int)] 33)).alloc (.cells #[.int .u64 (bh : Int), .int .u64 (bl : Int)] 33)).alloc (.cells #[.int .u64 0, .int .u64 0] 33)).alloc (.cells #[.int .u64 (ch : Int), .int .u64 (cl : Int)] 33)) = w0 at RA RB RR RT B0 ⊢
  go_cut [7] from 16 to 20 (fun t wx => AddC (x + y) w0 wx t)
  case first =>
    refine wp_region_held_drew (S := fun w' => Below w0.heap.size w0 w') (by kernel_rfl) (Below.refl _ _).drew (fun hHeld => ?_)
    have S0 := Lib.hid hHeld
    clear hHeld
    generalize w0.drew = wd at S0 ⊢
    refine wpAnyH_take (i := 0) (oi := ⟨some 16, _, _, _, _, _⟩) (v := ?va1) rfl (by kernel_rfl) (by kernel_rfl) (by kernel_rfl) (fun _ _ _ h => h) (Or.inl ⟨by rfl, ?ya1⟩) S0.out ?ra1
    case ya1 =>
      rintro w' hSw
      have k0 := (RA.out.below hSw RA.out.lt).cell 0
      have k1 := (RA.out.below hSw RA.out.lt).cell 1
      simp at k0 k1
      go_simp
      try with_reducible rfl
    try simp only [Act.put, List.setIfInBounds_toArray, List.set_cons_zero, List.set_cons_succ]
    refine wpAnyH_take (i := 2) (oi := ⟨some 18, _, _, _, _, _⟩) (v := ?va2) rfl (by kernel_rfl) (by kernel_rfl) (by kernel_rfl) (fun _ _ _ h => h) (Or.inl ⟨by rfl, ?ya2⟩) S0.out ?ra2
    case ya2 =>
      rintro w' hSw
      have k0 := (RT.out.below hSw RT.out.lt).cell 0
      have k1 := (RT.out.below hSw RT.out.lt).cell 1
      simp at k0 k1
      go_simp
      try with_reducible rfl
    try simp only [Act.put, List.setIfInBounds_toArray, List.set_cons_zero, List.set_cons_succ]
    refine wpAnyH_ready (rs := [1, 5]) (by kernel_rfl) (by simp) ?_
    refine (AllReadyH.cons rfl (fun K hK => ?_) (AllReadyH.cons rfl (fun K hK => ?_) AllReadyH.nil))
    · go_simp
      refine (HA.out _).mono ?_
      rintro e Wa3 ⟨rfl, hb⟩
      have Sa3 := Lib.hid (S0.out.trans (hb.mono S0.out.size))
      clear hb S0 
      refine hK _ _ Sa3.out (fun _ => ?_)
      clear hK K
      try simp only [Act.put, List.setIfInBounds_toArray, List.set_cons_zero, List.set_cons_succ]
      refine wpAnyH_ready (rs := [3, 5]) (by kernel_rfl) (by simp) ?_
      refine (AllReadyH.cons rfl (fun K hK => ?_) (AllReadyH.cons rfl (fun K hK => ?_) AllReadyH.nil))
      · go_simp
        refine (HB.out _).mono ?_
        rintro e Wa4 ⟨rfl, hb⟩
        have Sa4 := Lib.hid (Sa3.out.trans (hb.mono Sa3.out.size))
        clear hb Sa3 
        refine hK _ _ Sa4.out (fun _ => ?_)
        clear hK K
        try simp only [Act.put, List.setIfInBounds_toArray, List.set_cons_zero, List.set_cons_succ]
        refine wpAnyH_ready (rs := [4, 5]) (by kernel_rfl) (by simp) ?_
        refine (AllReadyH.cons rfl (fun K hK => ?_) (AllReadyH.cons rfl (fun K hK => ?_) AllReadyH.nil))
        · go_simp
          refine (HP.out _).mono ?_
          rintro e Wa5 ⟨rfl, hb⟩
          have Sa5 := Lib.hid (Sa4.out.trans (hb.mono Sa4.out.size))
          clear hb Sa4 
          refine hK _ _ Sa5.out (fun _ => ?_)
          clear hK K
          try simp only [Act.put, List.setIfInBounds_toArray, List.set_cons_zero, List.set_cons_succ]
          refine wpAnyH_ready (rs := [5]) (by kernel_rfl) (by simp) ?_
          refine (AllReadyH.cons rfl (fun K hK => ?_) AllReadyH.nil)
          rw [if_pos (by rfl)]
          refine wp_alloc45 rfl (some 7) rfl ?_
          intro Wa6 hr hb hs
          have Sa6 := Lib.hid (Sa5.out.trans (hb.mono Sa5.out.size))
          obtain ⟨gz, hgz⟩ : ∃ g, g = Wa5.heap.size := ⟨_, rfl⟩
          rw [← hgz] at hr ⊢
          have ngz : w0.heap.size ≤ gz := by rw [hgz]; exact Sa5.out.size
          have Az_a6 := Lib.hid hr
          clear hb hr hs hgz Sa5 
          refine hK _ _ Sa6.out (fun _ => ?_)
          clear hK K
          try simp only [Act.put, List.setIfInBounds_toArray, List.set_cons_zero, List.set_cons_succ]
          refine wpAnyH_ready (rs := [6]) (by kernel_rfl) (by simp) ?_
          refine (AllReadyH.cons rfl (fun K hK => ?_) AllReadyH.nil)
          rw [if_pos (by rfl)]
          refine wp_store45 (.tmp 7) (.tmp 20) rfl rfl gz rfl (bitsN (x + y)) zeros rfl Az_a6.out zeros_len (bitsN_len _) ?_
          intro Wa7 hr hg hs
          have Az_a7 := Lib.hid hr
          have Sa7 := Lib.hid (Sa6.out.grown hg Sa6.out.size (fun i hi => by cases hi; omega))
          clear hr hg hs Sa6 Az_a6
          refine hK _ _ Sa7.out (fun _ => ?_)
          clear hK K
          try simp only [Act.put, List.setIfInBounds_toArray, List.set_cons_zero, List.set_cons_succ]
          refine wpAnyH_done (by kernel_rfl) ?_ _
          go_wp2_with fail
          go_meet
          exact ⟨gz, rfl, Az_a7.out, ngz, Sa7.out⟩
        · rw [if_pos (by rfl)]
          refine wp_alloc45 rfl (some 7) rfl ?_
          intro Wa8 hr hb hs
          have Sa8 := Lib.hid (Sa4.out.trans (hb.mono Sa4.out.size))
          obtain ⟨gz, hgz⟩ : ∃ g, g = Wa4.heap.size := ⟨_, rfl⟩
          rw [← hgz] at hr ⊢
          have ngz : w0.heap.size ≤ gz := by rw [hgz]; exact Sa4.out.size
          have Az_a8 := Lib.hid hr
          clear hb hr hs hgz Sa4 
          refine hK _ _ Sa8.out (fun _ => ?_)
          clear hK K
          try simp only [Act.put, List.setIfInBounds_toArray, List.set_cons_zero, List.set_cons_succ]
          refine wpAnyH_ready (rs := [4]) (by kernel_rfl) (by simp) ?_
          refine (AllReadyH.cons rfl (fun K hK => ?_) AllReadyH.nil)
          go_simp
          refine (HP.out _).mono ?_
          rintro e Wa9 ⟨rfl, hb⟩
          have Az_a9 := Lib.hid (Az_a8.out.below hb Az_a8.out.lt)
          have Sa9 := Lib.hid (Sa8.out.trans (hb.mono Sa8.out.size))
          clear hb Sa8 Az_a8
          refine hK _ _ Sa9.out (fun _ => ?_)
          clear hK K
          try simp only [Act.put, List.setIfInBounds_toArray, List.set_cons_zero, List.set_cons_succ]
          refine wpAnyH_ready (rs := [6]) (by kernel_rfl) (by simp) ?_
          refine (AllReadyH.cons rfl (fun K hK => ?_) AllReadyH.nil)
          rw [if_pos (by rfl)]
          refine wp_store45 (.tmp 7) (.tmp 20) rfl rfl gz rfl (bitsN (x + y)) zeros rfl Az_a9.out zeros_len (bitsN_len _) ?_
          intro Wa10 hr hg hs
          have Az_a10 := Lib.hid hr
          have Sa10 := Lib.hid (Sa9.out.grown hg Sa9.out.size (fun i hi => by cases hi; omega))
          clear hr hg hs Sa9 Az_a9
          refine hK _ _ Sa10.out (fun _ => ?_)
          clear hK K
          try simp only [Act.put, List.setIfInBounds_toArray, List.set_cons_zero, List.set_cons_succ]
          refine wpAnyH_done (by kernel_rfl) ?_ _
          go_wp2_with fail
          go_meet
          exact ⟨gz, rfl, Az_a10.out, ngz, Sa10.out⟩
      · rw [if_pos (by rfl)]
        refine wp_alloc45 rfl (some 7) rfl ?_
        intro Wa11 hr hb hs
        have Sa11 := Lib.hid (Sa3.out.trans (hb.mono Sa3.out.size))
        obtain ⟨gz, hgz⟩ : ∃ g, g = Wa3.heap.size := ⟨_, rfl⟩
        rw [← hgz] at hr ⊢
        have ngz : w0.heap.size ≤ gz := by rw [hgz]; exact Sa3.out.size
        have Az_a11 := Lib.hid hr
        clear hb hr hs hgz Sa3 
        refine hK _ _ Sa11.out (fun _ => ?_)
        clear hK K
        try simp only [Act.put, List.setIfInBounds_toArray, List.set_cons_zero, List.set_cons_succ]
        refine wpAnyH_ready (rs := [3]) (by kernel_rfl) (by simp) ?_
        refine (AllReadyH.cons rfl (fun K hK => ?_) AllReadyH.nil)
        go_simp
        refine (HB.out _).mono ?_
        rintro e Wa12 ⟨rfl, hb⟩
        have Az_a12 := Lib.hid (Az_a11.out.below hb Az_a11.out.lt)
        have Sa12 := Lib.hid (Sa11.out.trans (hb.mono Sa11.out.size))
        clear hb Sa11 Az_a11
        refine hK _ _ Sa12.out (fun _ => ?_)
        clear hK K
        try simp only [Act.put, List.setIfInBounds_toArray, List.set_cons_zero, List.set_cons_succ]
        refine wpAnyH_ready (rs := [4]) (by kernel_rfl) (by simp) ?_
        refine (AllReadyH.cons rfl (fun K hK => ?_) AllReadyH.nil)
        go_simp
        refine (HP.out _).mono ?_
        rintro e Wa13 ⟨rfl, hb⟩
        have Az_a13 := Lib.hid (Az_a12.out.below hb Az_a12.out.lt)
        have Sa13 := Lib.hid (Sa12.out.trans (hb.mono Sa12.out.size))
        clear hb Sa12 Az_a12
        refine hK _ _ Sa13.out (fun _ => ?_)
        clear hK K
        try simp only [Act.put, List.setIfInBounds_toArray, List.set_cons_zero, List.set_cons_succ]
        refine wpAnyH_ready (rs := [6]) (by kernel_rfl) (by simp) ?_
        refine (AllReadyH.cons rfl (fun K hK => ?_) AllReadyH.nil)
        rw [if_pos (by rfl)]
        refine wp_store45 (.tmp 7) (.tmp 20) rfl rfl gz rfl (bitsN (x + y)) zeros rfl Az_a13.out zeros_len (bitsN_len _) ?_
        intro Wa14 hr hg hs
        have Az_a14 := Lib.hid hr
        have Sa14 := Lib.hid (Sa13.out.grown hg Sa13.out.size (fun i hi => by cases hi; omega))
        clear hr hg hs Sa13 Az_a13
        refine hK _ _ Sa14.out (fun _ => ?_)
        clear hK K
        try simp only [Act.put, List.setIfInBounds_toArray, List.set_cons_zero, List.set_cons_succ]
        refine wpAnyH_done (by kernel_rfl) ?_ _
        go_wp2_with fail
        go_meet
        exact ⟨gz, rfl, Az_a14.out, ngz, Sa14.out⟩
    · rw [if_pos (by rfl)]
      refine wp_alloc45 rfl (some 7) rfl ?_
      intro Wa15 hr hb hs
      have Sa15 := Lib.hid (S0.out.trans (hb.mono S0.out.size))
      obtain ⟨gz, hgz⟩ : ∃ g, g = wd.heap.size := ⟨_, rfl⟩
      rw [← hgz] at hr ⊢
      have ngz : w0.heap.size ≤ gz := by rw [hgz]; exact S0.out.size
      have Az_a15 := Lib.hid hr
      clear hb hr hs hgz S0 
      refine hK _ _ Sa15.out (fun _ => ?_)
      clear hK K
      try simp only [Act.put, List.setIfInBounds_toArray, List.set_cons_zero, List.set_cons_succ]
      refine wpAnyH_ready (rs := [1]) (by kernel_rfl) (by simp) ?_
      refine (AllReadyH.cons rfl (fun K hK => ?_) AllReadyH.nil)
      go_simp
      refine (HA.out _).mono ?_
      rintro e Wa16 ⟨rfl, hb⟩
      have Az_a16 := Lib.hid (Az_a15.out.below hb Az_a15.out.lt)
      have Sa16 := Lib.hid (Sa15.out.trans (hb.mono Sa15.out.size))
      clear hb Sa15 Az_a15
      refine hK _ _ Sa16.out (fun _ => ?_)
      clear hK K
      try simp only [Act.put, List.setIfInBounds_toArray, List.set_cons_zero, List.set_cons_succ]
      refine wpAnyH_ready (rs := [3]) (by kernel_rfl) (by simp) ?_
      refine (AllReadyH.cons rfl (fun K hK => ?_) AllReadyH.nil)
      go_simp
      refine (HB.out _).mono ?_
      rintro e Wa17 ⟨rfl, hb⟩
      have Az_a17 := Lib.hid (Az_a16.out.below hb Az_a16.out.lt)
      have Sa17 := Lib.hid (Sa16.out.trans (hb.mono Sa16.out.size))
      clear hb Sa16 Az_a16
      refine hK _ _ Sa17.out (fun _ => ?_)
      clear hK K
      try simp only [Act.put, List.setIfInBounds_toArray, List.set_cons_zero, List.set_cons_succ]
      refine wpAnyH_ready (rs := [4]) (by kernel_rfl) (by simp) ?_
      refine (AllReadyH.cons rfl (fun K hK => ?_) AllReadyH.nil)
      go_simp
      refine (HP.out _).mono ?_
      rintro e Wa18 ⟨rfl, hb⟩
      have Az_a18 := Lib.hid (Az_a17.out.below hb Az_a17.out.lt)
      have Sa18 := Lib.hid (Sa17.out.trans (hb.mono Sa17.out.size))
      clear hb Sa17 Az_a17
      refine hK _ _ Sa18.out (fun _ => ?_)
      clear hK K
      try simp only [Act.put, List.setIfInBounds_toArray, List.set_cons_zero, List.set_cons_succ]
      refine wpAnyH_ready (rs := [6]) (by kernel_rfl) (by simp) ?_
      refine (AllReadyH.cons rfl (fun K hK => ?_) AllReadyH.nil)
      rw [if_pos (by rfl)]
      refine wp_store45 (.tmp 7) (.tmp 20) rfl rfl gz rfl (bitsN (x + y)) zeros rfl Az_a18.out zeros_len (bitsN_len _) ?_
      intro Wa19 hr hg hs
      have Az_a19 := Lib.hid hr
      have Sa19 := Lib.hid (Sa18.out.grown hg Sa18.out.size (fun i hi => by cases hi; omega))
      clear hr hg hs Sa18 Az_a18
      refine hK _ _ Sa19.out (fun _ => ?_)
      clear hK K
      try simp only [Act.put, List.setIfInBounds_toArray, List.set_cons_zero, List.set_cons_succ]
      refine wpAnyH_done (by kernel_rfl) ?_ _
      go_wp2_with fail
      go_meet
      exact ⟨gz, rfl, Az_a19.out, ngz, Sa19.out⟩
  case rest =>
    obtain ⟨g, rfl, hrow, hge, hbel⟩ := hcut
    have hlt0 := RR.out.lt
    have RZ := Lib.hid hrow
    have RA2 := Lib.hid (RA.out.below hbel RA.out.lt)
    have RB2 := Lib.hid (RB.out.below hbel RB.out.lt)
    have RR2 := Lib.hid (RR.out.below hbel RR.out.lt)
    have B2 := Lib.hid (B0.out.trans (hbel.mono B0.out.size))
    clear hrow hbel RA RB RR RT B0 HA HB HP n1 n2
    go_wp2_with fail
    refine (HE.out _).mono ?_
    rintro e w3 ⟨rfl, hb⟩
    have RZ3 := Lib.hid (RZ.out.below hb RZ.out.lt)
    have RA3 := Lib.hid (RA2.out.below hb RA2.out.lt)
    have RB3 := Lib.hid (RB2.out.below hb RB2.out.lt)
    have RR3 := Lib.hid (RR2.out.below hb RR2.out.lt)
    have B3 := Lib.hid (B2.out.trans (hb.mono B2.out.size))
    clear hb RZ RA2 RB2 RR2 B2 HE
    obtain ⟨g8, hg8⟩ : ∃ g8, g8 = w3.heap.size := ⟨_, rfl⟩
    have HG8 := Lib.hid hg8
    have hlt8 : g < g8 := by rw [hg8]; exact RZ3.out.lt
    clear hg8
    have hgl : w.heap.size + 1 + 1 < g := by omega
    go_wp2_with (first
      | (refine wpList_alloc45 rfl rfl (some 8) rfl g8 HG8.out ?_; intro w4 hr4 hb4 hs4; have RZ4 := Lib.hid (RZ3.out.below hb4 RZ3.out.lt); have RA4 := Lib.hid (RA3.out.below hb4 RA3.out.lt); have RB4 := Lib.hid (RB3.out.below hb4 RB3.out.lt); have RR4 := Lib.hid (RR3.out.below hb4 RR3.out.lt); have RO4 := Lib.hid hr4; have B4 := Lib.hid (B3.out.trans (hb4.mono B3.out.size)); clear hr4 hb4 hs4)
      | (refine wpList_store45 rfl (.tmp 8) (.tmp 22) rfl rfl g8 rfl (bitsN 1) zeros rfl RO4.out zeros_len (bitsN_len _) ?_; intro w5 hr5 hg5 hs5; have RZ5 := Lib.hid (RZ4.out.grown hg5 (by simp; omega)); have RA5 := Lib.hid (RA4.out.grown hg5 (by simp; omega)); have RB5 := Lib.hid (RB4.out.grown hg5 (by simp; omega)); have RR5 := Lib.hid (RR4.out.grown hg5 (by simp; omega)); have RO5 := Lib.hid hr5; have B5 := Lib.hid (B4.out.grown hg5 B4.out.size (fun i hi => by cases hi; omega)); clear hr5 hg5 hs5))
    have HS0 := Lib.hid (show SubS (x + y) g g8 w.heap.size (w.heap.size + 1) (w.heap.size + 1 + 1) ah al bh bl w5 from ⟨RZ5.out, RO5.out, RA5.out, RB5.out, by omega⟩)
    refine wp_region_held_drew (S := fun w' => SubS (x + y) g g8 w.heap.size (w.heap.size + 1) (w.heap.size + 1 + 1) ah al bh bl w') (by kernel_rfl) (show SubS _ _ _ _ _ _ _ _ _ _ w5.drew from ⟨HS0.out.rz.drew, HS0.out.ro.drew, HS0.out.ra.drew, HS0.out.rb.drew, HS0.out.lt⟩) (fun hHeld => ?_)
    have S6 := Lib.hid hHeld
    have RR6 := Lib.hid RR5.out.drew
    have B6 := Lib.hid B5.out.drew
    clear hHeld RZ5 RO5 RA5 RB5 RR5 B5 HS0 RZ4 RO4 RA4 RB4 RR4 B4 RZ3 RA3 RB3 RR3 B3
    generalize w5.drew = w6 at S6 RR6 B6 ⊢
    have hsc := HSC.out
    refine wpAnyH_take (i := 0) (oi := ⟨some 23, _, _, _, _, _⟩) rfl (by kernel_rfl) (by kernel_rfl) (by kernel_rfl) (fun _ _ _ h => h) (yieldsIf_load45 (by rfl) (.tmp 7) rfl g ?xb1 (bitsN (x + y)) (fun w' hS => hS.rz) (bitsN_len _)) S6.out ?rb1
    case xb1 => first | rfl | (simp [Act.eval, go_sem]; done)
    try simp only [Act.put, List.setIfInBounds_toArray, List.set_cons_zero, List.set_cons_succ]
    refine wpAnyH_take (i := 1) (oi := ⟨some 24, _, _, _, _, _⟩) rfl (by kernel_rfl) (by kernel_rfl) (by kernel_rfl) (fun _ _ _ h => h) (yieldsIf_load45 (by rfl) (.tmp 8) rfl g8 ?xb2 (bitsN 1) (fun w' hS => hS.ro) (bitsN_len _)) S6.out ?rb2
    case xb2 => first | rfl | (simp [Act.eval, go_sem]; done)
    try simp only [Act.put, List.setIfInBounds_toArray, List.set_cons_zero, List.set_cons_succ]
    refine wpAnyH_take (i := 4) (oi := ⟨some 27, _, _, _, _, _⟩) (v := ?vb3) rfl (by kernel_rfl) (by kernel_rfl) (by kernel_rfl) (fun _ _ _ h => h) (Or.inl ⟨by rfl, ?yb3⟩) S6.out ?rb3
    case yb3 =>
      rintro w' hSw
      have k0 := hSw.ra.cell 0
      have k1 := hSw.ra.cell 1
      simp at k0 k1
      go_simp
      try with_reducible rfl
    try simp only [Act.put, List.setIfInBounds_toArray, List.set_cons_zero, List.set_cons_succ]
    refine wpAnyH_take (i := 5) (oi := ⟨some 28, _, _, _, _, _⟩) (v := ?vb4) rfl (by kernel_rfl) (by kernel_rfl) (by kernel_rfl) (fun _ _ _ h => h) (Or.inl ⟨by rfl, ?yb4⟩) S6.out ?rb4
    case yb4 =>
      rintro w' hSw
      have k0 := hSw.rb.cell 0
      have k1 := hSw.rb.cell 1
      simp at k0 k1
      go_simp
      try with_reducible rfl
    try simp only [Act.put, List.setIfInBounds_toArray, List.set_cons_zero, List.set_cons_succ]
    refine wpAnyH_ready (rs := [2]) (by kernel_rfl) (by simp) ?_
    refine (AllReadyH.cons rfl (fun K hK => ?_) AllReadyH.nil)
    go_simp
    refine (HQ.out _).mono ?_
    rintro e Wb5 ⟨rfl, hb⟩
    have RRb5 := Lib.hid (RR6.out.below hb RR6.out.lt)
    have Bb5 := Lib.hid (B6.out.trans (hb.mono B6.out.size))
    have Sb5 := Lib.hid (SubS.below S6.out hb)
    clear hb RR6 B6 S6
    refine hK _ _ Sb5.out (fun _ => ?_)
    clear hK K
    try simp only [Act.put, List.setIfInBounds_toArray, List.set_cons_zero, List.set_cons_succ]
    refine wpAnyH_ready (rs := [3]) (by kernel_rfl) (by simp) ?_
    refine (AllReadyH.cons rfl (fun K hK => ?_) AllReadyH.nil)
    go_simp
    refine (HO.out _).mono ?_
    rintro e Wb6 ⟨rfl, hb⟩
    have RRb6 := Lib.hid (RRb5.out.below hb RRb5.out.lt)
    have Bb6 := Lib.hid (Bb5.out.trans (hb.mono Bb5.out.size))
    have Sb6 := Lib.hid (SubS.below Sb5.out hb)
    clear hb RRb5 Bb5 Sb5
    refine hK _ _ Sb6.out (fun _ => ?_)
    clear hK K
    try simp only [Act.put, List.setIfInBounds_toArray, List.set_cons_zero, List.set_cons_succ]
    refine wpAnyH_ready (rs := [6]) (by kernel_rfl) (by simp) ?_
    refine (AllReadyH.cons rfl (fun K hK => ?_) AllReadyH.nil)
    go_simp
    refine (HM.out _).mono ?_
    rintro e Wb7 ⟨rfl, hb⟩
    have RRb7 := Lib.hid (RRb6.out.below hb RRb6.out.lt)
    have Bb7 := Lib.hid (Bb6.out.trans (hb.mono Bb6.out.size))
    have Sb7 := Lib.hid (SubS.below Sb6.out hb)
    clear hb RRb6 Bb6 Sb6
    refine hK _ _ Sb7.out (fun _ => ?_)
    clear hK K
    try simp only [Act.put, List.setIfInBounds_toArray, List.set_cons_zero, List.set_cons_succ]
    refine wpAnyH_take (i := 7) (oi := ⟨some 30, _, _, _, _, _⟩) (v := ?vb8) rfl (by kernel_rfl) (by kernel_rfl) (by kernel_rfl) (fun _ _ _ h => h) (Or.inl ⟨by rfl, ?yb8⟩) Sb7.out ?rb8
    case yb8 =>
      rintro w' hSw
      go_simp
      try with_reducible rfl
    try simp only [Act.put, List.setIfInBounds_toArray, List.set_cons_zero, List.set_cons_succ]
    refine wpAnyH_ready (rs := [8]) (by kernel_rfl) (by simp) ?_
    refine (AllReadyH.cons rfl (fun K hK => ?_) AllReadyH.nil)
    have f0 := RRb7.out.frozen 0
    have f1 := RRb7.out.frozen 1
    have k0 := RRb7.out.cell 0
    have k1 := RRb7.out.cell 1
    simp at k0 k1
    rw [if_pos (by rfl)]
    go_simp
    clear f0 f1 k0 k1
    have RRb9 : Hid (Row ((Wb7.setCell ⟨w.heap.size + 1 + 1, 0, none⟩ (.int .u64 (h : Int))).setCell ⟨w.heap.size + 1 + 1, 1, none⟩ (.int .u64 (l : Int))) (w.heap.size + 1 + 1) 33 [.int .u64 (h : Int), .int .u64 (l : Int)]) := Lib.hid ((RRb7.out.store 0 (.int .u64 (h : Int))).store 1 (.int .u64 (l : Int)))
    have Bb9 := Lib.hid ((Bb7.out.setCell (p := ⟨w.heap.size + 1 + 1, 0, none⟩) (by dsimp only; omega) (.int .u64 (h : Int))).setCell (p := ⟨w.heap.size + 1 + 1, 1, none⟩) (by dsimp only; omega) (.int .u64 (l : Int)))
    have Sb9 := Lib.hid (SubS.far (SubS.far Sb7.out 0 (.int .u64 (h : Int))) 1 (.int .u64 (l : Int)))
    clear Sb7 RRb7 Bb7
    generalize ((Wb7.setCell ⟨w.heap.size + 1 + 1, 0, none⟩ (.int .u64 (h : Int))).setCell ⟨w.heap.size + 1 + 1, 1, none⟩ (.int .u64 (l : Int))) = wb9 at RRb9 Bb9 Sb9 ⊢
    refine hK _ _ Sb9.out (fun _ => ?_)
    clear hK K
    try simp only [Act.put, List.setIfInBounds_toArray, List.set_cons_zero, List.set_cons_succ]
    refine wpAnyH_take (i := 9) (oi := ⟨some 5, _, _, _, _, _⟩) (v := ?vb10) rfl (by kernel_rfl) (by kernel_rfl) (by kernel_rfl) (fun _ _ _ h => h) (Or.inl ⟨by rfl, ?yb10⟩) Sb9.out ?rb10
    case yb10 =>
      rintro w' hSw
      go_simp
      try with_reducible rfl
    try simp only [Act.put, List.setIfInBounds_toArray, List.set_cons_zero, List.set_cons_succ]
    refine wpAnyH_done (by kernel_rfl) ?_ _
    have k0 := RRb9.out.cell 0
    have k1 := RRb9.out.cell 1
    simp at k0 k1
    go_wp2
    exact bodyPost_ret (v := .tuple #[.agg #[.int .u64 (h : Int), .int .u64 (l : Int)], .bool (decide (c = 1))]) (by simp [results, Try.results29, go_sem, *]) rfl ⟨rfl, Bb9.out⟩
end Go.Proofs.Ytbmfijcckdkmdaa.Wi
