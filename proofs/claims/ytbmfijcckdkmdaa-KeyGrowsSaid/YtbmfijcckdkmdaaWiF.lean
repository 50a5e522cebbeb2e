/-
  Arrays by value in regions that draw their order; the reference's Add.
-/
import Derived.Test.YtbmfijcckdkmdaaWiE
import Derived.Deep.CutRange
namespace Go.Proofs.Ytbmfijcckdkmdaa.Wi
set_option maxRecDepth 100000
open Go.RowKit Go.Proofs.Ytbmfijcckdkmdaa.Wd

theorem wp_alloc45 {o : Oper} {a : Act} {w : World} {K : Act → World → Prop} {Q : Exit → Act → World → Prop} (ho : o.op = .alloc 59) (dst : Option Tmp) (hdst : o.dst = dst)
    (h : ∀ w', Row w' w.heap.size 59 (iv zeros) → Below w.heap.size w w' → w'.heap.size = w.heap.size + 1 → K (a.put dst (.pointer (some ⟨w.heap.size, 0, none⟩))) w') : o.wp Try.prog a w K Q := by
  subst hdst
  unfold Oper.wp
  rw [run_alloc45 _ o ho w, Oper.upon_value]
  exact h _ (Row.new w _ _) ((Below.refl _ _).alloc (Nat.le_refl _) _) (World.size_alloc _ _)
theorem wp_store45 {o : Oper} {a : Act} {w : World} {K : Act → World → Prop} {Q : Exit → Act → World → Prop} (x y : Operand) (ho : o.op = .store 59 x y) (hd : o.dst = none) (g : Nat) (hx : a.eval x = .pointer (some ⟨g, 0, none⟩)) (l old : List Nat) (hy : a.eval y = arr l) (hr : Row w g 59 (iv old)) (ho2 : old.length = 260) (hl : l.length = 260)
    (h : ∀ w', Row w' g 59 (iv l) → w.grownBy w' (some g) → w'.heap.size = w.heap.size → K a w') : o.wp Try.prog a w K Q := by
  refine wp_store_row 59 x y ho g (iv l).toArray hx hy 59 (iv old).toArray hr (size45_of hl) (by simp [iv, hl, ho2]) (by rw [Array.all_eq_true']; intro v hv; exact iv_one l v (by simpa using hv)) (by rw [hd]; exact h _ (by show _ = _; simpa using setRow_heap w g _ (iv l).toArray 59 _ hr) (grown_setRow _ _ _) (by simp [World.setRow]))
theorem yieldsIf_load45 {ops : Array Oper} {S : World → Prop} {op : Oper} {a : Act} (hw : Region.wanted op (yielded ops a.tmps) = true) (x : Operand) (ho : op.op = .load 59 x) (g : Nat) (hx : a.eval x = .pointer (some ⟨g, 0, none⟩)) (l : List Nat) (hS : ∀ w, S w → Row w g 59 (iv l)) (hl : l.length = 260) : YieldsIf Try.prog ops S op (arr l) a :=
  yieldsIf_load_mid hw 59 x ho g 0 hx (iv l) _ (fun w hw' j v hj => by rw [(hS w hw').cell, Nat.zero_add]; exact hj) Try.underlying59 rfl (by rw [size45, iv_length, hl])
/-- what stands behind the sum -/
def AddC (z : Nat) (w0 wx : World) (t : Value) : Prop := ∃ g, t = .pointer (some ⟨g, 0, none⟩) ∧ Row wx g 59 (iv (bitsN z)) ∧ w0.heap.size ≤ g ∧ Below w0.heap.size w0 wx

set_option maxHeartbeats 4000000 in
theorem Add_ref (ah al bh bl h l c : Nat) (w : World) (h1 : ah < 18446744073709551616) (h2 : al < 18446744073709551616) (h3 : bh < 18446744073709551616) (h4 : bl < 18446744073709551616) (hh : h < 18446744073709551616) (hl : l < 18446744073709551616) (hc : c ≤ 1)
    (he : ah * 18446744073709551616 + al + (bh * 18446744073709551616 + bl) = c * 340282366920938463463374607431768211456 + (h * 18446744073709551616 + l)) :
    Calls Try.prog 46 #[.agg #[.int .u64 (ah : Int), .int .u64 (al : Int)], .agg #[.int .u64 (bh : Int), .int .u64 (bl : Int)]] w fun e w' => e = .returned (.tuple #[.agg #[.int .u64 (h : Int), .int .u64 (l : Int)], .bool (decide (c = 0))]) ∧ Below w.heap.size w w' := by
  obtain ⟨x, hx⟩ : ∃ x, x = ah * 18446744073709551616 + al := ⟨_, rfl⟩
  obtain ⟨y, hy⟩ : ∃ y, y = bh * 18446744073709551616 + bl := ⟨_, rfl⟩
  have HA := Lib.hid (fun w => Bits_any ah al w h1 h2)
  have HB := Lib.hid (fun w => Bits_any bh bl w h3 h4)
  have HP := Lib.hid (fun w => plus_ref x y 0 w (by omega))
  rw [← hx] at HA he
  rw [← hy] at HB he
  rw [Nat.pow_zero, Nat.mul_one] at HP
  have HO := Lib.hid (fun w => Of_any (x + y) h l w (by clear hx hy; omega) (by clear hx hy; omega))
  have hc128 : (x + y) / 2 ^ 128 % 2 = c := by rw [show (2 : Nat) ^ 128 = 340282366920938463463374607431768211456 from by decide]; clear hx hy; omega
  have HC := Lib.hid hc128
  clear hx hy he hc128
  go_enter Try.func46, Try.ntmps46
  go_upto_region 1 with fail
  have RA := Lib.hid (((row_last w w.heap.size 33 [.int .u64 (ah : Int), .int .u64 (al : Int)] rfl).alloc (.cells #[.int .u64 (bh : Int), .int .u64 (bl : Int)] 33)).alloc (.cells #[.int .u64 0, .int .u64 0] 33))
  have RB := Lib.hid ((row_last (w.alloc (.cells #[.int .u64 (ah : Int), .int .u64 (al : Int)] 33)) (w.heap.size + 1) 33 [.int .u64 (bh : Int), .int .u64 (bl : Int)] (by simp)).alloc (.cells #[.int .u64 0, .int .u64 0] 33))
  have RR := Lib.hid (row_last ((w.alloc (.cells #[.int .u64 (ah : Int), .int .u64 (al : Int)] 33)).alloc (.cells #[.int .u64 (bh : Int), .int .u64 (bl : Int)] 33)) (w.heap.size + 1 + 1) 33 [.int .u64 0, .int .u64 0] (by simp))
  have B0 := Lib.hid ((((Below.refl w.heap.size w).alloc (Nat.le_refl _) (.cells #[.int .u64 (ah : Int), .int .u64 (al : Int)] 33)).alloc (by simp) (.cells #[.int .u64 (bh : Int), .int .u64 (bl : Int)] 33)).alloc (by simp; omega) (.cells #[.int .u64 0, .int .u64 0] 33))
  generalize ((w.alloc (.cells #[.int .u64 (ah : Int), .int .u64 (al : Int)] 33)).alloc (.cells #[.int .u64 (bh : Int), .int .u64 (bl : Int)] 33)).alloc (.cells #[.int .u64 0, .int .u64 0] 33) = w0 at RA RB RR B0 ⊢
  go_cut [6] from 7 to 11 (fun t wx => AddC (x + y) w0 wx t)
  case first =>
    refine wp_region_held_drew (S := fun w' => Below w0.heap.size w0 w') (by kernel_rfl) (Below.refl _ _).drew (fun hHeld => ?_)
    have S0 := Lib.hid hHeld
    clear hHeld
    generalize w0.drew = wd at S0 ⊢
    refine wpAnyH_take (i := 0) (oi := ⟨some 7, _, _, _, _, _⟩) (v := ?va1) rfl (by kernel_rfl) (by kernel_rfl) (by kernel_rfl) (fun _ _ _ h => h) (Or.inl ⟨by rfl, ?ya1⟩) S0.out ?ra1
    case ya1 =>
      rintro w' hSw
      have k0 := (RA.out.below hSw RA.out.lt).cell 0
      have k1 := (RA.out.below hSw RA.out.lt).cell 1
      simp at k0 k1
      go_simp
      try with_reducible rfl
    try simp only [Act.put, List.setIfInBounds_toArray, List.set_cons_zero, List.set_cons_succ]
    refine wpAnyH_take (i := 2) (oi := ⟨some 9, _, _, _, _, _⟩) (v := ?va2) rfl (by kernel_rfl) (by kernel_rfl) (by kernel_rfl) (fun _ _ _ h => h) (Or.inl ⟨by rfl, ?ya2⟩) S0.out ?ra2
    case ya2 =>
      rintro w' hSw
      have k0 := (RB.out.below hSw RB.out.lt).cell 0
      have k1 := (RB.out.below hSw RB.out.lt).cell 1
      simp at k0 k1
      go_simp
      try with_reducible rfl
    try simp only [Act.put, List.setIfInBounds_toArray, List.set_cons_zero, List.set_cons_succ]
    refine wpAnyH_ready (rs := [1, 5]) (by kernel_rfl) (by simp) ?_
    refine (AllReadyH.cons rfl (fun K hK => ?_) (AllReadyH.cons rfl (fun K hK => ?_) AllReadyH.nil))
    · go_simp
      refine (HA.out _).mono ?_
      rintro e Wa3 ⟨rfl, hb⟩
      have Sa3 := Lib.hid (S0.out.trans (hb.mono S0.out.size))
      clear hb S0 
      refine hK _ _ Sa3.out (fun _ => ?_)
      clear hK K
      try simp only [Act.put, List.setIfInBounds_toArray, List.set_cons_zero, List.set_cons_succ]
      refine wpAnyH_ready (rs := [3, 5]) (by kernel_rfl) (by simp) ?_
      refine (AllReadyH.cons rfl (fun K hK => ?_) (AllReadyH.cons rfl (fun K hK => ?_) AllReadyH.nil))
      · go_simp
        refine (HB.out _).mono ?_
        rintro e Wa4 ⟨rfl, hb⟩
        have Sa4 := Lib.hid (Sa3.out.trans (hb.mono Sa3.out.size))
        clear hb Sa3 
        refine hK _ _ Sa4.out (fun _ => ?_)
        clear hK K
        try simp only [Act.put, List.setIfInBounds_toArray, List.set_cons_zero, List.set_cons_succ]
        refine wpAnyH_ready (rs := [4, 5]) (by kernel_rfl) (by simp) ?_
        refine (AllReadyH.cons rfl (fun K hK => ?_) (AllReadyH.cons rfl (fun K hK => ?_) AllReadyH.nil))
        · go_simp
          refine (HP.out _).mono ?_
          rintro e Wa5 ⟨rfl, hb⟩
          have Sa5 := Lib.hid (Sa4.out.trans (hb.mono Sa4.out.size))
          clear hb Sa4 
          refine hK _ _ Sa5.out (fun _ => ?_)
          clear hK K
          try simp only [Act.put, List.setIfInBounds_toArray, List.set_cons_zero, List.set_cons_succ]
          refine wpAnyH_ready (rs := [5]) (by kernel_rfl) (by simp) ?_
          refine (AllReadyH.cons rfl (fun K hK => ?_) AllReadyH.nil)
          rw [if_pos (by rfl)]
          refine wp_alloc45 rfl (some 6) rfl ?_
          intro Wa6 hr hb hs
          have Sa6 := Lib.hid (Sa5.out.trans (hb.mono Sa5.out.size))
          obtain ⟨gz, hgz⟩ : ∃ g, g = Wa5.heap.size := ⟨_, rfl⟩
          rw [← hgz] at hr ⊢
          have ngz : w0.heap.size ≤ gz := by rw [hgz]; exact Sa5.out.size
          have Az_a6 := Lib.hid hr
          clear hb hr hs hgz Sa5 
          refine hK _ _ Sa6.out (fun _ => ?_)
          clear hK K
          try simp only [Act.put, List.setIfInBounds_toArray, List.set_cons_zero, List.set_cons_succ]
          refine wpAnyH_ready (rs := [6]) (by kernel_rfl) (by simp) ?_
          refine (AllReadyH.cons rfl (fun K hK => ?_) AllReadyH.nil)
          rw [if_pos (by rfl)]
          refine wp_store45 (.tmp 6) (.tmp 11) rfl rfl gz rfl (bitsN (x + y)) zeros rfl Az_a6.out zeros_len (bitsN_len _) ?_
          intro Wa7 hr hg hs
          have Az_a7 := Lib.hid hr
          have Sa7 := Lib.hid (Sa6.out.grown hg Sa6.out.size (fun i hi => by cases hi; omega))
          clear hr hg hs Sa6 Az_a6
          refine hK _ _ Sa7.out (fun _ => ?_)
          clear hK K
          try simp only [Act.put, List.setIfInBounds_toArray, List.set_cons_zero, List.set_cons_succ]
          refine wpAnyH_done (by kernel_rfl) ?_ _
          go_wp2_with fail
          go_meet
          exact ⟨gz, rfl, Az_a7.out, ngz, Sa7.out⟩
        · rw [if_pos (by rfl)]
          refine wp_alloc45 rfl (some 6) rfl ?_
          intro Wa8 hr hb hs
          have Sa8 := Lib.hid (Sa4.out.trans (hb.mono Sa4.out.size))
          obtain ⟨gz, hgz⟩ : ∃ g, g = Wa4.heap.size := ⟨_, rfl⟩
          rw [← hgz] at hr ⊢
          have ngz : w0.heap.size ≤ gz := by rw [hgz]; exact Sa4.out.size
          have Az_a8 := Lib.hid hr
          clear hb hr hs hgz Sa4 
          refine hK _ _ Sa8.out (fun _ => ?_)
          clear hK K
          try simp only [Act.put, List.setIfInBounds_toArray, List.set_cons_zero, List.set_cons_succ]
          refine wpAnyH_ready (rs := [4]) (by kernel_rfl) (by simp) ?_
          refine (AllReadyH.cons rfl (fun K hK => ?_) AllReadyH.nil)
          go_simp
          refine (HP.out _).mono ?_
          rintro e Wa9 ⟨rfl, hb⟩
          have Az_a9 := Lib.hid (Az_a8.out.below hb Az_a8.out.lt)
          have Sa9 := Lib.hid (Sa8.out.trans (hb.mono Sa8.out.size))
          clear hb Sa8 Az_a8
          refine hK _ _ Sa9.out (fun _ => ?_)
          clear hK K
          try simp only [Act.put, List.setIfInBounds_toArray, List.set_cons_zero, List.set_cons_succ]
          refine wpAnyH_ready (rs := [6]) (by kernel_rfl) (by simp) ?_
          refine (AllReadyH.cons rfl (fun K hK => ?_) AllReadyH.nil)
          rw [if_pos (by rfl)]
          refine wp_store45 (.tmp 6) (.tmp 11) rfl rfl gz rfl (bitsN (x + y)) zeros rfl Az_a9.out zeros_len (bitsN_len _) ?_
          intro Wa10 hr hg hs
          have Az_a10 := Lib.hid hr
          have Sa10 := Lib.hid (Sa9.out.grown hg Sa9.out.size (fun i hi => by cases hi; omega))
          clear hr hg hs Sa9 Az_a9
          refine hK _ _ Sa10.out (fun _ => ?_)
          clear hK K
          try simp only [Act.put, List.setIfInBounds_toArray, List.set_cons_zero, List.set_cons_succ]
          refine wpAnyH_done (by kernel_rfl) ?_ _
          go_wp2_with fail
          go_meet
          exact ⟨gz, rfl, Az_a10.out, ngz, Sa10.out⟩
      · rw [if_pos (by rfl)]
        refine wp_alloc45 rfl (some 6) rfl ?_
        intro Wa11 hr hb hs
        have Sa11 := Lib.hid (Sa3.out.trans (hb.mono Sa3.out.size))
        obtain ⟨gz, hgz⟩ : ∃ g, g = Wa3.heap.size := ⟨_, rfl⟩
        rw [← hgz] at hr ⊢
        have ngz : w0.heap.size ≤ gz := by rw [hgz]; exact Sa3.out.size
        have Az_a11 := Lib.hid hr
        clear hb hr hs hgz Sa3 
        refine hK _ _ Sa11.out (fun _ => ?_)
        clear hK K
        try simp only [Act.put, List.setIfInBounds_toArray, List.set_cons_zero, List.set_cons_succ]
        refine wpAnyH_ready (rs := [3]) (by kernel_rfl) (by simp) ?_
        refine (AllReadyH.cons rfl (fun K hK => ?_) AllReadyH.nil)
        go_simp
        refine (HB.out _).mono ?_
        rintro e Wa12 ⟨rfl, hb⟩
        have Az_a12 := Lib.hid (Az_a11.out.below hb Az_a11.out.lt)
        have Sa12 := Lib.hid (Sa11.out.trans (hb.mono Sa11.out.size))
        clear hb Sa11 Az_a11
        refine hK _ _ Sa12.out (fun _ => ?_)
        clear hK K
        try simp only [Act.put, List.setIfInBounds_toArray, List.set_cons_zero, List.set_cons_succ]
        refine wpAnyH_ready (rs := [4]) (by kernel_rfl) (by simp) ?_
        refine (AllReadyH.cons rfl (fun K hK => ?_) AllReadyH.nil)
        go_simp
        refine (HP.out _).mono ?_
        rintro e Wa13 ⟨rfl, hb⟩
        have Az_a13 := Lib.hid (Az_a12.out.below hb Az_a12.out.lt)
        have Sa13 := Lib.hid (Sa12.out.trans (hb.mono Sa12.out.size))
        clear hb Sa12 Az_a12
        refine hK _ _ Sa13.out (fun _ => ?_)
        clear hK K
        try simp only [Act.put, List.setIfInBounds_toArray, List.set_cons_zero, List.set_cons_succ]
        refine wpAnyH_ready (rs := [6]) (by kernel_rfl) (by simp) ?_
        refine (AllReadyH.cons rfl (fun K hK => ?_) AllReadyH.nil)
        rw [if_pos (by rfl)]
        refine wp_store45 (.tmp 6) (.tmp 11) rfl rfl gz rfl (bitsN (x + y)) zeros rfl Az_a13.out zeros_len (bitsN_len _) ?_
        intro Wa14 hr hg hs
        have Az_a14 := Lib.hid hr
        have Sa14 := Lib.hid (Sa13.out.grown hg Sa13.out.size (fun i hi => by cases hi; omega))
        clear hr hg hs Sa13 Az_a13
        refine hK _ _ Sa14.out (fun _ => ?_)
        clear hK K
        try simp only [Act.put, List.setIfInBounds_toArray, List.set_cons_zero, List.set_cons_succ]
        refine wpAnyH_done (by kernel_rfl) ?_ _
        go_wp2_with fail
        go_meet
        exact ⟨gz, rfl, Az_a14.out, ngz, Sa14.out⟩
    · rw [if_pos (by rfl)]
      refine wp_alloc45 rfl (some 6) rfl ?_
      intro Wa15 hr hb hs
      have Sa15 := Lib.hid (S0.out.trans (hb.mono S0.out.size))
      obtain ⟨gz, hgz⟩ : ∃ g, g = wd.heap.size := ⟨_, rfl⟩
      rw [← hgz] at hr ⊢
      have ngz : w0.heap.size ≤ gz := by rw [hgz]; exact S0.out.size
      have Az_a15 := Lib.hid hr
      clear hb hr hs hgz S0 
      refine hK _ _ Sa15.out (fun _ => ?_)
      clear hK K
      try simp only [Act.put, List.setIfInBounds_toArray, List.set_cons_zero, List.set_cons_succ]
      refine wpAnyH_ready (rs := [1]) (by kernel_rfl) (by simp) ?_
      refine (AllReadyH.cons rfl (fun K hK => ?_) AllReadyH.nil)
      go_simp
      refine (HA.out _).mono ?_
      rintro e Wa16 ⟨rfl, hb⟩
      have Az_a16 := Lib.hid (Az_a15.out.below hb Az_a15.out.lt)
      have Sa16 := Lib.hid (Sa15.out.trans (hb.mono Sa15.out.size))
      clear hb Sa15 Az_a15
      refine hK _ _ Sa16.out (fun _ => ?_)
      clear hK K
      try simp only [Act.put, List.setIfInBounds_toArray, List.set_cons_zero, List.set_cons_succ]
      refine wpAnyH_ready (rs := [3]) (by kernel_rfl) (by simp) ?_
      refine (AllReadyH.cons rfl (fun K hK => ?_) AllReadyH.nil)
      go_simp
      refine (HB.out _).mono ?_
      rintro e Wa17 ⟨rfl, hb⟩
      have Az_a17 := Lib.hid (Az_a16.out.below hb Az_a16.out.lt)
      have Sa17 := Lib.hid (Sa16.out.trans (hb.mono Sa16.out.size))
      clear hb Sa16 Az_a16
      refine hK _ _ Sa17.out (fun _ => ?_)
      clear hK K
      try simp only [Act.put, List.setIfInBounds_toArray, List.set_cons_zero, List.set_cons_succ]
      refine wpAnyH_ready (rs := [4]) (by kernel_rfl) (by simp) ?_
      refine (AllReadyH.cons rfl (fun K hK => ?_) AllReadyH.nil)
      go_simp
      refine (HP.out _).mono ?_
      rintro e Wa18 ⟨rfl, hb⟩
      have Az_a18 := Lib.hid (Az_a17.out.below hb Az_a17.out.lt)
      have Sa18 := Lib.hid (Sa17.out.trans (hb.mono Sa17.out.size))
      clear hb Sa17 Az_a17
      refine hK _ _ Sa18.out (fun _ => ?_)
      clear hK K
      try simp only [Act.put, List.setIfInBounds_toArray, List.set_cons_zero, List.set_cons_succ]
      refine wpAnyH_ready (rs := [6]) (by kernel_rfl) (by simp) ?_
      refine (AllReadyH.cons rfl (fun K hK => ?_) AllReadyH.nil)
      rw [if_pos (by rfl)]
      refine wp_store45 (.tmp 6) (.tmp 11) rfl rfl gz rfl (bitsN (x + y)) zeros rfl Az_a18.out zeros_len (bitsN_len _) ?_
      intro Wa19 hr hg hs
      have Az_a19 := Lib.hid hr
      have Sa19 := Lib.hid (Sa18.out.grown hg Sa18.out.size (fun i hi => by cases hi; omega))
      clear hr hg hs Sa18 Az_a18
      refine hK _ _ Sa19.out (fun _ => ?_)
      clear hK K
      try simp only [Act.put, List.setIfInBounds_toArray, List.set_cons_zero, List.set_cons_succ]
      refine wpAnyH_done (by kernel_rfl) ?_ _
      go_wp2_with fail
      go_meet
      exact ⟨gz, rfl, Az_a19.out, ngz, Sa19.out⟩
  case rest =>
    obtain ⟨g, rfl, hrow, hge, hbel⟩ := hcut
    have hlt0 := RR.out.lt
    have RZ := Lib.hid hrow
    have RR2 := Lib.hid (RR.out.below hbel RR.out.lt)
    have B2 := Lib.hid (B0.out.trans (hbel.mono B0.out.size))
    clear hrow hbel RA RB RR B0 HA HB HP
    have HCK := Lib.hid (show ∀ w', Row w' g 59 (iv (bitsN (x + y))) → w'.cell? ⟨g, 128, none⟩ = some (.int .i64 (c : Int)) from fun w' hr => by
      rw [← HC.out, ← bitsN_get (x + y) 128 (by omega)]; exact (hr.cell 128).trans (iv_cell _ 128 (by rw [bitsN_len]; omega)))
    have hgl : w.heap.size + 1 + 1 < g := by have := hlt0; omega
    have hcb : ((c : Int) == 0) = decide (c = 0) := by rw [Bool.eq_iff_iff]; simp
    go_wp2_with fail
    refine wp_region_held_drew (S := fun w' => Row w' g 59 (iv (bitsN (x + y)))) (by kernel_rfl) RZ.out.drew (fun hHeld => ?_)
    have RZ2 := Lib.hid hHeld
    have RR3 := Lib.hid RR2.out.drew
    have B3 := Lib.hid B2.out.drew
    clear hHeld RZ RR2 B2
    generalize wc.drew = wd at RZ2 RR3 B3 ⊢
    refine wpAnyH_take (i := 0) (oi := ⟨some 12, _, _, _, _, _⟩) rfl (by kernel_rfl) (by kernel_rfl) (by kernel_rfl) (fun _ _ _ h => h) (yieldsIf_load45 (by rfl) (.tmp 6) rfl g ?xb1 (bitsN (x + y)) (fun w' hS => hS) (bitsN_len _)) RZ2.out ?rb1
    case xb1 => first | rfl | (simp [Act.eval, go_sem]; done)
    try simp only [Act.put, List.setIfInBounds_toArray, List.set_cons_zero, List.set_cons_succ]
    refine wpAnyH_take (i := 2) (oi := ⟨some 14, _, _, _, _, _⟩) (v := ?vb2) rfl (by kernel_rfl) (by kernel_rfl) (by kernel_rfl) (fun _ _ _ h => h) (Or.inl ⟨by rfl, ?yb2⟩) RZ2.out ?rb2
    case yb2 =>
      rintro w' hSw
      go_simp
      try with_reducible rfl
    try simp only [Act.put, List.setIfInBounds_toArray, List.set_cons_zero, List.set_cons_succ]
    refine wpAnyH_take (i := 3) (oi := ⟨some 15, _, _, _, _, _⟩) (v := ?vb3) rfl (by kernel_rfl) (by kernel_rfl) (by kernel_rfl) (fun _ _ _ h => h) (Or.inl ⟨by rfl, ?yb3⟩) RZ2.out ?rb3
    case yb3 =>
      rintro w' hSw
      have k0 := HCK.out w' hSw
      go_simp
      try with_reducible rfl
    try simp only [Act.put, List.setIfInBounds_toArray, List.set_cons_zero, List.set_cons_succ]
    refine wpAnyH_take (i := 4) (oi := ⟨some 16, _, _, _, _, _⟩) (v := ?vb4) rfl (by kernel_rfl) (by kernel_rfl) (by kernel_rfl) (fun _ _ _ h => h) (Or.inl ⟨by rfl, ?yb4⟩) RZ2.out ?rb4
    case yb4 =>
      rintro w' hSw
      go_simp
      try with_reducible rfl
    try simp only [Act.put, List.setIfInBounds_toArray, List.set_cons_zero, List.set_cons_succ]
    refine wpAnyH_ready (rs := [1]) (by kernel_rfl) (by simp) ?_
    refine (AllReadyH.cons rfl (fun K hK => ?_) AllReadyH.nil)
    go_simp
    refine (HO.out _).mono ?_
    rintro e Wb5 ⟨rfl, hb⟩
    have RZb5 := Lib.hid (RZ2.out.below hb RZ2.out.lt)
    have RRb5 := Lib.hid (RR3.out.below hb RR3.out.lt)
    have Bb5 := Lib.hid (B3.out.trans (hb.mono B3.out.size))
    clear hb RZ2 RR3 B3
    refine hK _ _ RZb5.out (fun _ => ?_)
    clear hK K
    try simp only [Act.put, List.setIfInBounds_toArray, List.set_cons_zero, List.set_cons_succ]
    refine wpAnyH_ready (rs := [5]) (by kernel_rfl) (by simp) ?_
    refine (AllReadyH.cons rfl (fun K hK => ?_) AllReadyH.nil)
    have f0 := RRb5.out.frozen 0
    have f1 := RRb5.out.frozen 1
    have k0 := RRb5.out.cell 0
    have k1 := RRb5.out.cell 1
    simp at k0 k1
    rw [if_pos (by rfl)]
    go_simp
    clear f0 f1 k0 k1
    have RRb6 : Hid (Row ((Wb5.setCell ⟨w.heap.size + 1 + 1, 0, none⟩ (.int .u64 (h : Int))).setCell ⟨w.heap.size + 1 + 1, 1, none⟩ (.int .u64 (l : Int))) (w.heap.size + 1 + 1) 33 [.int .u64 (h : Int), .int .u64 (l : Int)]) := Lib.hid ((RRb5.out.store 0 (.int .u64 (h : Int))).store 1 (.int .u64 (l : Int)))
    have Bb6 := Lib.hid ((Bb5.out.setCell (p := ⟨w.heap.size + 1 + 1, 0, none⟩) (by dsimp only; omega) (.int .u64 (h : Int))).setCell (p := ⟨w.heap.size + 1 + 1, 1, none⟩) (by dsimp only; omega) (.int .u64 (l : Int)))
    have RZb6 := Lib.hid ((RZb5.out.far (p := ⟨w.heap.size + 1 + 1, 0, none⟩) (by dsimp only; omega) (.int .u64 (h : Int))).far (p := ⟨w.heap.size + 1 + 1, 1, none⟩) (by dsimp only; omega) (.int .u64 (l : Int)))
    clear RZb5 RRb5 Bb5
    generalize ((Wb5.setCell ⟨w.heap.size + 1 + 1, 0, none⟩ (.int .u64 (h : Int))).setCell ⟨w.heap.size + 1 + 1, 1, none⟩ (.int .u64 (l : Int))) = wb6 at RZb6 RRb6 Bb6 ⊢
    refine hK _ _ RZb6.out (fun _ => ?_)
    clear hK K
    try simp only [Act.put, List.setIfInBounds_toArray, List.set_cons_zero, List.set_cons_succ]
    refine wpAnyH_take (i := 6) (oi := ⟨some 5, _, _, _, _, _⟩) (v := ?vb7) rfl (by kernel_rfl) (by kernel_rfl) (by kernel_rfl) (fun _ _ _ h => h) (Or.inl ⟨by rfl, ?yb7⟩) RZb6.out ?rb7
    case yb7 =>
      rintro w' hSw
      go_simp
      try with_reducible rfl
    try simp only [Act.put, List.setIfInBounds_toArray, List.set_cons_zero, List.set_cons_succ]
    refine wpAnyH_done (by kernel_rfl) ?_ _
    have k0 := RRb6.out.cell 0
    have k1 := RRb6.out.cell 1
    simp at k0 k1
    go_wp2
    exact bodyPost_ret (v := .tuple #[.agg #[.int .u64 (h : Int), .int .u64 (l : Int)], .bool (decide (c = 0))]) (by simp [results, Try.results46, go_sem, *]) rfl ⟨rfl, Bb6.out⟩
end Go.Proofs.Ytbmfijcckdkmdaa.Wi
