/-
  WalFormats: which disks can be formatted, and what stands there then, whatever fails. No condition.
-/
import Derived.Deep.Cut
import Derived.Deep.CutRange
import Derived.Deep.RegionHeld
import Derived.Test.YteemdjamgbbjhaaWf11
namespace Go.Proofs.Yteemdjamgbbjhaa.WalFor
set_option maxRecDepth 100000
open Go.RowKit Go.Shelf Go.Lib Go.Proofs.Yteemdjamgbbjhaa.Wd Go.Proofs.Yteemdjamgbbjhaa.Dsk Go.Proofs.Yteemdjamgbbjhaa.Oct Go.Proofs.Yteemdjamgbbjhaa.Sum Go.Proofs.Yteemdjamgbbjhaa.Beq Go.Proofs.Yteemdjamgbbjhaa.Wl Go.Proofs.Yteemdjamgbbjhaa.Wr Go.ChangeShapes Go.WideShapes Go.ChangeAt

attribute [local go_sem] Oper.semAt_some

theorem own : ownKnob Try.prog.godebug = none := by kernel_rfl
theorem laidOut : laidOutB Try.prog = true := by kernel_rfl
theorem make_long (n : Nat) (hn : n ≤ 1000000) (u : World) : (Instr.makeSlice 37 (.int .i64 (n : Int)) (.int .i64 (n : Int))).run Try.prog u =
    .ok (.slice (some ⟨u.heap.size, 0, none⟩) n n) (u.alloc (.cells (madeCells #[.int .u8 0] n) 5)) := by
  obtain ⟨i0, hi, hz0, hz1, hz2⟩ := info_parts info5
  have h := run_make (P := Try.prog) u 37 5 i0 (.int .u8 0) Try.underlying37 hi hz0 .i64 .i64 (n : Int) (n : Int) (by omega) (by omega) (by rw [hz2]; omega) (by omega)
  rw [hz1] at h
  rw [show (Value.int IntKind.u8 0).cells = #[.int .u8 0] from rfl] at h
  simpa using h
theorem long_bs {W : World} {gb n m : Nat} (h : Row W gb 5 (List.replicate m (.int .u8 0))) (hm : m = n + 1) : Bs W W.heap.size (some ⟨gb, 1, none⟩) (List.replicate n 0) := fun _ => by
  refine ⟨gb, 1, rfl, h.lt, fun i hi => ?_⟩
  rw [List.length_replicate] at hi
  rw [h.cell, List.getElem?_replicate, if_pos (by omega), List.getD_eq_getElem?_getD, List.getElem?_replicate, if_pos hi]
  rfl
theorem mod_n (k m : Int) (hm : 0 < m) : ∃ r : Nat, (r : Int) < m ∧ (IntKind.u64.wrap k).tmod m = (r : Int) := by
  have h0 : 0 ≤ IntKind.u64.wrap k := by simp only [IntKind.wrap_u64]; omega
  have h1 := Int.emod_nonneg (IntKind.u64.wrap k) (show m ≠ 0 by omega)
  have h2 := Int.emod_lt_of_pos (IntKind.u64.wrap k) hm
  refine ⟨((IntKind.u64.wrap k).tmod m).toNat, ?_, ?_⟩ <;> (rw [Int.tmod_eq_emod_of_nonneg h0]; omega)
theorem fail_new (N q : Nat) : ∃ d1 : DM, (DM.new N).failM (q : Int) = (d1, 0) ∧ d1.pend = [] := ⟨_, rfl, rfl⟩
set_option maxHeartbeats 16000000 in
theorem walk (a0 a1 a2 : Int) (w : World) :
    Calls Try.prog 3 #[.int .i64 a0, .int .i64 a1, .int .i64 a2] w fun e w' => e = .returned (.bool true) ∧ Below w.heap.size w w' := by
  have mixed : Try.prog.follows .mixedOrders = true := by kernel_rfl
  obtain ⟨r0, hr0, hmod0⟩ := mod_n a0 2048 (by omega)
  obtain ⟨q, hq, hmod2⟩ := mod_n a2 60 (by omega)
  obtain ⟨N, hN⟩ : ∃ N : Nat, N = 1 + r0 := ⟨_, rfl⟩
  have hN1 : 1 ≤ N ∧ N ≤ 2048 := by omega
  have hwr : IntKind.i64.wrap (r0 : Int) = (r0 : Int) := by rw [IntKind.wrap_i64]; omega
  have hwN : wrap64 (1 + (r0 : Int)) = (N : Int) := by unfold wrap64; omega
  have hwq : IntKind.i64.wrap (q : Int) = (q : Int) := by rw [IntKind.wrap_i64]; omega
  obtain ⟨d1, hf, hpd⟩ := fail_new N q
  have HF := Lib.hid hf
  have HPD := Lib.hid hpd
  have HN := Lib.hid hN1
  have HQ := Lib.hid hq
  obtain ⟨se, hse⟩ : ∃ se, sectsI a2 = se := ⟨_, rfl⟩
  have hss : (se != se) = false := by simp
  clear hf hpd hN1 hN hr0 hq
  go_enter Try.func3, Try.ntmps3
  go_wp2_with fail
  refine (wakes_any w).mono ?_
  rintro e w1 ⟨rfl, hb1⟩
  have HB1 := Lib.hid hb1
  clear hb1
  go_wp2_with fail
  refine (dnew_good N w1 HN.out.1 HN.out.2).mono ?_
  rintro e w2 ⟨dg, rfl, F1, hd1, hl1, hb2⟩
  have HD1 := Lib.hid hd1
  have HL1 := Lib.hid hl1
  have HB2 := Lib.hid hb2
  clear hd1 hl1 hb2
  go_wp2_with fail
  refine (dnew_good N w2 HN.out.1 HN.out.2).mono ?_
  rintro e w3 ⟨fg, rfl, F2, hd2, hl2, hb3⟩
  have S3 : Hid (S2 w F1 F2 dg fg (DM.new N) (DM.new N) w3) := Lib.hid ⟨HD1.out.below hb3, hd2, fun k h1 h2 => by have := HD1.out.2 k h1; have := hl2 k h2; omega, fun k hk => by
    have h1 := HB1.out.size
    have h2 := HB2.out.size
    rcases hk with hk | hk
    · have := HL1.out k hk; omega
    · have := hl2 k hk; omega, (HB1.out.trans (HB2.out.mono HB1.out.size)).trans (hb3.mono (Nat.le_trans HB1.out.size HB2.out.size))⟩
  clear hd2 hl2 hb3 HD1 HL1 HB2 HB1
  go_wp2_with fail
  refine (sectors_all a2 w3).mono ?_
  rintro e wx ⟨rfl, rfl⟩
  rw [hse]
  go_wp2_with fail
  refine (rsectors_all a2 wx).mono ?_
  rintro e wy ⟨rfl, rfl⟩
  rw [hse]
  go_wp2_with fail
  refine (fail_any dg (DM.new N) F1 (q : Int) wy S3.out.h1 (by have := HQ.out; omega)).mono ?_
  rw [HF.out]
  rintro e w4 ⟨rfl, F3, hd3, hx3, ho3⟩
  have S4' := Lib.hid (S3.out.left hd3 hx3 ho3)
  clear hd3 hx3 ho3 S3
  go_wp2_with fail
  refine (fail_any fg (DM.new N) F2 (q : Int) w4 S4'.out.h2 (by have := HQ.out; omega)).mono ?_
  rw [HF.out]
  rintro e w5 ⟨rfl, F4, hd4, hx4, ho4⟩
  have S5 := Lib.hid (S4'.out.right hd4 hx4 ho4)
  clear hd4 hx4 ho4 S4' hss hse
  obtain ⟨Fm, hfm, hsm⟩ := dk_min S5.out.h1
  have HFM := Lib.hid hfm
  have HSM := Lib.hid hsm
  clear hfm hsm
  go_wp2_with fail
  refine (fmt_any a1 dg d1 Fm w5 HFM.out (by rw [HPD.out]; exact Nat.zero_le _)).mono ?_
  rintro e w6 ⟨p, F5, rfl, hd5, hx5, ho5, hn5, hz5⟩
  have HX5 := Lib.hid (ext_sub hx5 HSM.out)
  have HO5 := Lib.hid (off_sub ho5 HSM.out)
  have HD5 := Lib.hid hd5.1
  have HN5 := Lib.hid hn5
  have HZ5 := Lib.hid hz5
  have S6 := Lib.hid (S5.out.left HD5.out HX5.out HO5.out)
  clear hd5 hx5 ho5 hn5 hz5
  go_wp2_with fail
  refine (rfmt_any a1 fg d1 F4 w6 S6.out.h2 (by rw [HPD.out]; exact Nat.zero_le _)).mono ?_
  rintro e w7 ⟨p2, F6, rfl, hd6, hx6, ho6, hn6, hz6⟩
  have S7 := Lib.hid (S6.out.right hd6 hx6 ho6)
  have HP7 := Lib.hid (fmt_pend a1 d1 HPD.out)
  obtain ⟨⟨d2, E⟩, hE⟩ : ∃ Z, fmtM a1 d1 = Z := ⟨_, rfl⟩
  rw [hE] at S7 HP7 hd6 hn6 hz6 HD5 HN5 HZ5 ⊢
  dsimp only at S7 HP7 hd6 hn6 hz6 HD5 HN5 HZ5 ⊢
  have HAL := Lib.hid (alike_any dg fg d2 F5 F6 w7 S7.out.h1 S7.out.h2 (by have := HP7.out; omega))
  have hee : (E != E) = false := by simp
  clear hE S6
  by_cases hz : E = 0
  case neg =>
    obtain rfl := HN5.out hz
    obtain rfl := hn6 hz
    clear hn6 hz6 hd6 hx6 ho6 hz HN5 HZ5
    go_wp2_with fail
    refine HAL.out.mono ?_
    rintro e w8 ⟨rfl, hb8⟩
    have HB8 := Lib.hid (S7.out.hb.trans (hb8.mono S7.out.hb.size))
    clear hb8
    go_wp2
    go_ret
    exact ⟨rfl, HB8.out⟩
  obtain ⟨g, ar, har, h4, ha, hp, hgw, hbg⟩ := HZ5.out hz
  obtain ⟨gm, gl, hp2, hm1, hm2, hm3, hm4, hrm, hrl⟩ := hz6 hz
  subst har hp hp2
  obtain ⟨G1, hs⟩ := S4.new S5.out HD5.out HX5.out HO5.out hbg hgw hd6 hx6 ho6 hm1 hm2 hm3 hm4 hrm hrl
  have S8 := Lib.hid hs
  subst hz
  clear hs hgw hbg hm1 hm2 hm3 hm4 hrm hrl hn6 hz6 hd6 hx6 ho6 HN5 HZ5 HD5 HX5 HO5 HFM HSM S5 S7 hee
  go_wp2_with fail
  refine HAL.out.mono ?_
  rintro e w8 ⟨rfl, hb8⟩
  have S9 := Lib.hid (S8.out.below hb8)
  clear hb8 S8 HAL
  have hmk : ∀ u : World, (Instr.makeSlice 37 (.int .i64 40001) (.int .i64 40001)).run Try.prog u = .ok (.slice (some ⟨u.heap.size, 0, none⟩) 40001 40001) (u.alloc (.cells (madeCells #[.int .u8 0] 40001) 5)) := fun u => make_long 40001 (by omega) u
  go_upto_region 17 with fail
  have hrow : Row (w8.alloc (.cells (madeCells #[.int .u8 0] 40001) 5)) w8.heap.size 5 (List.replicate 40001 (.int .u8 0)) := Row.made w8 _ _ _
  have hbL : Below w8.heap.size w8 (w8.alloc (.cells (madeCells #[.int .u8 0] 40001) 5)) := (Below.refl _ _).alloc (Nat.le_refl _) _
  have S10 := Lib.hid (S9.out.below hbL)
  have HGB : Hid (∀ k, F5 k ∨ F6 k ∨ G1 k → k < w8.heap.size) := Lib.hid fun k hk => by
    rcases hk with hk | hk | hk
    · exact S9.out.s2.h1.2 k hk
    · exact S9.out.s2.h2.2 k hk
    · exact (S9.out.g1 k hk).1
  clear hmk hbL
  generalize w8.alloc (.cells (madeCells #[.int .u8 0] 40001) 5) = w9 at hrow S10 ⊢
  obtain ⟨gb, hgb⟩ : ∃ gb, w8.heap.size = gb := ⟨_, rfl⟩
  rw [hgb] at hrow HGB ⊢
  have hbs := long_bs (n := 40000) hrow rfl
  have hbn : (List.replicate 40000 (0 : UInt8)).length = 40000 := List.length_replicate
  generalize List.replicate 40000 (0 : UInt8) = b at hbs hbn
  obtain ⟨d3, E3, fs3, br3, hfn, hfl, hfu, hfp, hAL, hAR⟩ := app_both w dg fg g gm ar d2 gb b hbn h4 ha HP7.out
  have HFS := Lib.hid (And.intro hfn (And.intro hfl (And.intro hfu hfp)))
  have HL := Lib.hid hAL
  have HR := Lib.hid hAR
  have BS := Lib.hid hbs
  have hee : (E3 != E3) = false := by simp
  clear hrow hgb hbs hbn hfn hfl hfu hfp hAL hAR S9
  refine wp_region_held_drew (S := fun _ => True) (by kernel_rfl) trivial (fun hHeld => ?_)
  have S11 : Hid (S4 w F5 F6 G1 (fun k => k = gm ∨ k = gl) dg fg g gm ar d2 d2 [[]] [[]] false false w9.drew) := Lib.hid (S10.out.below ((Below.refl _ _).drew))
  have BS0 : Hid (Bs w9.drew w9.drew.heap.size (some ⟨gb, 1, none⟩) b) := Lib.hid BS.out
  clear hHeld S10 BS
  generalize w9.drew = v0 at S11 BS0 ⊢
  refine wpAnyH_take (i := 0) (oi := ⟨some 94, _, _, _, _, _⟩) (v := ?vl17_1) rfl (by kernel_rfl) (by kernel_rfl) (by kernel_rfl) (fun _ _ _ h => h) (Or.inl ⟨by rfl, ?yl17_1⟩) trivial ?rl17_1
  case yl17_1 =>
    rintro w' hSw
    go_simp
    try with_reducible rfl
  try simp only [Act.put, List.setIfInBounds_toArray, List.set_cons_zero, List.set_cons_succ]
  refine wpAnyH_take (i := 1) (oi := ⟨some 95, _, _, _, _, _⟩) (v := ?vl17_2) rfl (by kernel_rfl) (by kernel_rfl) (by kernel_rfl) (fun _ _ _ h => h) (Or.inl ⟨by rfl, ?yl17_2⟩) trivial ?rl17_2
  case yl17_2 =>
    rintro w' hSw
    go_simp
    try with_reducible rfl
  try simp only [Act.put, List.setIfInBounds_toArray, List.set_cons_zero, List.set_cons_succ]
  refine wpAnyH_ready (rs := [2]) (by kernel_rfl) (by simp) ?_
  refine (AllReadyH.cons rfl (fun K hK => ?_) AllReadyH.nil)
  go_simp
  refine (append_stop g dg ar 0 [[]] false _ 40001 40001 G1 v0 S11.out.log (.inl (by omega))).mono ?_
  rintro e v1 ⟨rfl, hb⟩
  rw [if_pos (by omega)]
  have S12 := Lib.hid (S11.out.below hb)
  have BS1 := Lib.hid ((BS0.out.below hb).more hb.size)
  clear hb S11 BS0
  refine hK _ _ trivial (fun _ => ?_)
  clear hK K
  try simp only [Act.put, List.setIfInBounds_toArray, List.set_cons_zero, List.set_cons_succ]
  refine wpAnyH_take (i := 3) (oi := ⟨some 97, _, _, _, _, _⟩) (v := ?vl17_4) rfl (by kernel_rfl) (by kernel_rfl) (by kernel_rfl) (fun _ _ _ h => h) (Or.inl ⟨by rfl, ?yl17_4⟩) trivial ?rl17_4
  case yl17_4 =>
    rintro w' hSw
    go_simp
    try with_reducible rfl
  try simp only [Act.put, List.setIfInBounds_toArray, List.set_cons_zero, List.set_cons_succ]
  refine wpAnyH_take (i := 4) (oi := ⟨some 98, _, _, _, _, _⟩) (v := ?vl17_5) rfl (by kernel_rfl) (by kernel_rfl) (by kernel_rfl) (fun _ _ _ h => h) (Or.inl ⟨by rfl, ?yl17_5⟩) trivial ?rl17_5
  case yl17_5 =>
    rintro w' hSw
    go_simp
    try with_reducible rfl
  try simp only [Act.put, List.setIfInBounds_toArray, List.set_cons_zero, List.set_cons_succ]
  refine wpAnyH_take (i := 5) (oi := ⟨some 99, _, _, _, _, _⟩) (v := ?vl17_6) rfl (by kernel_rfl) (by kernel_rfl) (by kernel_rfl) (fun _ _ _ h => h) (Or.inl ⟨by rfl, ?yl17_6⟩) trivial ?rl17_6
  case yl17_6 =>
    rintro w' hSw
    go_simp
    try with_reducible rfl
  try simp only [Act.put, List.setIfInBounds_toArray, List.set_cons_zero, List.set_cons_succ]
  refine wpAnyH_take (i := 6) (oi := ⟨some 100, _, _, _, _, _⟩) (v := ?vl17_7) rfl (by kernel_rfl) (by kernel_rfl) (by kernel_rfl) (fun _ _ _ h => h) (Or.inl ⟨by rfl, ?yl17_7⟩) trivial ?rl17_7
  case yl17_7 =>
    rintro w' hSw
    go_simp
    try with_reducible rfl
  try simp only [Act.put, List.setIfInBounds_toArray, List.set_cons_zero, List.set_cons_succ]
  refine wpAnyH_ready (rs := [7]) (by kernel_rfl) (by simp) ?_
  refine (AllReadyH.cons rfl (fun K hK => ?_) AllReadyH.nil)
  go_simp
  refine (check_stop g dg ar 0 [[]] false _ 40001 40001 G1 v1 S12.out.log (.inl (by omega))).mono ?_
  rintro e v2 ⟨rfl, hb⟩
  rw [if_pos (by omega)]
  have S13 := Lib.hid (S12.out.below hb)
  have BS2 := Lib.hid ((BS1.out.below hb).more hb.size)
  clear hb S12 BS1
  refine hK _ _ trivial (fun _ => ?_)
  clear hK K
  try simp only [Act.put, List.setIfInBounds_toArray, List.set_cons_zero, List.set_cons_succ]
  refine wpAnyH_take (i := 8) (oi := ⟨some 102, _, _, _, _, _⟩) (v := ?vl17_9) rfl (by kernel_rfl) (by kernel_rfl) (by kernel_rfl) (fun _ _ _ h => h) (Or.inl ⟨by rfl, ?yl17_9⟩) trivial ?rl17_9
  case yl17_9 =>
    rintro w' hSw
    go_simp
    try with_reducible rfl
  try simp only [Act.put, List.setIfInBounds_toArray, List.set_cons_zero, List.set_cons_succ]
  refine wpAnyH_take (i := 9) (oi := ⟨some 103, _, _, _, _, _⟩) (v := ?vl17_10) rfl (by kernel_rfl) (by kernel_rfl) (by kernel_rfl) (fun _ _ _ h => h) (Or.inl ⟨by rfl, ?yl17_10⟩) trivial ?rl17_10
  case yl17_10 =>
    rintro w' hSw
    go_simp
    try with_reducible rfl
  try simp only [Act.put, List.setIfInBounds_toArray, List.set_cons_zero, List.set_cons_succ]
  refine wpAnyH_take (i := 10) (oi := ⟨some 104, _, _, _, _, _⟩) (v := ?vl17_11) rfl (by kernel_rfl) (by kernel_rfl) (by kernel_rfl) (fun _ _ _ h => h) (Or.inl ⟨by rfl, ?yl17_11⟩) trivial ?rl17_11
  case yl17_11 =>
    rintro w' hSw
    go_simp
    try with_reducible rfl
  try simp only [Act.put, List.setIfInBounds_toArray, List.set_cons_zero, List.set_cons_succ]
  refine wpAnyH_take (i := 11) (oi := ⟨some 105, _, _, _, _, _⟩) (v := ?vl17_12) rfl (by kernel_rfl) (by kernel_rfl) (by kernel_rfl) (fun _ _ _ h => h) (Or.inl ⟨by rfl, ?yl17_12⟩) trivial ?rl17_12
  case yl17_12 =>
    rintro w' hSw
    go_simp
    try with_reducible rfl
  try simp only [Act.put, List.setIfInBounds_toArray, List.set_cons_zero, List.set_cons_succ]
  refine wpAnyH_take (i := 12) (oi := ⟨some 106, _, _, _, _, _⟩) (v := ?vl17_13) rfl (by kernel_rfl) (by kernel_rfl) (by kernel_rfl) (fun _ _ _ h => h) (Or.inl ⟨by rfl, ?yl17_13⟩) trivial ?rl17_13
  case yl17_13 =>
    rintro w' hSw
    go_simp
    try with_reducible rfl
  try simp only [Act.put, List.setIfInBounds_toArray, List.set_cons_zero, List.set_cons_succ]
  refine wpAnyH_take (i := 13) (oi := ⟨some 107, _, _, _, _, _⟩) (v := ?vl17_14) rfl (by kernel_rfl) (by kernel_rfl) (by kernel_rfl) (fun _ _ _ h => h) (Or.inl ⟨by rfl, ?yl17_14⟩) trivial ?rl17_14
  case yl17_14 =>
    rintro w' hSw
    go_simp
    try with_reducible rfl
  try simp only [Act.put, List.setIfInBounds_toArray, List.set_cons_zero, List.set_cons_succ]
  refine wpAnyH_take (i := 15) (oi := ⟨some 109, _, _, _, _, _⟩) (v := ?vl17_15) rfl (by kernel_rfl) (by kernel_rfl) (by kernel_rfl) (fun _ _ _ h => h) (Or.inl ⟨by rfl, ?yl17_15⟩) trivial ?rl17_15
  case yl17_15 =>
    rintro w' hSw
    go_simp
    try with_reducible rfl
  try simp only [Act.put, List.setIfInBounds_toArray, List.set_cons_zero, List.set_cons_succ]
  refine wpAnyH_take (i := 16) (oi := ⟨some 110, _, _, _, _, _⟩) (v := ?vl17_16) rfl (by kernel_rfl) (by kernel_rfl) (by kernel_rfl) (fun _ _ _ h => h) (Or.inl ⟨by rfl, ?yl17_16⟩) trivial ?rl17_16
  case yl17_16 =>
    rintro w' hSw
    go_simp
    try with_reducible rfl
  try simp only [Act.put, List.setIfInBounds_toArray, List.set_cons_zero, List.set_cons_succ]
  refine wpAnyH_take (i := 17) (oi := ⟨some 111, _, _, _, _, _⟩) (v := ?vl17_17) rfl (by kernel_rfl) (by kernel_rfl) (by kernel_rfl) (fun _ _ _ h => h) (Or.inl ⟨by rfl, ?yl17_17⟩) trivial ?rl17_17
  case yl17_17 =>
    rintro w' hSw
    go_simp
    try with_reducible rfl
  try simp only [Act.put, List.setIfInBounds_toArray, List.set_cons_zero, List.set_cons_succ]
  refine wpAnyH_ready (rs := [14]) (by kernel_rfl) (by simp) ?_
  refine (AllReadyH.cons rfl (fun K hK => ?_) AllReadyH.nil)
  go_simp
  refine (HL.out F5 F6 G1 _ v2 S13.out BS2.out (fun h => by have := HGB.out gb (.inl h); omega) (fun h => by have := HGB.out gb (.inr (.inr h)); omega)).mono ?_
  rintro e v3 ⟨rfl, F7, G3, hs, hbs⟩
  have S14 := Lib.hid hs
  have BS3 := Lib.hid hbs
  clear hs hbs S13 BS2
  refine hK _ _ trivial (fun _ => ?_)
  clear hK K
  try simp only [Act.put, List.setIfInBounds_toArray, List.set_cons_zero, List.set_cons_succ]
  refine wpAnyH_ready (rs := [18]) (by kernel_rfl) (by simp) ?_
  refine (AllReadyH.cons rfl (fun K hK => ?_) AllReadyH.nil)
  go_simp
  refine (HR.out F7 F6 G3 _ v3 S14.out BS3.out (fun h => by have := HGB.out gb (.inr (.inl h)); omega)).mono ?_
  rintro e v4 ⟨rfl, F8, G4, hs⟩
  have S15 := Lib.hid hs
  clear hs S14 BS3
  refine hK _ _ trivial (fun _ => ?_)
  clear hK K
  try simp only [Act.put, List.setIfInBounds_toArray, List.set_cons_zero, List.set_cons_succ]
  refine wpAnyH_take (i := 19) (oi := ⟨some 113, _, _, _, _, _⟩) (v := ?vl17_20) rfl (by kernel_rfl) (by kernel_rfl) (by kernel_rfl) (fun _ _ _ h => h) (Or.inl ⟨by rfl, ?yl17_20⟩) trivial ?rl17_20
  case yl17_20 =>
    rintro w' hSw
    go_simp
    try with_reducible rfl
  try simp only [Act.put, List.setIfInBounds_toArray, List.set_cons_zero, List.set_cons_succ]
  refine wpAnyH_take (i := 20) (oi := ⟨some 114, _, _, _, _, _⟩) (v := ?vl17_21) rfl (by kernel_rfl) (by kernel_rfl) (by kernel_rfl) (fun _ _ _ h => h) (Or.inl ⟨by rfl, ?yl17_21⟩) trivial ?rl17_21
  case yl17_21 =>
    rintro w' hSw
    go_simp
    try with_reducible rfl
  try simp only [Act.put, List.setIfInBounds_toArray, List.set_cons_zero, List.set_cons_succ]
  refine wpAnyH_done (by kernel_rfl) ?_ _
  go_wp2_with fail
  refine (agree_any g dg gm fg ar fs3 br3 G3 G4 v4 S15.out.log S15.out.mdl (fun k hk => (S15.out.g1 k hk).1) (fun k hk => (S15.out.g2 k hk).1) HFS.out.1 HFS.out.2.1 ha HFS.out.2.2.1).mono ?_
  rintro e v5 ⟨rfl, hb⟩
  have S16 := Lib.hid (S15.out.below hb)
  clear hb S15
  go_wp2_with fail
  refine (alike_any dg fg d3 F7 F8 v5 S16.out.s2.h1 S16.out.s2.h2 (by have := HFS.out.2.2.2; omega)).mono ?_
  rintro e v6 ⟨rfl, hb⟩
  have HE := Lib.hid (S16.out.s2.hb.trans (hb.mono S16.out.s2.hb.size))
  clear hb S16
  go_wp2
  go_ret
  exact ⟨rfl, HE.out⟩

theorem resT_WalFormats : Try.f3.resultTypes = #[4] := by kernel_rfl
set_option maxRecDepth 100000 in
theorem lifted_WalFormats (os : Os) (started : os.Started) (H : Type) (enc : TypeId × Value → H) :
    ReturnsInHanded {} Try.checked os 3 .any (Rows.walFormatsSpec.pre6 enc Try.prog Try.f3 Rows.walFormatsRow.domain false) (Rows.walFormatsSpec.post enc Try.prog Try.f3 false true false false) := by
  refine Lift.law_lift (C := Try.checked) (s := Rows.walFormatsSpec) (tb := 4) own laidOut started (by kernel_rfl) Try.func3
    (ChangeSpec.witness6 (enc := enc) (C := Try.checked) false ⟨#[], #[.int .i64 0, .int .i64 0, .int .i64 0], []⟩ 8 (by kernel_rfl) (by kernel_rfl) (by kernel_rfl) (by kernel_rfl))
    rfl resT_WalFormats Try.underlying4 (by
      have hr : ∀ t ∈ ([3, 3, 3] : List TypeId), Try.prog.readableRec t = true ∧ t < Try.prog.types.size := by
        intro t ht
        simp only [List.mem_cons, List.not_mem_nil, or_false] at ht
        rcases ht with rfl | rfl | rfl <;> exact ⟨by kernel_rfl, of_decide_eq_true (by kernel_rfl)⟩
      intro t ht
      exact hr t (by
        have ht' : t ∈ Try.f3.params.toList := ht
        rw [Try.params3] at ht'
        exact ht')) ?_
  intro W base args ds p hval0 hA0 hsz0
  have hval : ∀ (j : Nat) t v, Try.f3.params[j]? = some t → args[j]? = some v → Value.okWide Try.prog W .any base t v := hval0
  have hA : DataW.TrodAll enc Try.prog W 0 (fun _ => true) true Try.f3.params.toList args.toList ds p := hA0
  clear hval0 hA0 hsz0
  rw [Try.params3] at hA hval
  obtain ⟨v0, vs0, d0, ds0, p0, q0, hargs, rfl, rfl, h0, r0⟩ := trodAll_cons hA
  obtain ⟨v1, vs1, d1, ds1, p1, q1, rfl, rfl, rfl, h1, r1⟩ := trodAll_cons r0
  obtain ⟨v2, vs2, d2, ds2, p2, q2, rfl, rfl, rfl, h2, r2⟩ := trodAll_cons r1
  obtain ⟨rfl, rfl, rfl⟩ := trodAll_nil r2
  obtain rfl : args = #[v0, v1, v2] := by cases args; simp_all
  obtain ⟨a0, rfl, rfl, rfl, w0⟩ := open_int Try.underlying3 (hval 0 3 v0 rfl rfl) h0
  obtain ⟨a1, rfl, rfl, rfl, w1⟩ := open_int Try.underlying3 (hval 1 3 v1 rfl rfl) h1
  obtain ⟨a2, rfl, rfl, rfl, w2⟩ := open_int Try.underlying3 (hval 2 3 v2 rfl rfl) h2
  exact ⟨rfl, walk a0 a1 a2 W⟩

theorem proved_WalFormats : Rows.WalFormatsSaid :=
  OpenClaim.holds_of_wide 3 Try.f3 rfl rfl rfl rfl rfl rfl rfl ⟨rfl, rfl, rfl, rfl, rfl⟩ rfl rfl rfl rfl rfl (by kernel_rfl) Try.func3 (by kernel_rfl)
    (of_decide_eq_true (by kernel_rfl)) (by unfold Func.isWrapper; first | (rw [if_pos (by decide +kernel)]; kernel_rfl) | (rw [if_neg (by decide +kernel)]; exact ⟨rfl, rfl⟩))
    (fun os started H enc _ => lifted_WalFormats os started H enc)
end Go.Proofs.Yteemdjamgbbjhaa.WalFor
