/-
  WalTwice: what Open left is found again, and nothing is written. No condition.
-/
import Derived.Deep.Cut
import Derived.Deep.CutRange
import Derived.Test.YtchagomphpfimaaTw7
namespace Go.Proofs.Ytchagomphpfimaa.WalTwi
set_option maxRecDepth 100000
open Go.RowKit Go.Shelf Go.Proofs.Ytchagomphpfimaa.Wd Go.Proofs.Ytchagomphpfimaa.Dsk Go.Proofs.Ytchagomphpfimaa.Oct Go.Proofs.Ytchagomphpfimaa.Sum Go.Proofs.Ytchagomphpfimaa.Beq Go.Proofs.Ytchagomphpfimaa.Wl Go.ChangeShapes Go.WideShapes Go.ChangeAt

theorem own : ownKnob Try.prog.godebug = none := by kernel_rfl
theorem laidOut : laidOutB Try.prog = true := by kernel_rfl
set_option maxHeartbeats 16000000 in
theorem walk (A0 : Option Addr) (n0 c0 : Nat) (os : List OM) (oc : OM) (w : World) (hl0 : os.length = n0) (hlc0 : n0 ≤ c0) (hn0 : A0 = none → c0 = 0) (hm0 : c0 ≤ maxLen) (ho0 : Opl w w.heap.size A0 os) (hoc : OpOk w oc) :
    Calls Try.prog 6 #[.slice A0 n0 c0, oc.val] w fun e w' => e = .returned (.bool true) ∧ Below w.heap.size w w' := by
  have mixed : Try.prog.follows .mixedOrders = true := by kernel_rfl
  have HI4 := Lib.hid fun (k a : Int) (x : UInt8) (A : Option Addr) (n c : Nat) => (show (Try.prog.info? 55).map (·.size) = some ([.int .i64 k, .int .i64 a, .int .u8 (x.toNat : Int), .slice A n c] : List Value).length from size55)
  obtain ⟨n, hn⟩ : ∃ n, n = min n0 40 := ⟨_, rfl⟩
  have hn40 : n ≤ 40 := by omega
  have hnl : n ≤ os.length := by omega
  have HFW := Lib.hid (fun W => few_any A0 n0 c0 W hlc0 hn0 hm0)
  rw [← hn] at HFW
  have hnc : n ≤ c0 := by omega
  have HO := Lib.hid ho0
  have HNL := Lib.hid hnl
  have HBO := Lib.hid (fun W => bytes_any oc W)
  have HML : Hid ((opB oc).length ≤ 400) := Lib.hid (by rw [opB_len]; have := (len_lt oc.a).1; omega)
  have HOC := Lib.hid (show oc.l.length = oc.n ∧ Vs w w.heap.size oc.A (bools oc.l) ∧ (oc.A = none → oc.c = 0) ∧ oc.n ≤ 140737488351232 from ⟨hoc.len, hoc.vs, hoc.nil, hoc.most⟩)
  obtain ⟨cb, hcb⟩ : ∃ cb, opB oc = cb := ⟨_, rfl⟩
  rw [hcb] at HBO HML
  obtain ⟨mm, hmm, hmod⟩ := mod25 oc.a
  have hmi : IntKind.i64.wrap (mm : Int) = (mm : Int) := by rw [IntKind.wrap_i64]; omega
  clear ho0 hnl hn hoc hcb
  obtain ⟨kc, ac, xc, Ac, nc, cc, lc⟩ := oc
  unfold OM.val opv at HBO ⊢
  dsimp only at HBO HOC hmod ⊢
  obtain ⟨w0, hw0⟩ : ∃ w0, w0 = w.alloc (.cells #[.int .i64 kc, .int .i64 ac, .int .u8 (xc.toNat : Int), .slice Ac nc cc] 55) := ⟨_, rfl⟩
  have hr0 : Row w0 w.heap.size 55 [.int .i64 kc, .int .i64 ac, .int .u8 (xc.toNat : Int), .slice Ac nc cc] := by rw [hw0]; exact Row.new w _ _
  have hb0 : Below w.heap.size w w0 := by rw [hw0]; exact (Below.refl _ _).alloc (Nat.le_refl _) _
  have HW0 := Lib.hid hw0
  have hww : w.alloc (.cells #[.int .i64 kc, .int .i64 ac, .int .u8 (xc.toNat : Int), .slice Ac nc cc] 55) = w0 := hw0.symm
  have HR0 := Lib.hid hr0
  have HB0 := Lib.hid hb0
  clear hw0 hr0 hb0
  go_enter Try.func6, Try.ntmps6
  go_wp2_with fail
  refine (wakes_any _).mono ?_
  rintro e w1 ⟨rfl, hb1⟩
  have HR1 := Lib.hid (HR0.out.below hb1 HR0.out.lt)
  have HBW : Hid (∀ W, Below w1.heap.size w1 W → Below w.heap.size w W) := Lib.hid fun W hb => (HB0.out.trans (hb1.mono HB0.out.size)).trans (hb.mono (Nat.le_trans HB0.out.size hb1.size))
  clear hb1 hww HW0 HR0 HB0
  obtain ⟨b3, hb3⟩ : ∃ b3, w.heap.size = b3 := ⟨_, rfl⟩
  have HB3 := Lib.hid hb3
  rw [hb3] at HR1 ⊢
  clear hb3
  go_wp2_with fail
  refine (made_any 10 w1 (by omega) (by omega)).mono ?_
  rintro e w2 ⟨dg, g, F, G, rfl, hd, hlog, hF, hG, hb2⟩
  have HT0 : Hid (TJ w1 dg g 0 0 [[]] w2) := Lib.hid ⟨⟨F, G, _, hd, hlog, hF, hG, (form_lies (area := 10) (by omega) (by omega)).2⟩, Nat.le_refl _, by simp, hb2⟩
  clear hd hlog hF hG hb2
  go_wp2_with fail
  refine (HFW.out w2).mono ?_
  rintro e wx ⟨rfl, rfl⟩
  go_wp2_with fail
  go_loopw [23] (fun t23 wr => ∃ (r t : Nat) (fs : List (List UInt8)), r ≤ n ∧ t23 = .int .i64 (r : Int) ∧ Hid (TJ w1 dg g r t fs wr)) (fun t23 _ => n - (intOf t23).toNat)
  case atStart => exact ⟨0, 0, [[]], by omega, rfl, HT0⟩
  case round =>
    obtain ⟨r, t, fs, hr, rfl, HT⟩ := hrel
    clear HT0
    by_cases hlt : r < n
    case neg =>
      have h1 : ¬ (r : Int) < (n : Int) := by omega
      have HR3 : Hid (Row wr b3 55 [.int .i64 kc, .int .i64 ac, .int .u8 (xc.toNat : Int), .slice Ac nc cc]) := Lib.hid (HR1.out.below HT.out.hb HR1.out.lt)
      have hlt3 : b3 < w1.heap.size := HR1.out.lt
      have HLT3 := Lib.hid hlt3
      obtain ⟨⟨F, G, d, hd, hlog, hF, hG, hl⟩, htt, hlen, hbw⟩ := HT.out
      have HD := Lib.hid hd
      have HLG := Lib.hid hlog
      have HF := Lib.hid hF
      have HG := Lib.hid hG
      have HL := Lib.hid hl
      have HBR := Lib.hid hbw
      have c1 : wr.cell? ⟨b3, 1, none⟩ = some (.int .i64 ac) := HR3.out.cell 1
      clear hd hlog hF hG hl hbw hlt3 HT HR1 HFW HO HNL hnc hlc0 hn0 hm0
      go_wp2_with fail
      refine (arm_any dg d F (mm : Int) wr HD.out.1 (by omega)).mono ?_
      rintro e W2 ⟨rfl, F2', hd2', hx2, ho2⟩
      obtain ⟨F2, hd2, hff⟩ := dk_min hd2'
      have HD2 := Lib.hid hd2
      have HF2 : Hid (∀ k, F2 k → w1.heap.size ≤ k) := Lib.hid fun k hk => ext_new HBR.out.size hx2 HF.out k (hff k hk)
      have HL2 := Lib.hid (log_off HLG.out HD.out ho2)
      have HB2 := Lib.hid (below_off HBR.out ho2 HF.out)
      have HR32 : Hid (Row W2 b3 55 [.int .i64 kc, .int .i64 ac, .int .u8 (xc.toNat : Int), .slice Ac nc cc]) := Lib.hid ((ho2.block b3 HR3.out.lt (fun h => by have := HF.out b3 h; have := HLT3.out; omega)).trans HR3.out)
      clear hd2' hx2 ho2 hd2 hff HD HLG HBR HR3 HF c1
      go_wp2_with (first
        | (with_reducible refine Wl.wpList_load_row (op := ⟨some 47, _, _, _, _, _⟩) ?_ 55 (.tmp 3) ?_ b3 0 ?_ [.int .i64 kc, .int .i64 ac, .int .u8 (xc.toNat : Int), .slice Ac nc cc] _ (Row.all HR32.out) Try.underlying55 ?_ (HI4.out _ _ _ _ _ _) ?_))
      all_goals try (first | rfl | (simp; done))
      go_wp2_with fail
      refine (HBO.out W2).mono ?_
      rintro e W3 ⟨g3, rfl, hr3, hg3, hb3⟩
      have BY3 : Hid (By W3 (some ⟨g3, 0, none⟩) cb.length cb.length cb) := Lib.hid (by_of_row hr3 (by have := HML.out; omega))
      have HD3 := Lib.hid (HD2.out.below hb3)
      have HL3 := Lib.hid (log_below HL2.out hb3)
      have HB3B := Lib.hid (HB2.out.trans (hb3.mono HB2.out.size))
      have HR33 := Lib.hid (HR32.out.below hb3 HR32.out.lt)
      clear hr3 hg3 hb3 HD2 HL2 HB2 HR32
      go_wp2_with fail
      refine (append_cut HD3.out HL3.out HF2.out (fun k hk => (HG.out k hk).1) HL.out (by omega) HB3B.out _ _ _ cb BY3.out rfl HML.out).mono ?_
      rintro e W4 ⟨⟨v, rfl⟩, ⟨d6, F6, hd6, hf6, hp6, hc6⟩, hb4⟩
      have HD6 := Lib.hid hd6
      have HF6 := Lib.hid hf6
      have HP6 := Lib.hid hp6
      have HC6 := Lib.hid hc6
      have HR34 : Hid (Row W4 b3 55 [.int .i64 kc, .int .i64 ac, .int .u8 (xc.toNat : Int), .slice Ac nc cc]) := Lib.hid (by
        have h := hb4.block b3 HLT3.out
        have h2 := HB3B.out.block b3 HLT3.out
        exact h.trans (h2.symm.trans HR33.out))
      have HB4 := Lib.hid hb4
      clear hd6 hf6 hp6 hc6 hb4 HD3 HL3 HB3B HR33 HF2 HG HL
      have c3 : (W4.alloc (.cells #[] 4)).cell? ⟨b3, 3, none⟩ = some (.slice Ac nc cc) := (HR34.out.alloc _).cell 3
      obtain ⟨i0, hi0, hz0, hz1, hz2⟩ := info_parts info4
      have HI := Lib.hid hi0
      have HZ0 := Lib.hid hz0
      have HZ1 := Lib.hid hz1
      have HZ2 := Lib.hid hz2
      have OWN0 : Hid ((W4.alloc (.cells #[] 4)).ownsRow W4.heap.size 4 1 (.slice (some ⟨W4.heap.size, 0, none⟩) 0 0) 0 []) := Lib.hid (World.ownsRow_made W4 #[] 0 (Nat.le_refl _) (Nat.zero_le _) rfl)
      have HVS : Hid (Vs (W4.alloc (.cells #[] 4)) w.heap.size Ac (bools lc)) := Lib.hid (HOC.out.2.1.below ((HBW.out W4 HB4.out).alloc (HBW.out W4 HB4.out).size _))
      have HLC : Hid ((bools lc).length = nc) := Lib.hid (by rw [bools, List.length_map]; exact HOC.out.1)
      have HAC := Lib.hid HOC.out.2.2.1
      have hnc2 : nc ≤ 140737488351232 := HOC.out.2.2.2
      clear hi0 hz0 hz1 hz2
      go_wp2_with (first
        | (with_reducible refine wpList_append_vs (o := ⟨some 54, _, _, _, _, _⟩) ?_ (.tmp 51) (.tmp 53) 53 ?_ W4.heap.size 4 i0 (.bool false) Try.underlying53 HI.out HZ0.out HZ1.out HZ2.out ?_ (.slice (some ⟨W4.heap.size, 0, none⟩) 0 0) 0 [] ?_ OWN0.out Ac nc cc (bools lc) ?_ HLC.out w.heap.size HVS.out bools_one HAC.out ?_ ?_ ?_))
      all_goals try (first | rfl | omega | (simp; done))
      intro v' W5 hown5 hg5
      have hown6 : W5.ownsRow W4.heap.size 4 1 v' nc (bools lc) := by simpa using hown5
      obtain ⟨A', c', rfl, _, _, hv5, hba5⟩ := own_vs hown6
      have hb5 : Below W4.heap.size W4 W5 := ((Below.refl _ _).alloc (Nat.le_refl _) _).grown hg5 (by simp) (fun k e => Nat.le_of_eq (Option.some.inj e))
      have HV5 := Lib.hid hv5
      have HFA : Hid (∀ b o s, A' = some ⟨b, o, s⟩ → ¬ F6 b) := Lib.hid fun b o s e hf => by have := hba5 b o s e; have := HD6.out.1.2 b hf; omega
      have HD65 := Lib.hid (HD6.out.below hb5)
      have HB5 := Lib.hid (HB4.out.trans (hb5.mono HB4.out.size))
      clear hown5 hg5 hown6 hv5 hba5 hb5 HD6 HB4 HR34 c3 OWN0 HVS HI HZ0 HZ1 HZ2 HLC HAC
      go_wp2_with fail
      refine (crash_any dg d6 F6 A' nc c' lc W5 HD65.out.1 (by have := HP6.out; omega) HOC.out.1 HV5.out HFA.out).mono ?_
      rintro e W6 ⟨rfl, F7', hd7', hx7, ho7⟩
      obtain ⟨F7, hd7, hf7⟩ := dk_min hd7'
      obtain ⟨cc1, cc2, t7, fs7, hsh⟩ := HC6.out lc
      obtain ⟨C, hC⟩ : ∃ C, d6.crashM lc = C := ⟨_, rfl⟩
      rw [hC] at hd7 cc1 cc2 hsh
      obtain ⟨d8, he8, hcs8, hp8, hsh8, hcl8⟩ := open_clean (area := 10) cc1 cc2 hsh
      have HD7 := Lib.hid hd7
      have HF7 : Hid (∀ k, F7 k → w1.heap.size ≤ k) := Lib.hid fun k hk => ext_new HB5.out.size hx7 HF6.out k (hf7 k hk)
      have HB7 := Lib.hid (below_off HB5.out ho7 HF6.out)
      have HE8 := Lib.hid he8
      have HP8 := Lib.hid cc2
      have HS8 := Lib.hid hsh8
      have HC8 := Lib.hid hcl8
      have HCS8 := Lib.hid (And.intro hcs8 hp8)
      clear hd7' hx7 ho7 hd7 hf7 cc1 cc2 hsh hC he8 hcs8 hp8 hsh8 hcl8 HD65 HB5 HFA HV5 HF6 HC6 HP6
      go_wp2_with fail
      refine (open_any dg C F7 W6 HD7.out (by rw [HP8.out]; exact Nat.zero_le _)).mono ?_
      rintro e W7 hopn
      rw [HE8.out] at hopn
      obtain ⟨p, F8, rfl, hd8, hx8, ho8, _, hg8⟩ := hopn
      obtain ⟨g8, rfl, hl8, _, _, _, _, hus8, hne8, _⟩ := hg8 rfl
      dsimp only at hd8 hl8 hus8 hne8
      have LG8 := Lib.hid (Wl.tight hl8)
      have HD8 := Lib.hid hd8
      have HF8 : Hid (∀ k, F8 k → w1.heap.size ≤ k) := Lib.hid (ext_new HB7.out.size hx8 HF7.out)
      have HB8 := Lib.hid (below_off HB7.out ho8 HF7.out)
      have HUS := Lib.hid (And.intro hus8 hne8)
      clear hd8 hx8 ho8 hg8 hl8 hus8 hne8 HD7 HF7 HB7 HE8 HP8
      dsimp only
      go_wp2_with fail
      refine (arm_any dg d8 F8 0 W7 HD8.out.1 (by omega)).mono ?_
      rintro e W8 ⟨rfl, F9', hd9', hx9, ho9⟩
      obtain ⟨F9, hd9, hf9⟩ := dk_min hd9'
      obtain ⟨z1, z2, z3, z4⟩ := arm_zero HCS8.out.1
      obtain ⟨d9, hd9e⟩ : ∃ d9, (d8.armM 0).1 = d9 := ⟨_, rfl⟩
      rw [hd9e] at z1 z2 z3 z4 hd9
      obtain ⟨o9, he9⟩ := open_again (d := d9) (t := t7) (area := 10) (fs := fs7) z1 z2 (by rw [z3]; exact HCS8.out.2) (by rw [z4]; exact HS8.out) (by rw [z4]; exact HC8.out)
      have HD9 := Lib.hid hd9
      have HF9 : Hid (∀ k, F9 k → w1.heap.size ≤ k) := Lib.hid fun k hk => ext_new HB8.out.size hx9 HF8.out k (hf9 k hk)
      have HB9 := Lib.hid (below_off HB8.out ho9 HF8.out)
      have LG9 := Lib.hid (log_off LG8.out HD8.out ho9)
      have SZ9 : Hid (W7.heap.size ≤ W8.heap.size) := Lib.hid ho9.size
      have HE9 := Lib.hid he9
      have HP9 : Hid (d9.pend = [] ∧ d9.dead = false) := Lib.hid ⟨by rw [z3]; exact HCS8.out.2, z1⟩
      clear hd9' hx9 ho9 hd9 hf9 z1 z2 z3 z4 hd9e he9 LG8 HD8 HF8 HB8 HS8 HC8 HCS8
      go_wp2_with fail
      refine (open_any dg d9 F9 W8 HD9.out (by rw [HP9.out.1]; exact Nat.zero_le _)).mono ?_
      rintro e W9 hopn
      rw [HE9.out] at hopn
      obtain ⟨p, F10, rfl, hd10, hx10, ho10, _, hg10⟩ := hopn
      obtain ⟨g10, rfl, hl10, _, _, _, _, _, _, _⟩ := hg10 rfl
      dsimp only at hd10 hl10
      have LGA := Lib.hid (log_off LG9.out HD9.out ho10)
      have LGB := Lib.hid (Wl.tight hl10)
      have HBA := Lib.hid (below_off HB9.out ho10 HF9.out)
      have SZA : Hid (W8.heap.size ≤ W9.heap.size) := Lib.hid ho10.size
      have HDE := dead_any dg _ F10 W9 hd10.1.1
      rw [show (({ d9 with ops := o9 } : DM)).dead = false from HP9.out.2] at HDE
      have HDD := Lib.hid HDE
      have HFL : Hid (fs7.length ≤ 10) := Lib.hid (Nat.le_trans (used_most fs7) HUS.out.1)
      clear hd10 hx10 ho10 hg10 hl10 LG9 HD9 HF9 HB9 HE9 HDE
      dsimp only
      go_wp2_with fail
      refine HDD.out.mono ?_
      rintro e wz ⟨rfl, rfl⟩
      go_wp2_with fail
      refine (told_any g8 dg 10 t7 fs7 false _ wz LGA.out (fun k hk => Nat.lt_of_lt_of_le hk.2 (Nat.le_trans SZ9.out SZA.out)) HUS.out.2 (by have := HFL.out; omega)).mono ?_
      rintro e X1 ⟨v1, rfl, hs1, hx1⟩
      have ST1 := Lib.hid hs1
      have LGA1 := Lib.hid (log_below LGA.out hx1)
      have LGB1 := Lib.hid (log_below LGB.out hx1)
      have HBX1 := Lib.hid (HBA.out.trans (hx1.mono HBA.out.size))
      have SX1 : Hid (wz.heap.size ≤ X1.heap.size) := Lib.hid hx1.size
      clear hs1 hx1 LGA LGB HBA HDD
      go_wp2_with fail
      refine (told_any g10 dg 10 t7 fs7 false _ X1 LGB1.out (fun k hk => Nat.lt_of_lt_of_le hk.2 SX1.out) HUS.out.2 (by have := HFL.out; omega)).mono ?_
      rintro e X2 ⟨v2, rfl, hs2, hx2⟩
      have ST2 := Lib.hid hs2
      have ST12 := Lib.hid (ST1.out.below hx2)
      have LGA2 := Lib.hid (log_below LGA1.out hx2)
      have LGB2 := Lib.hid (log_below LGB1.out hx2)
      have HBX2 := Lib.hid (HBX1.out.trans (hx2.mono HBX1.out.size))
      clear hs2 hx2 LGA1 LGB1 HBX1 ST1
      go_wp2_with fail
      refine (same_any _ _ _ _ _ _ _ _ X2 ST12.out ST2.out (by have := HFL.out; rw [List.length_drop]; omega)).mono ?_
      rintro e X3 ⟨rfl, hx3⟩
      rw [show ∀ (b : List UInt8) (L : List (List UInt8)), sameS b b L L = true from fun b L => by simp [sameS]]
      have hx3' := hx3
      have LGA3 := Lib.hid (log_below LGA2.out hx3)
      have LGB3 := Lib.hid (log_below LGB2.out (hx3.trans ((Below.refl _ _).drew)))
      have LGA4 := Lib.hid (log_below LGA2.out ((hx3.trans ((Below.refl _ _).drew)).trans ((Below.refl _ _).drew)))
      have LGB4 := Lib.hid (log_below LGB2.out ((hx3.trans ((Below.refl _ _).drew)).trans ((Below.refl _ _).drew)))
      have HBX3 := Lib.hid (HBX2.out.trans (((hx3.trans ((Below.refl _ _).drew)).trans ((Below.refl _ _).drew)).mono HBX2.out.size))
      clear hx3 hx3' LGA2 LGB2 HBX2 ST12 ST2
      go_wp2_with fail
      refine (left_lg LGA3.out (by omega) HUS.out.1).mono ?_
      rintro e wl ⟨rfl, rfl⟩
      go_wp2_with fail
      refine (left_lg LGB3.out (by omega) HUS.out.1).mono ?_
      rintro e wl ⟨rfl, rfl⟩
      go_wp2_with fail
      refine (turn_lg LGA4.out).mono ?_
      rintro e wl ⟨rfl, rfl⟩
      go_wp2_with fail
      refine (turn_lg LGB4.out).mono ?_
      rintro e wl ⟨rfl, rfl⟩
      go_wp2
      go_ret
      exact ⟨rfl, HBW.out _ HBX3.out⟩
    have h1 : (r : Int) < (n : Int) := by omega
    have hro : r < os.length := Nat.lt_of_lt_of_le hlt HNL.out
    obtain ⟨bo, oo, rfl, hbo, hat⟩ := HO.out (by omega)
    obtain ⟨o, ho⟩ : ∃ o, os[r] = o := ⟨_, rfl⟩
    have hat2 := hat r o (by rw [List.getElem?_eq_getElem hro, ho])
    have HOA : Hid (wr.rangeAt bo (oo + r * 4) o.cells) := Lib.hid (range_below hat2 (HBW.out wr HT.out.hb) hbo)
    have HKD := Lib.hid (fun W => kind_any o W)
    have HBY := Lib.hid (fun W => bytes_any o W)
    have HMO : Hid ((opB o).length ≤ 400) := Lib.hid (by rw [opB_len]; have := (len_lt o.a).1; omega)
    obtain ⟨kd, hkd⟩ : ∃ kd, kindW o.k = kd := ⟨_, rfl⟩
    obtain ⟨ob, hob⟩ : ∃ ob, opB o = ob := ⟨_, rfl⟩
    rw [hob] at HBY HMO
    rw [hkd] at HKD
    clear hat hat2 ho hob hro hbo hkd HBO HML HOC hmod hmi hmm HR1
    obtain ⟨k, a, x, Ak, nk, ck, lk⟩ := o
    unfold OM.val opv at HKD HBY
    unfold OM.cells ocs at HOA
    dsimp only at HKD HBY HOA
    have hccc : (0 : Int) ≤ (r : Int) := by omega
    go_wp2_with (first
      | (with_reducible refine Wl.wpList_load_row (op := ⟨some 26, _, _, _, _, _⟩) ?_ 55 (.tmp 25) ?_ bo (oo + r * 4) ?_ [.int .i64 k, .int .i64 a, .int .u8 (x.toNat : Int), .slice Ak nk ck] _ HOA.out Try.underlying55 ?_ (HI4.out _ _ _ _ _ _) ?_))
    all_goals try (first | rfl | (simp; done))
    have hr9 : Row (wr.alloc (.cells #[.int .i64 k, .int .i64 a, .int .u8 (x.toNat : Int), .slice Ak nk ck] 55)) wr.heap.size 55 [.int .i64 k, .int .i64 a, .int .u8 (x.toNat : Int), .slice Ak nk ck] := Row.new wr _ _
    have hb0 : Below wr.heap.size wr (wr.alloc (.cells #[.int .i64 k, .int .i64 a, .int .u8 (x.toNat : Int), .slice Ak nk ck] 55)) := (Below.refl _ _).alloc (Nat.le_refl _) _
    generalize wr.alloc (.cells #[.int .i64 k, .int .i64 a, .int .u8 (x.toNat : Int), .slice Ak nk ck] 55) = W0 at hr9 hb0 ⊢
    obtain ⟨b9, hb9⟩ : ∃ b9, wr.heap.size = b9 := ⟨_, rfl⟩
    have HB9 := Lib.hid hb9
    rw [hb9] at hr9 ⊢
    have R9 := Lib.hid hr9
    have T0 := Lib.hid (HT.out.below hb0)
    clear hb0 hr9 hb9 HOA HT
    go_wp2_with (first
      | (with_reducible refine Wl.wpList_load_row (op := ⟨some 27, _, _, _, _, _⟩) ?_ 55 (.tmp 8) ?_ b9 0 ?_ [.int .i64 k, .int .i64 a, .int .u8 (x.toNat : Int), .slice Ak nk ck] _ (Row.all R9.out) Try.underlying55 ?_ (HI4.out _ _ _ _ _ _) ?_))
    all_goals try (first | rfl | (simp; done))
    go_wp2_with fail
    refine (HKD.out W0).mono ?_
    rintro e W1 ⟨rfl, hb1⟩
    have R91 := Lib.hid (R9.out.below hb1 R9.out.lt)
    have T1 := Lib.hid (T0.out.below hb1)
    clear hb1 R9 T0
    by_cases hk1 : kd = 1
    · have hk1i : (kd : Int) = 1 := by omega
      clear hk1
      go_wp2_with (first
        | (with_reducible refine Wl.wpList_load_row (op := ⟨some 31, _, _, _, _, _⟩) ?_ 55 (.tmp 8) ?_ b9 0 ?_ [.int .i64 k, .int .i64 a, .int .u8 (x.toNat : Int), .slice Ak nk ck] _ (Row.all R91.out) Try.underlying55 ?_ (HI4.out _ _ _ _ _ _) ?_))
      all_goals try (first | rfl | (simp; done))
      go_wp2_with fail
      refine (HBY.out W1).mono ?_
      rintro e W3 ⟨g3, rfl, hr3, hg3, hb3⟩
      have T3 := Lib.hid (T1.out.below hb3)
      have BY3 : Hid (By W3 (some ⟨g3, 0, none⟩) ob.length ob.length ob) := Lib.hid (by_of_row hr3 (by have := HMO.out; omega))
      clear hr3 hg3 hb3 R91 T1
      go_wp2_with fail
      refine (chk_turn T3.out (by omega) _ _ _ ob BY3.out rfl HMO.out).mono ?_
      rintro e W4 ⟨⟨v, rfl⟩, t', fs', hT4⟩
      have T4 := Lib.hid hT4
      clear hT4
      go_wp2
      go_roundw
      case rel => exact ⟨r + 1, t', fs', by omega, by go_num, T4⟩
      case measure => simp [intOf]; omega
    have hk1i : ¬ (kd : Int) = 1 := by omega
    clear hk1
    go_wp2_with (first
      | (with_reducible refine Wl.wpList_load_row (op := ⟨some 35, _, _, _, _, _⟩) ?_ 55 (.tmp 8) ?_ b9 0 ?_ [.int .i64 k, .int .i64 a, .int .u8 (x.toNat : Int), .slice Ak nk ck] _ (Row.all R91.out) Try.underlying55 ?_ (HI4.out _ _ _ _ _ _) ?_))
    all_goals try (first | rfl | (simp; done))
    go_wp2_with fail
    refine (HBY.out W1).mono ?_
    rintro e W3 ⟨g3, rfl, hr3, hg3, hb3⟩
    have T3 := Lib.hid (T1.out.below hb3)
    have BY3 : Hid (By W3 (some ⟨g3, 0, none⟩) ob.length ob.length ob) := Lib.hid (by_of_row hr3 (by have := HMO.out; omega))
    clear hr3 hg3 hb3 R91 T1
    go_wp2_with fail
    refine (app_turn T3.out (by omega) _ _ _ ob BY3.out rfl HMO.out).mono ?_
    rintro e W4 ⟨⟨v, rfl⟩, t', fs', hT4⟩
    have T4 := Lib.hid hT4
    clear hT4
    go_wp2
    go_roundw
    case rel => exact ⟨r + 1, t', fs', by omega, by go_num, T4⟩
    case measure => simp [intOf]; omega

theorem resT_WalTwice : Try.f6.resultTypes = #[4] := by kernel_rfl
set_option maxRecDepth 100000 in
theorem lifted_WalTwice (os : Os) (started : os.Started) (H : Type) (enc : TypeId × Value → H) :
    ReturnsInHanded {} Try.checked os 6 .any (Rows.walTwiceSpec.pre6 enc Try.prog Try.f6 Rows.walTwiceRow.domain false) (Rows.walTwiceSpec.post enc Try.prog Try.f6 false true false false) := by
  refine Lift.law_lift (C := Try.checked) (s := Rows.walTwiceSpec) (tb := 4) own laidOut started (by kernel_rfl) Try.func6
    (ChangeSpec.witness6 (enc := enc) (C := Try.checked) false ⟨#[], #[.slice none 0 0, .agg #[.int .i64 0, .int .i64 0, .int .u8 0, .slice none 0 0]], []⟩ 8 (by kernel_rfl) (by kernel_rfl) (by kernel_rfl) (by kernel_rfl))
    rfl resT_WalTwice Try.underlying4 (by
      have hr : ∀ t ∈ ([52, 55] : List TypeId), Try.prog.readableRec t = true ∧ t < Try.prog.types.size := by
        intro t ht
        simp only [List.mem_cons, List.not_mem_nil, or_false] at ht
        rcases ht with rfl | rfl <;> exact ⟨by kernel_rfl, of_decide_eq_true (by kernel_rfl)⟩
      intro t ht
      exact hr t (by
        have ht' : t ∈ Try.f6.params.toList := ht
        rw [Try.params6] at ht'
        exact ht')) ?_
  intro W base args ds p hval0 hA0 hsz0
  have hval : ∀ (j : Nat) t v, Try.f6.params[j]? = some t → args[j]? = some v → Value.okWide Try.prog W .any base t v := hval0
  have hA : DataW.TrodAll enc Try.prog W 0 (fun _ => true) true Try.f6.params.toList args.toList ds p := hA0
  have hsz : (DataW.weightsEach Try.prog Try.f6.params.toList ds).all (· ≤ reachBytes) = true := hsz0
  clear hval0 hA0 hsz0
  rw [Try.params6] at hA hval hsz
  obtain ⟨v0, vs0, d0, ds0, p0, q0, hargs, rfl, rfl, h0, r0⟩ := trodAll_cons hA
  obtain ⟨v1, vs1, d1, ds1, p1, q1, rfl, rfl, rfl, h1, r1⟩ := trodAll_cons r0
  obtain ⟨rfl, rfl, rfl⟩ := trodAll_nil r1
  obtain rfl : args = #[v0, v1] := by cases args; simp_all
  obtain ⟨A0, n0, c0, os0, rfl, hl0, hlc0, hn0, hm0, ho0, hk0⟩ := open_ops (hval 0 52 v0 rfl rfl) h0 (by rw [List.all_eq_true] at hsz ⊢; intro z hz; exact hsz z (DataW.weights_mem_each (j := 0) (t := 52) (d := d0) rfl rfl z hz))
  obtain ⟨cs1, rfl, _⟩ := okWide_struct Try.underlying55 (hval 1 55 v1 rfl rfl)
  obtain ⟨fuel1, hf1⟩ := h1
  obtain ⟨o1, hcs1, hok1⟩ := open_op hf1 (by rw [List.all_eq_true] at hsz ⊢; intro z hz; exact hsz z (DataW.weights_mem_each (j := 1) (t := 55) (d := d1) rfl rfl z hz))
  have hv1 : Value.agg cs1 = o1.val := by
    have : cs1.toList = o1.cells := by simpa [Value.cells] using hcs1
    show _ = Value.agg (o1.cells).toArray
    rw [← this]
  rw [hv1]
  exact ⟨rfl, walk A0 n0 c0 os0 o1 W hl0 hlc0 hn0 hm0 ho0 hok1⟩

theorem proved_WalTwice : Rows.WalTwiceSaid :=
  OpenClaim.holds_of_wide 6 Try.f6 rfl rfl rfl rfl rfl rfl rfl ⟨rfl, rfl, rfl, rfl, rfl⟩ rfl rfl rfl rfl rfl (by kernel_rfl) Try.func6 (by kernel_rfl)
    (of_decide_eq_true (by kernel_rfl)) (by unfold Func.isWrapper; first | (rw [if_pos (by decide +kernel)]; kernel_rfl) | (rw [if_neg (by decide +kernel)]; exact ⟨rfl, rfl⟩))
    (fun os started H enc _ => lifted_WalTwice os started H enc)
end Go.Proofs.Ytchagomphpfimaa.WalTwi
