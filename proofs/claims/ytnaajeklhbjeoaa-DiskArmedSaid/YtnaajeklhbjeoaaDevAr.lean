/-
  DiskArmed: an armed disk does as one that is not, till the power goes, and then nothing. No condition.
-/
import Derived.Test.YtnaajeklhbjeoaaDevA1
namespace Go.Proofs.Ytnaajeklhbjeoaa.Dsk
open Go.ChangeShapes Go.WideShapes Go.ChangeAt Go.RowKit Go.Proofs.Ytnaajeklhbjeoaa.Wd

theorem own : ownKnob Try.prog.godebug = none := by kernel_rfl
theorem laidOut : laidOutB Try.prog = true := by kernel_rfl
theorem two_new {w1 w2 : World} {B ga gb : Nat} {da db : DM} {Fa Fb : Nat → Prop} (h1 : Disk w1 Fa ga da) (hFa : ∀ k, Fa k → B ≤ k) (hb : Below w1.heap.size w1 w2) (h2 : Disk w2 Fb gb db) (hFb : ∀ k, Fb k → w1.heap.size ≤ k) (hB : B ≤ w1.heap.size) : Two w2 B ga gb da db :=
  ⟨Fa, Fb, h1.below hb, h2, (fun k hk hf => by have := h1.2 k hk; have := hFb k hf; omega), hFa, (fun k hk => Nat.le_trans hB (hFb k hk)), fun k hf => hf.elim⟩

/-- as 'left', the call told that the blocks of X lie apart -/
theorem TwoX.leftX {w : World} {B ga gb : Nat} {X : Nat → Prop} {da db d' : DM} {f : FuncId} {args : Array Value} {v : Value} (h : TwoX w B X ga gb da db) (hB : B ≤ w.heap.size) (hX : ∀ k, X k → k < w.heap.size)
    (hc : ∀ F, Disk w F ga da → (∀ k, X k → ¬ F k) → Calls Try.prog f args w fun e w' => e = .returned v ∧ Goes F w ga d' w') :
    Calls Try.prog f args w fun e w' => e = .returned v ∧ TwoX w' B X ga gb d' db ∧ Below B w w' ∧ ∀ k, X k → w'.heap[k]? = w.heap[k]? := by
  obtain ⟨Fa, Fb, h1, h2, h3, h4, h5, h6⟩ := h
  refine (hc Fa h1 (fun k hk => (h6 k hk).1)).mono fun e w' ⟨he, F', hd, hx, ho⟩ => ⟨he, ⟨F', Fb, hd, h2.off (fun k hk hf => h3 k hf hk) ho, fun k hk hf => ?_, fun k hk => ?_, h5, fun k hk => ⟨fun hf => ?_, (h6 k hk).2⟩⟩, ho.below h4 hB, fun k hk => ho.block k (hX k hk) (h6 k hk).1⟩
  · rcases hx k hk with h | h
    · exact h3 k h hf
    · have := h2.2 k hf; omega
  · rcases hx k hk with h | h
    · exact h4 k h
    · omega
  · rcases hx k hf with h | h
    · exact (h6 k hk).1 h
    · have := hX k hk; omega
theorem TwoX.offX {w w' : World} {B ga gb : Nat} {X : Nat → Prop} {da db : DM} (h : TwoX w B X ga gb da db) (ho : Off X w w') : TwoX w' B X ga gb da db := by
  obtain ⟨Fa, Fb, h1, h2, h3, h4, h5, h6⟩ := h
  exact ⟨Fa, Fb, h1.off (fun k hk hx => (h6 k hx).1 hk) ho, h2.off (fun k hk hx => (h6 k hx).2 hk) ho, h3, h4, h5, h6⟩
theorem make_bools (n : Nat) (hn : n ≤ 1000000) (u : World) : (Instr.makeSlice 35 (.int .i64 (n : Int)) (.int .i64 (n : Int))).run Try.prog u =
    .ok (.slice (some ⟨u.heap.size, 0, none⟩) n n) (u.alloc (.cells (madeCells #[.bool false] n) 4)) := by
  obtain ⟨i0, hi, hz0, hz1, hz2⟩ := info_parts info4
  have h := run_make (P := Try.prog) u 35 4 i0 (.bool false) Try.underlying35 hi hz0 .i64 .i64 (n : Int) (n : Int) (by omega) (Int.le_refl _) (by rw [hz2]; omega) (by omega)
  rw [hz1, Int.toNat_natCast, Nat.mul_one] at h
  exact h

set_option maxRecDepth 100000 in
set_option maxHeartbeats 8000000 in
theorem armed_walk (A : Option Addr) (n c : Nat) (os : List OM) (N : Int) (w : World) (hl : os.length = n) (hc : n ≤ c) (hA : A = none → c = 0) (hm : c ≤ maxLen) (ho : Opl w w.heap.size A os) (hok : ∀ o ∈ os, OpOk w o) :
    Calls Try.prog 7 #[.slice A n c, .int .i64 N] w fun e w' => e = .returned (.bool true) ∧ Below w.heap.size w w' := by
  have HM := Lib.hid hm
  have HOS := Lib.hid ho
  have HOKS := Lib.hid hok
  have HLS := Lib.hid hl
  obtain ⟨M, hMN⟩ : ∃ M : Int, M = if N < 0 then 0 else N := ⟨_, rfl⟩
  have hM0 : 0 ≤ M := by rw [hMN]; split <;> omega
  have HMN := Lib.hid hMN
  have HBZ := Lib.hid built_zero
  have HSZN : Hid ((Try.prog.info? 39).map (·.size) = some nought.length) := size39
  clear hm ho hok hl hMN
  go_enter Try.func7, Try.ntmps7
  go_wp2_with fail
  refine (wakes_any w).mono ?_
  rintro e w0 ⟨rfl, hb0⟩
  have HB0 := Lib.hid hb0
  clear hb0
  go_wp2_with (first
    | (with_reducible refine wpList_max0 (o := ⟨some 24, _, _, _, _, _⟩) ?_ (.tmp 23) ?_ N M ?_ HMN.out ?_))
  all_goals try rfl
  go_wp2_with fail
  generalize hq : M % 40 = q
  have hq0 : 0 ≤ q := by omega
  have hq40 : q < 40 := by omega
  clear hq HMN hM0
  refine (worn_any none 0 0 [] w0 rfl (Nat.le_refl _) (fun _ => rfl) (Nat.zero_le _) (fun hp => absurd hp (by simp)) (fun o h => by cases h)).mono ?_
  rintro e w1 ⟨ga, rfl, Fa, hDa, hFa, hb1⟩
  have HDa := Lib.hid hDa
  have HFa := Lib.hid hFa
  have HB1 := Lib.hid (HB0.out.trans (hb1.mono HB0.out.size))
  have hs1 : w0.heap.size ≤ w1.heap.size := hb1.size
  clear hDa hFa hb1
  go_wp2_with fail
  refine (worn_any none 0 0 [] w1 rfl (Nat.le_refl _) (fun _ => rfl) (Nat.zero_le _) (fun hp => absurd hp (by simp)) (fun o h => by cases h)).mono ?_
  rintro e w2 ⟨gb, rfl, Fb, hDb, hFb, hb2⟩
  have HT2 : Hid (Two w2 w.heap.size ga gb (DM.new 6) (DM.new 6)) := (show Two _ _ _ _ _ _ from two_new HDa.out (fun k hk => Nat.le_trans HB0.out.size (HFa.out k hk)) hb2 hDb hFb HB1.out.size)
  have HB2 := Lib.hid (HB1.out.trans (hb2.mono HB1.out.size))
  clear hDb hFb hb2 HDa HFa HB0 HB1 hs1
  go_wp2_with fail
  refine (TwoX.left HT2.out HB2.out.size (fun _ hf => hf.elim) (fun F hF => arm_any ga (DM.new 6) F q w2 hF (by omega))).mono ?_
  rintro e w3 ⟨rfl, hT3, hb3, _⟩
  obtain ⟨hfs, hrel⟩ := arel_start q hq0
  rw [hfs]
  have HB3 := Lib.hid (HB2.out.trans hb3)
  have HI3 := Lib.hid (show ∃ da db, ARel q (0 : Nat) da db ∧ Two w3 w.heap.size ga gb da db ∧ db.pend.length ≤ 0 ∧ Below w.heap.size w w3 from ⟨_, _, hrel, hT3, by simp [DM.new], HB3.out⟩)
  clear hT3 hb3 hfs hrel HT2 HB2 HB3
  go_wp2_with fail
  refine (few_any A n c w3 hc hA HM.out).mono ?_
  rintro e w4 ⟨rfl, rfl⟩
  obtain ⟨L, hL⟩ : ∃ L, L = os.take 120 := ⟨_, rfl⟩
  have hlen : L.length = min n 120 := by rw [hL, List.length_take, HLS.out, Nat.min_comm]
  have HO : Hid (Opl w w.heap.size A L) := (show Opl _ _ _ _ by rw [hL]; exact HOS.out.take 120)
  have HOK : Hid (∀ o ∈ L, OpOk w o) := (show ∀ o ∈ _, _ from fun o h => HOKS.out o (List.mem_of_mem_take (hL ▸ h)))
  have hlm : L.length ≤ 120 := by omega
  rw [← hlen]
  obtain ⟨m, hm⟩ : ∃ m, m = L.length := ⟨_, rfl⟩
  rw [← hm]
  rw [← hm] at hlm
  have HLM := Lib.hid hm
  clear hlen hm hA hc hL HOS HOKS HLS HM
  go_wp2
  go_loopw [7, 43] (fun v i wr => ∃ k : Nat, k ≤ m ∧ i = .int .i64 k ∧ ∃ t : Nat, t ≤ k ∧ v = .int .i64 t ∧ Hid (∃ da db, ARel q (t : Int) da db ∧ Two wr w.heap.size ga gb da db ∧ db.pend.length ≤ k ∧ Below w.heap.size w wr)) (fun _ i _ => m - (intOf i).toNat)
  case atStart => exact ⟨0, by omega, rfl, 0, by omega, rfl, HI3⟩
  case round =>
    obtain ⟨k, hk, rfl, t, ht, rfl, HI⟩ := hrel
    rename World => wr
    by_cases hlt : k < m
    · have hkl : k < L.length := by rw [← HLM.out]; exact hlt
      obtain ⟨da, db, hrel, hT, hpb, hBr⟩ := HI.out
      obtain ⟨b, qo, rfl, hbl, hr⟩ := HO.out (by omega)
      have hget : L[k]? = some L[k] := List.getElem?_eq_getElem hkl
      have hrg := range_below (hr k _ hget) hBr hbl
      have hoo := HOK.out L[k] (List.getElem_mem hkl)
      obtain ⟨om, hom⟩ : ∃ om, om = L[k] := ⟨_, rfl⟩
      rw [← hom] at hrg hoo
      have HREL := Lib.hid hrel
      have HT := Lib.hid hT
      have HPB := Lib.hid hpb
      have HBR := Lib.hid hBr
      have HOO := Lib.hid hoo
      clear hr hget hom hrel hT hpb hBr hoo HI
      obtain ⟨kd, a, x, Ak, nk, ck, lk⟩ := om
      have c0 : wr.cell? ⟨b, qo + k * 4, none⟩ = some (.int .i64 kd) := hrg 0 _ rfl
      have c1 : wr.cell? ⟨b, qo + k * 4 + 1, none⟩ = some (.int .i64 a) := hrg 1 _ rfl
      have c2 : wr.cell? ⟨b, qo + k * 4 + 2, none⟩ = some (.int .u8 (x.toNat : Int)) := hrg 2 _ rfl
      have c3 : wr.cell? ⟨b, qo + k * 4 + 3, none⟩ = some (.slice Ak nk ck) := hrg 3 _ rfl
      clear hrg
      go_wp2_with fail
      refine (kind_any kd a _ (x.toNat : Int) rfl Ak nk ck _).mono ?_
      rintro e w5 ⟨rfl, hb5⟩
      have r5 := Row.below (Row.new wr 37 (ocs kd a x Ak nk ck)) hb5 (by simp)
      have hb05 : Below wr.heap.size wr w5 := ((Below.refl _ _).alloc (Nat.le_refl _) _).trans (hb5.mono (by simp))
      have hsr : wr.heap.size < w5.heap.size := r5.lt
      have HR5 := Lib.hid r5
      have HB5 := Lib.hid (HBR.out.trans (hb05.mono HBR.out.size))
      have HT5 : Hid (TwoX w5 w.heap.size (fun j => False ∨ j = wr.heap.size) ga gb da db) := (show TwoX _ _ _ _ _ _ _ from TwoX.add HT.out hb05)
      clear hb5 r5 hb05 c0 c1 c2 c3 HT HBR
      by_cases hk2 : 2 < kindM kd
      · have HI5 := Lib.hid (show ∃ da db, ARel q (t : Int) da db ∧ Two w5 w.heap.size ga gb da db ∧ db.pend.length ≤ k + 1 ∧ Below w.heap.size w w5 from ⟨da, db, HREL.out, HT5.out.two, Nat.le_succ_of_le HPB.out, HB5.out⟩)
        clear HREL HT5 HPB HB5 HOO HR5
        go_wp2
        go_roundw
        case rel => exact ⟨k + 1, by omega, by go_num, t, by omega, rfl, HI5⟩
        case measure => simp [intOf]; omega
      have HR := HR5
      have HB := HB5
      have HT := HT5
      clear HR5 HB5 HT5
      by_cases heq : (t : Int) = q
      · subst heq
        have d0 : w5.cell? ⟨wr.heap.size, 0, none⟩ = some (.int .i64 kd) := HR.out.cell 0
        have d1 : w5.cell? ⟨wr.heap.size, 1, none⟩ = some (.int .i64 a) := HR.out.cell 1
        have d2 : w5.cell? ⟨wr.heap.size, 2, none⟩ = some (.int .u8 (x.toNat : Int)) := HR.out.cell 2
        have d3 : w5.cell? ⟨wr.heap.size, 3, none⟩ = some (.slice Ak nk ck) := HR.out.cell 3
        go_wp2_with fail
        refine (kind_any kd a _ (x.toNat : Int) rfl Ak nk ck _).mono ?_
        rintro e w6 ⟨rfl, hbk⟩
        have rk := HR.out.below hbk hsr
        have HR' := Lib.hid rk
        have HB' := Lib.hid (HB.out.trans (hbk.mono HB.out.size))
        have HT' := Lib.hid (HT.out.below hbk)
        have hsr' : wr.heap.size < w6.heap.size := rk.lt
        clear d0 d1 d2 d3 HB HT HR hbk rk hsr
        have HR := HR'
        have HB := HB'
        have HT := HT'
        have hsr := hsr'
        clear HR' HB' HT' hsr'
        by_cases h0 : 0 < kindM kd
        · have d0 : w6.cell? ⟨wr.heap.size, 0, none⟩ = some (.int .i64 kd) := HR.out.cell 0
          have d1 : w6.cell? ⟨wr.heap.size, 1, none⟩ = some (.int .i64 a) := HR.out.cell 1
          have d2 : w6.cell? ⟨wr.heap.size, 2, none⟩ = some (.int .u8 (x.toNat : Int)) := HR.out.cell 2
          have d3 : w6.cell? ⟨wr.heap.size, 3, none⟩ = some (.slice Ak nk ck) := HR.out.cell 3
          go_wp2_with fail
          refine (kind_any kd a _ (x.toNat : Int) rfl Ak nk ck _).mono ?_
          rintro e w7 ⟨rfl, hbk⟩
          have rk := HR.out.below hbk hsr
          have HR' := Lib.hid rk
          have HB' := Lib.hid (HB.out.trans (hbk.mono HB.out.size))
          have HT' := Lib.hid (HT.out.below hbk)
          have hsr' : wr.heap.size < w7.heap.size := rk.lt
          clear d0 d1 d2 d3 HB HT HR hbk rk hsr
          have HR := HR'
          have HB := HB'
          have HT := HT'
          have hsr := hsr'
          clear HR' HB' HT' hsr'
          by_cases h2 : kindM kd = 2
          · have HEND : Hid (Ends (t : Int) (t : Int) ⟨kd, a, x, Ak, nk, ck, lk⟩) := (show _ ∧ _ from ⟨rfl, h0, .inl h2⟩)
            have hnow := HREL.out.now ⟨kd, a, x, Ak, nk, ck, lk⟩ (by show kindM kd ≤ 2; omega) HEND.out
            obtain ⟨hh1, hh2, hh3, hh4⟩ := HREL.out.held
            obtain ⟨dd, hdd⟩ : ∃ dd : DM, dd = { da with dead := true } := ⟨_, rfl⟩
            rw [← hdd] at hnow
            have hddd : dd.dead = true := by rw [hdd]
            have hdsec : dd.sec = db.sec := by rw [hdd]; exact hh3
            have hdpend : dd.pend = db.pend := by rw [hdd]; exact hh4
            have hdinv : Inv dd := by
              have h := HREL.out.inv
              unfold Inv at h ⊢
              rw [hdsec, hdpend]; exact h
            obtain ⟨u1, u2, u3, u4⟩ := dead_does hddd
            obtain ⟨dc, hdc⟩ : ∃ dc, dc = dd.crashM (List.replicate dd.pend.length true) := ⟨_, rfl⟩
            have hcr := crash_all hdinv (List.replicate dd.pend.length true) (fun i hi => by simp [List.getD_eq_getElem?_getD, hi])
            rw [← hdc] at hcr
            have hha := calm_held hcr.1
            have hhb := calm_held HREL.out.calm
            obtain ⟨Lh, hLh⟩ : ∃ Lh, Lh = db.sec := ⟨_, rfl⟩
            rw [hcr.2, hdsec, ← hLh] at hha
            rw [← hLh] at hhb
            have HSIX : Hid (db.sec.length = 6) := (show _ = _ from HREL.out.six)
            have HSA : Hid (dc.sec.length = 6) := (show _ = _ by rw [hcr.2, hdsec]; exact HSIX.out)
            have HLL : Hid (Lh.length = 6) := (show _ = _ by rw [hLh]; exact HSIX.out)
            obtain ⟨dha, hdha⟩ : ∃ dha, dha = dc.heldM.1 := ⟨_, rfl⟩
            obtain ⟨dhb, hdhb⟩ : ∃ dhb, dhb = db.heldM.1 := ⟨_, rfl⟩
            have HDA : Hid (dc.heldM = (dha, Lh)) := (show _ = _ by rw [hdha, ← hha.2])
            have HDB : Hid (db.heldM = (dhb, Lh)) := (show _ = _ by rw [hdhb, ← hhb.2])
            have HNOW := Lib.hid hnow
            have HDDD := Lib.hid hddd
            have U1 := Lib.hid u1
            have U2 := Lib.hid u2
            have U3 := Lib.hid u3
            have U4 := Lib.hid u4
            have HDC := Lib.hid hdc
            have HPE := Lib.hid hh4
            have HDP := Lib.hid hdpend
            have hpn : dd.pend.length ≤ 1000000 := by have := HPB.out; rw [hdpend]; omega
            clear hh1 hh2 hh3 hh4 hnow hdd hddd hdsec hdpend hdinv u1 u2 u3 u4 hdc hcr hha hhb hLh hdha hdhb
            have HL64 : Hid (nought.length = 64) := (show _ = _ from rfl)
            have HSB : Hid ((Try.prog.info? 39).map (·.size) = some (bv nought).length) := (show _ = _ by rw [bv_length, HL64.out]; exact size39)
            have HSL : Hid ((Try.prog.info? 39).map (·.size) = some (nought).length) := (show _ = _ by rw [HL64.out]; exact size39)
            have HFT : Hid (0 + (bv nought).length ≤ (bv nought).length) := (show _ ≤ _ from Nat.le_of_eq ((Nat.zero_add _).trans ((bv_length _).trans (HL64.out.trans rfl))))
            have e0 : w7.cell? ⟨wr.heap.size, 0, none⟩ = some (.int .i64 kd) := HR.out.cell 0
            have e1 : w7.cell? ⟨wr.heap.size, 1, none⟩ = some (.int .i64 a) := HR.out.cell 1
            have e2 : w7.cell? ⟨wr.heap.size, 2, none⟩ = some (.int .u8 (x.toNat : Int)) := HR.out.cell 2
            have e3 : w7.cell? ⟨wr.heap.size, 3, none⟩ = some (.slice Ak nk ck) := HR.out.cell 3
            go_wp2_with fail
            refine (TwoX.left HT.out HB.out.size (fun j hj => by rcases hj with hj | rfl; exact hj.elim; exact hsr) (fun F hF => does_any ga da F ⟨kd, a, x, Ak, nk, ck, lk⟩ w7 hF (by have := HPB.out; have e := HPE.out; rw [e]; omega) (HOO.out.below HB.out) (by show kindM kd ≠ 4; omega))).mono ?_
            rintro e w8 ⟨rfl, hT8, hb8, _⟩
            rw [HNOW.out] at hT8 ⊢
            have HT8 : Hid (Two w8 w.heap.size ga gb dd db) := (show Two _ _ _ _ _ _ from hT8.two)
            have HB8 := Lib.hid (HB.out.trans hb8)
            clear hT8 hb8 HT HB HR hsr e0 e1 e2 e3
            have HRN_w9 := Lib.hid (Row.new w8 39 (bv nought))
            go_wp2_with (first
              | (with_reducible refine wpList_store_in (op := ⟨none, _, _, _, _, _⟩) ?_ 39 (.tmp 10) (.tmp 77) ?_ w8.heap.size 0 (bv nought) ?_ ?_ 39 (bv nought) ?_ HFT.out bv_one HSB.out ?_))
            all_goals try (first | rfl | exact HRN_w9.out)
            intro w9 hr_w9 hg_w9
            rw [splice_all (bv nought) (bv nought) (Eq.symm ((bv_length nought).trans (HL64.out.trans rfl)))] at hr_w9
            have hb_w9 : Below w8.heap.size w8 w9 := ((Below.refl _ _).alloc (Nat.le_refl _) _).grown hg_w9 (by simp) (fun j e => Nat.le_of_eq (Option.some.inj e))
            have HT9 : Hid (Two w9 w.heap.size ga gb dd db) := (show Two _ _ _ _ _ _ from HT8.out.below hb_w9)
            have HB9 := Lib.hid (HB8.out.trans (hb_w9.mono HB8.out.size))
            clear hr_w9 hg_w9 hb_w9 HT8 HB8 HRN_w9
            go_wp2_with fail
            obtain ⟨Ga, Gb, hA2, hrest⟩ := HT9.out
            refine (dead_any ga dd Ga w9 hA2.1).mono ?_
            clear hA2 hrest
            rintro e w10 ⟨rfl, rfl⟩
            rw [HDDD.out]
            go_wp2_with fail
            refine (TwoX.left HT9.out HB9.out.size (fun _ hf => hf.elim) (fun F hF => read_any ga dd F 0 w10 hF)).mono ?_
            rintro e w11 ⟨rfl, hT11, hb11, _⟩
            rw [U1.out] at hT11 ⊢
            have HT11 : Hid (Two w11 w.heap.size ga gb dd db) := (show Two _ _ _ _ _ _ from hT11)
            have HB11 := Lib.hid (HB9.out.trans hb11)
            clear hT11 hb11 HT9 HB9
            have HRN_w12 := Lib.hid (Row.new w11 39 (bv nought))
            go_wp2_with (first
              | (with_reducible refine wpList_store_in (op := ⟨none, _, _, _, _, _⟩) ?_ 39 (.tmp 12) (.tmp 89) ?_ w11.heap.size 0 (bv nought) ?_ ?_ 39 (bv nought) ?_ HFT.out bv_one HSB.out ?_))
            all_goals try (first | rfl | exact HRN_w12.out)
            intro w12 hr_w12 hg_w12
            rw [splice_all (bv nought) (bv nought) (Eq.symm ((bv_length nought).trans (HL64.out.trans rfl)))] at hr_w12
            have hb_w12 : Below w11.heap.size w11 w12 := ((Below.refl _ _).alloc (Nat.le_refl _) _).grown hg_w12 (by simp) (fun j e => Nat.le_of_eq (Option.some.inj e))
            have HT12 : Hid (Two w12 w.heap.size ga gb dd db) := (show Two _ _ _ _ _ _ from HT11.out.below hb_w12)
            have HB12 := Lib.hid (HB11.out.trans (hb_w12.mono HB11.out.size))
            clear hr_w12 hg_w12 hb_w12 HT11 HB11 HRN_w12
            go_wp2_with fail
            refine (TwoX.left HT12.out HB12.out.size (fun _ hf => hf.elim) (fun F hF => arm_any ga dd F 5 w12 hF (by omega))).mono ?_
            rintro e w13 ⟨rfl, hT13, hb13, _⟩
            rw [U2.out] at hT13 ⊢
            have HT13 : Hid (Two w13 w.heap.size ga gb dd db) := (show Two _ _ _ _ _ _ from hT13)
            have HB13 := Lib.hid (HB12.out.trans hb13)
            clear hT13 hb13 HT12 HB12
            go_wp2_with fail
            refine (TwoX.left HT13.out HB13.out.size (fun _ hf => hf.elim) (fun F hF => sync_any ga dd F w13 hF)).mono ?_
            rintro e w14 ⟨rfl, hT14, hb14, _⟩
            rw [U3.out] at hT14 ⊢
            have HT14 : Hid (Two w14 w.heap.size ga gb dd db) := (show Two _ _ _ _ _ _ from hT14)
            have HB14 := Lib.hid (HB13.out.trans hb14)
            clear hT14 hb14 HT13 HB13
            go_wp2_with fail
            refine (TwoX.left HT14.out HB14.out.size (fun _ hf => hf.elim) (fun F hF => fail_any ga dd F 1 w14 hF (by omega))).mono ?_
            rintro e w15 ⟨rfl, hT15, hb15, _⟩
            rw [U4.out] at hT15 ⊢
            have HT15 : Hid (Two w15 w.heap.size ga gb dd db) := (show Two _ _ _ _ _ _ from hT15)
            have HB15 := Lib.hid (HB14.out.trans hb15)
            clear hT15 hb15 HT14 HB14
            go_wp2_with fail
            obtain ⟨Ga, Gb, hA2, hrest⟩ := HT15.out
            refine (pending_any ga dd Ga w15 hA2 hpn).mono ?_
            clear hA2 hrest
            rintro e w20 ⟨rfl, _, hb20⟩
            have HT20 : Hid (Two w20 w.heap.size ga gb dd db) := (show Two _ _ _ _ _ _ from HT15.out.below hb20)
            have HB20 := Lib.hid (HB15.out.trans (hb20.mono HB15.out.size))
            clear hb20 HT15 HB15
            obtain ⟨np, hnp⟩ : ∃ np, np = dd.pend.length := ⟨_, rfl⟩
            rw [← hnp] at hpn HDC ⊢
            have hmk := make_bools np hpn
            have HTK : Hid (TwoX (w20.alloc (.cells (madeCells #[.bool false] np) 4)) w.heap.size (fun j => False ∨ j = w20.heap.size) ga gb dd db) := (show TwoX _ _ _ _ _ _ _ from TwoX.add HT20.out ((Below.refl _ _).alloc (Nat.le_refl _) _))
            have HBK : Hid (Below w.heap.size w (w20.alloc (.cells (madeCells #[.bool false] np) 4))) := (show Below _ _ _ from HB20.out.trans ((Below.refl _ _).alloc HB20.out.size _))
            have HRK : Hid (Row (w20.alloc (.cells (madeCells #[.bool false] np) 4)) w20.heap.size 4 (List.replicate np (Value.bool false))) := (show Row _ _ _ _ from Row.made w20 _ _ _)
            have hw20 : w.heap.size ≤ w20.heap.size := HB20.out.size
            have HNP := Lib.hid hnp
            clear HT20 HB20 hnp
            go_wp2
            go_loopw [115] (fun i wz => ∃ z : Nat, z ≤ np ∧ i = .int .i64 z ∧ Row wz w20.heap.size 4 (List.replicate z (Value.bool true) ++ List.replicate (np - z) (Value.bool false)) ∧ Hid (TwoX wz w.heap.size (fun j => False ∨ j = w20.heap.size) ga gb dd db) ∧ Hid (Below w.heap.size w wz)) (fun i _ => np - (intOf i).toNat)
            case atStart => exact ⟨0, by omega, rfl, by simpa using HRK.out, HTK, HBK⟩
            case round =>
              obtain ⟨z, hz, rfl, hrow, HTZ, HBZ2⟩ := hrel
              rename World => wz
              by_cases hzl : z < np
              · have hcz : wz.cell? ⟨w20.heap.size, z, none⟩ = some (Value.bool false) := by
                  rw [hrow.cell, List.getElem?_append_right (by simp), List.length_replicate, Nat.sub_self, List.getElem?_replicate, if_pos (by omega)]
                have hfz := hrow.frozen z
                have HROW := Lib.hid hrow
                clear hrow
                go_wp2
                go_roundw
                case rel =>
                  refine ⟨z + 1, by omega, by go_num, ?_, (show TwoX _ _ _ _ _ _ _ from HTZ.out.offX ((Off.refl _ _).setCell (.inl (.inr rfl)) _)), (show Below _ _ _ from HBZ2.out.setCell (p := ⟨w20.heap.size, z, none⟩) hw20 _)⟩
                  have h3 := HROW.out.store z (Value.bool true)
                  have e : (List.replicate z (Value.bool true) ++ List.replicate (np - z) (Value.bool false)).set z (Value.bool true) = List.replicate (z + 1) (Value.bool true) ++ List.replicate (np - (z + 1)) (Value.bool false) := by
                    rw [List.set_append_right _ _ (by simp), List.length_replicate, Nat.sub_self, show np - z = (np - (z + 1)) + 1 by omega, List.replicate_succ, List.set_cons_zero, List.replicate_succ', List.append_assoc]
                    rfl
                  rw [← e]; exact h3
                case measure => first | (simp [intOf]; omega) | simp [intOf]
              · obtain rfl : z = np := by omega
                rw [Nat.sub_self, List.replicate_zero, List.append_nil] at hrow
                have hkz : w20.heap.size < wz.heap.size := hrow.lt
                have HVZ : Hid (Vs wz wz.heap.size (some ⟨w20.heap.size, 0, none⟩) (bools (List.replicate z true))) := (show Vs _ _ _ _ from fun _ => ⟨w20.heap.size, 0, rfl, hkz, Row.range hrow fun j v hj => by simpa [bools] using hj⟩)
                clear hrow
                go_wp2_with fail
                refine (TwoX.leftX HTZ.out HBZ2.out.size (fun j hj => by rcases hj with hj | rfl; exact hj.elim; exact hkz) (fun F hF hX => crash_any ga dd F (some ⟨w20.heap.size, 0, none⟩) z z (List.replicate z true) wz hF (by rw [← HNP.out]; exact hpn) (by simp) HVZ.out (fun b o s e => by cases e; exact hX _ (.inr rfl)))).mono ?_
                rintro e w30 ⟨rfl, hT30, hb30, hx30⟩
                rw [← HDC.out] at hT30
                have HTE := Lib.hid hT30
                have HBE := Lib.hid (HBZ2.out.trans hb30)
                have hk30 : w20.heap.size < w30.heap.size := by
                  have h1 := hx30 w20.heap.size (.inr rfl)
                  rw [Array.getElem?_eq_getElem hkz] at h1
                  exact (Array.getElem?_eq_some_iff.1 h1).1
                have HXL : Hid (∀ j, (False ∨ j = w20.heap.size) → j < w30.heap.size) := (show ∀ j, _ → _ from fun j hj => by rcases hj with hj | rfl; exact hj.elim; exact hk30)
                clear hT30 hb30 hx30 HTZ HBZ2
                go_wp2_with fail
                refine (TwoX.heldA HTE.out HBE.out.size (fun j hj => HXL.out j hj)).mono ?_
                rintro e w16 ⟨A1, ch1, rfl, hk1, hbs1, hT16, hb16, _, _⟩
                rw [HDA.out] at hk1 hT16
                have HK1 : Hid (Blks w16 w16.heap.size A1 Lh) := (show Blks _ _ _ _ from hk1)
                have HBS1 := Lib.hid hbs1
                have HT16 := Lib.hid hT16
                have HB16 := Lib.hid (HBE.out.trans hb16)
                have hsz16 : w30.heap.size ≤ w16.heap.size := hb16.size
                clear hk1 hbs1 hT16 hb16 HTE HBE
                go_wp2_with fail
                refine (TwoX.heldB HT16.out HB16.out.size (fun j hj => by rcases hj with hj | hj; exact Nat.lt_of_lt_of_le (HXL.out j hj) hsz16; exact hj.2)).mono ?_
                rintro e w17 ⟨A2, ch2, rfl, hk2, hbs2, hT17, hb17, _, hkp⟩
                have hk1' := hkp A1 _ HK1.out (fun b o s e => .inr ⟨HBS1.out b o s e, by
                  obtain ⟨bb, oo, ee, hlt, _⟩ := HK1.out (by rw [HLL.out]; omega)
                  rw [e] at ee
                  cases ee
                  exact hlt⟩)
                rw [HDB.out] at hk2 hT17
                have HKA := Lib.hid (hk1'.more hb17.2)
                have HKB : Hid (Blks w17 w17.heap.size A2 Lh) := (show Blks _ _ _ _ from hk2)
                have HT17 := Lib.hid hT17
                have HB17 := Lib.hid (HB16.out.trans hb17.1)
                clear hk1' hk2 hbs2 hT17 hb17 hkp HK1 HBS1 HT16 HB16
                have HLA : Hid (Lh.length = dc.sec.length) := (show _ = _ by rw [HLL.out, HSA.out])
                have HLB : Hid (Lh.length = db.sec.length) := (show _ = _ by rw [HLL.out, HSIX.out])
                have HNA : Hid (dc.sec.length ≤ 1000000) := (show _ ≤ _ by rw [HSA.out]; omega)
                have HNB : Hid (db.sec.length ≤ 1000000) := (show _ ≤ _ by rw [HSIX.out]; omega)
                go_wp2_with fail
                refine (same_any A1 A2 dc.sec.length db.sec.length ch1 ch2 Lh Lh w17 HLA.out HLB.out HKA.out HKB.out HNA.out HNB.out).mono ?_
                rintro e w18 ⟨rfl, hb18⟩
                have HB18 := Lib.hid (HB17.out.trans (hb18.mono HB17.out.size))
                have HT18 := Lib.hid (HT17.out.below hb18)
                rw [decide_eq_true (rfl : Lh = Lh)]
                clear hb18 HT17 HB17 HKA HKB
                go_wp2
                go_ret
                exact ⟨rfl, HB18.out⟩
          have g0 : w7.cell? ⟨wr.heap.size, 0, none⟩ = some (.int .i64 kd) := HR.out.cell 0
          have g1 : w7.cell? ⟨wr.heap.size, 1, none⟩ = some (.int .i64 a) := HR.out.cell 1
          have g2 : w7.cell? ⟨wr.heap.size, 2, none⟩ = some (.int .u8 (x.toNat : Int)) := HR.out.cell 2
          have g3 : w7.cell? ⟨wr.heap.size, 3, none⟩ = some (.slice Ak nk ck) := HR.out.cell 3
          by_cases ha0 : 0 ≤ a
          · by_cases ha6 : a < 6
            · have HEND : Hid (Ends (t : Int) (t : Int) ⟨kd, a, x, Ak, nk, ck, lk⟩) := (show _ ∧ _ from ⟨rfl, h0, .inr ⟨ha0, ha6⟩⟩)
              have hnow := HREL.out.now ⟨kd, a, x, Ak, nk, ck, lk⟩ (by show kindM kd ≤ 2; omega) HEND.out
              obtain ⟨hh1, hh2, hh3, hh4⟩ := HREL.out.held
              obtain ⟨dd, hdd⟩ : ∃ dd : DM, dd = { da with dead := true } := ⟨_, rfl⟩
              rw [← hdd] at hnow
              have hddd : dd.dead = true := by rw [hdd]
              have hdsec : dd.sec = db.sec := by rw [hdd]; exact hh3
              have hdpend : dd.pend = db.pend := by rw [hdd]; exact hh4
              have hdinv : Inv dd := by
                have h := HREL.out.inv
                unfold Inv at h ⊢
                rw [hdsec, hdpend]; exact h
              obtain ⟨u1, u2, u3, u4⟩ := dead_does hddd
              obtain ⟨dc, hdc⟩ : ∃ dc, dc = dd.crashM (List.replicate dd.pend.length true) := ⟨_, rfl⟩
              have hcr := crash_all hdinv (List.replicate dd.pend.length true) (fun i hi => by simp [List.getD_eq_getElem?_getD, hi])
              rw [← hdc] at hcr
              have hha := calm_held hcr.1
              have hhb := calm_held HREL.out.calm
              obtain ⟨Lh, hLh⟩ : ∃ Lh, Lh = db.sec := ⟨_, rfl⟩
              rw [hcr.2, hdsec, ← hLh] at hha
              rw [← hLh] at hhb
              have HSIX : Hid (db.sec.length = 6) := (show _ = _ from HREL.out.six)
              have HSA : Hid (dc.sec.length = 6) := (show _ = _ by rw [hcr.2, hdsec]; exact HSIX.out)
              have HLL : Hid (Lh.length = 6) := (show _ = _ by rw [hLh]; exact HSIX.out)
              obtain ⟨dha, hdha⟩ : ∃ dha, dha = dc.heldM.1 := ⟨_, rfl⟩
              obtain ⟨dhb, hdhb⟩ : ∃ dhb, dhb = db.heldM.1 := ⟨_, rfl⟩
              have HDA : Hid (dc.heldM = (dha, Lh)) := (show _ = _ by rw [hdha, ← hha.2])
              have HDB : Hid (db.heldM = (dhb, Lh)) := (show _ = _ by rw [hdhb, ← hhb.2])
              have HNOW := Lib.hid hnow
              have HDDD := Lib.hid hddd
              have U1 := Lib.hid u1
              have U2 := Lib.hid u2
              have U3 := Lib.hid u3
              have U4 := Lib.hid u4
              have HDC := Lib.hid hdc
              have HPE := Lib.hid hh4
              have HDP := Lib.hid hdpend
              have hpn : dd.pend.length ≤ 1000000 := by have := HPB.out; rw [hdpend]; omega
              clear hh1 hh2 hh3 hh4 hnow hdd hddd hdsec hdpend hdinv u1 u2 u3 u4 hdc hcr hha hhb hLh hdha hdhb
              have HL64 : Hid (nought.length = 64) := (show _ = _ from rfl)
              have HSB : Hid ((Try.prog.info? 39).map (·.size) = some (bv nought).length) := (show _ = _ by rw [bv_length, HL64.out]; exact size39)
              have HSL : Hid ((Try.prog.info? 39).map (·.size) = some (nought).length) := (show _ = _ by rw [HL64.out]; exact size39)
              have HFT : Hid (0 + (bv nought).length ≤ (bv nought).length) := (show _ ≤ _ from Nat.le_of_eq ((Nat.zero_add _).trans ((bv_length _).trans (HL64.out.trans rfl))))
              have e0 : w7.cell? ⟨wr.heap.size, 0, none⟩ = some (.int .i64 kd) := HR.out.cell 0
              have e1 : w7.cell? ⟨wr.heap.size, 1, none⟩ = some (.int .i64 a) := HR.out.cell 1
              have e2 : w7.cell? ⟨wr.heap.size, 2, none⟩ = some (.int .u8 (x.toNat : Int)) := HR.out.cell 2
              have e3 : w7.cell? ⟨wr.heap.size, 3, none⟩ = some (.slice Ak nk ck) := HR.out.cell 3
              go_wp2_with fail
              refine (TwoX.left HT.out HB.out.size (fun j hj => by rcases hj with hj | rfl; exact hj.elim; exact hsr) (fun F hF => does_any ga da F ⟨kd, a, x, Ak, nk, ck, lk⟩ w7 hF (by have := HPB.out; have e := HPE.out; rw [e]; omega) (HOO.out.below HB.out) (by show kindM kd ≠ 4; omega))).mono ?_
              rintro e w8 ⟨rfl, hT8, hb8, _⟩
              rw [HNOW.out] at hT8 ⊢
              have HT8 : Hid (Two w8 w.heap.size ga gb dd db) := (show Two _ _ _ _ _ _ from hT8.two)
              have HB8 := Lib.hid (HB.out.trans hb8)
              clear hT8 hb8 HT HB HR hsr e0 e1 e2 e3
              have HRN_w9 := Lib.hid (Row.new w8 39 (bv nought))
              go_wp2_with (first
                | (with_reducible refine wpList_store_in (op := ⟨none, _, _, _, _, _⟩) ?_ 39 (.tmp 10) (.tmp 77) ?_ w8.heap.size 0 (bv nought) ?_ ?_ 39 (bv nought) ?_ HFT.out bv_one HSB.out ?_))
              all_goals try (first | rfl | exact HRN_w9.out)
              intro w9 hr_w9 hg_w9
              rw [splice_all (bv nought) (bv nought) (Eq.symm ((bv_length nought).trans (HL64.out.trans rfl)))] at hr_w9
              have hb_w9 : Below w8.heap.size w8 w9 := ((Below.refl _ _).alloc (Nat.le_refl _) _).grown hg_w9 (by simp) (fun j e => Nat.le_of_eq (Option.some.inj e))
              have HT9 : Hid (Two w9 w.heap.size ga gb dd db) := (show Two _ _ _ _ _ _ from HT8.out.below hb_w9)
              have HB9 := Lib.hid (HB8.out.trans (hb_w9.mono HB8.out.size))
              clear hr_w9 hg_w9 hb_w9 HT8 HB8 HRN_w9
              go_wp2_with fail
              obtain ⟨Ga, Gb, hA2, hrest⟩ := HT9.out
              refine (dead_any ga dd Ga w9 hA2.1).mono ?_
              clear hA2 hrest
              rintro e w10 ⟨rfl, rfl⟩
              rw [HDDD.out]
              go_wp2_with fail
              refine (TwoX.left HT9.out HB9.out.size (fun _ hf => hf.elim) (fun F hF => read_any ga dd F 0 w10 hF)).mono ?_
              rintro e w11 ⟨rfl, hT11, hb11, _⟩
              rw [U1.out] at hT11 ⊢
              have HT11 : Hid (Two w11 w.heap.size ga gb dd db) := (show Two _ _ _ _ _ _ from hT11)
              have HB11 := Lib.hid (HB9.out.trans hb11)
              clear hT11 hb11 HT9 HB9
              have HRN_w12 := Lib.hid (Row.new w11 39 (bv nought))
              go_wp2_with (first
                | (with_reducible refine wpList_store_in (op := ⟨none, _, _, _, _, _⟩) ?_ 39 (.tmp 12) (.tmp 89) ?_ w11.heap.size 0 (bv nought) ?_ ?_ 39 (bv nought) ?_ HFT.out bv_one HSB.out ?_))
              all_goals try (first | rfl | exact HRN_w12.out)
              intro w12 hr_w12 hg_w12
              rw [splice_all (bv nought) (bv nought) (Eq.symm ((bv_length nought).trans (HL64.out.trans rfl)))] at hr_w12
              have hb_w12 : Below w11.heap.size w11 w12 := ((Below.refl _ _).alloc (Nat.le_refl _) _).grown hg_w12 (by simp) (fun j e => Nat.le_of_eq (Option.some.inj e))
              have HT12 : Hid (Two w12 w.heap.size ga gb dd db) := (show Two _ _ _ _ _ _ from HT11.out.below hb_w12)
              have HB12 := Lib.hid (HB11.out.trans (hb_w12.mono HB11.out.size))
              clear hr_w12 hg_w12 hb_w12 HT11 HB11 HRN_w12
              go_wp2_with fail
              refine (TwoX.left HT12.out HB12.out.size (fun _ hf => hf.elim) (fun F hF => arm_any ga dd F 5 w12 hF (by omega))).mono ?_
              rintro e w13 ⟨rfl, hT13, hb13, _⟩
              rw [U2.out] at hT13 ⊢
              have HT13 : Hid (Two w13 w.heap.size ga gb dd db) := (show Two _ _ _ _ _ _ from hT13)
              have HB13 := Lib.hid (HB12.out.trans hb13)
              clear hT13 hb13 HT12 HB12
              go_wp2_with fail
              refine (TwoX.left HT13.out HB13.out.size (fun _ hf => hf.elim) (fun F hF => sync_any ga dd F w13 hF)).mono ?_
              rintro e w14 ⟨rfl, hT14, hb14, _⟩
              rw [U3.out] at hT14 ⊢
              have HT14 : Hid (Two w14 w.heap.size ga gb dd db) := (show Two _ _ _ _ _ _ from hT14)
              have HB14 := Lib.hid (HB13.out.trans hb14)
              clear hT14 hb14 HT13 HB13
              go_wp2_with fail
              refine (TwoX.left HT14.out HB14.out.size (fun _ hf => hf.elim) (fun F hF => fail_any ga dd F 1 w14 hF (by omega))).mono ?_
              rintro e w15 ⟨rfl, hT15, hb15, _⟩
              rw [U4.out] at hT15 ⊢
              have HT15 : Hid (Two w15 w.heap.size ga gb dd db) := (show Two _ _ _ _ _ _ from hT15)
              have HB15 := Lib.hid (HB14.out.trans hb15)
              clear hT15 hb15 HT14 HB14
              go_wp2_with fail
              obtain ⟨Ga, Gb, hA2, hrest⟩ := HT15.out
              refine (pending_any ga dd Ga w15 hA2 hpn).mono ?_
              clear hA2 hrest
              rintro e w20 ⟨rfl, _, hb20⟩
              have HT20 : Hid (Two w20 w.heap.size ga gb dd db) := (show Two _ _ _ _ _ _ from HT15.out.below hb20)
              have HB20 := Lib.hid (HB15.out.trans (hb20.mono HB15.out.size))
              clear hb20 HT15 HB15
              obtain ⟨np, hnp⟩ : ∃ np, np = dd.pend.length := ⟨_, rfl⟩
              rw [← hnp] at hpn HDC ⊢
              have hmk := make_bools np hpn
              have HTK : Hid (TwoX (w20.alloc (.cells (madeCells #[.bool false] np) 4)) w.heap.size (fun j => False ∨ j = w20.heap.size) ga gb dd db) := (show TwoX _ _ _ _ _ _ _ from TwoX.add HT20.out ((Below.refl _ _).alloc (Nat.le_refl _) _))
              have HBK : Hid (Below w.heap.size w (w20.alloc (.cells (madeCells #[.bool false] np) 4))) := (show Below _ _ _ from HB20.out.trans ((Below.refl _ _).alloc HB20.out.size _))
              have HRK : Hid (Row (w20.alloc (.cells (madeCells #[.bool false] np) 4)) w20.heap.size 4 (List.replicate np (Value.bool false))) := (show Row _ _ _ _ from Row.made w20 _ _ _)
              have hw20 : w.heap.size ≤ w20.heap.size := HB20.out.size
              have HNP := Lib.hid hnp
              clear HT20 HB20 hnp
              go_wp2
              go_loopw [115] (fun i wz => ∃ z : Nat, z ≤ np ∧ i = .int .i64 z ∧ Row wz w20.heap.size 4 (List.replicate z (Value.bool true) ++ List.replicate (np - z) (Value.bool false)) ∧ Hid (TwoX wz w.heap.size (fun j => False ∨ j = w20.heap.size) ga gb dd db) ∧ Hid (Below w.heap.size w wz)) (fun i _ => np - (intOf i).toNat)
              case atStart => exact ⟨0, by omega, rfl, by simpa using HRK.out, HTK, HBK⟩
              case round =>
                obtain ⟨z, hz, rfl, hrow, HTZ, HBZ2⟩ := hrel
                rename World => wz
                by_cases hzl : z < np
                · have hcz : wz.cell? ⟨w20.heap.size, z, none⟩ = some (Value.bool false) := by
                    rw [hrow.cell, List.getElem?_append_right (by simp), List.length_replicate, Nat.sub_self, List.getElem?_replicate, if_pos (by omega)]
                  have hfz := hrow.frozen z
                  have HROW := Lib.hid hrow
                  clear hrow
                  go_wp2
                  go_roundw
                  case rel =>
                    refine ⟨z + 1, by omega, by go_num, ?_, (show TwoX _ _ _ _ _ _ _ from HTZ.out.offX ((Off.refl _ _).setCell (.inl (.inr rfl)) _)), (show Below _ _ _ from HBZ2.out.setCell (p := ⟨w20.heap.size, z, none⟩) hw20 _)⟩
                    have h3 := HROW.out.store z (Value.bool true)
                    have e : (List.replicate z (Value.bool true) ++ List.replicate (np - z) (Value.bool false)).set z (Value.bool true) = List.replicate (z + 1) (Value.bool true) ++ List.replicate (np - (z + 1)) (Value.bool false) := by
                      rw [List.set_append_right _ _ (by simp), List.length_replicate, Nat.sub_self, show np - z = (np - (z + 1)) + 1 by omega, List.replicate_succ, List.set_cons_zero, List.replicate_succ', List.append_assoc]
                      rfl
                    rw [← e]; exact h3
                  case measure => first | (simp [intOf]; omega) | simp [intOf]
                · obtain rfl : z = np := by omega
                  rw [Nat.sub_self, List.replicate_zero, List.append_nil] at hrow
                  have hkz : w20.heap.size < wz.heap.size := hrow.lt
                  have HVZ : Hid (Vs wz wz.heap.size (some ⟨w20.heap.size, 0, none⟩) (bools (List.replicate z true))) := (show Vs _ _ _ _ from fun _ => ⟨w20.heap.size, 0, rfl, hkz, Row.range hrow fun j v hj => by simpa [bools] using hj⟩)
                  clear hrow
                  go_wp2_with fail
                  refine (TwoX.leftX HTZ.out HBZ2.out.size (fun j hj => by rcases hj with hj | rfl; exact hj.elim; exact hkz) (fun F hF hX => crash_any ga dd F (some ⟨w20.heap.size, 0, none⟩) z z (List.replicate z true) wz hF (by rw [← HNP.out]; exact hpn) (by simp) HVZ.out (fun b o s e => by cases e; exact hX _ (.inr rfl)))).mono ?_
                  rintro e w30 ⟨rfl, hT30, hb30, hx30⟩
                  rw [← HDC.out] at hT30
                  have HTE := Lib.hid hT30
                  have HBE := Lib.hid (HBZ2.out.trans hb30)
                  have hk30 : w20.heap.size < w30.heap.size := by
                    have h1 := hx30 w20.heap.size (.inr rfl)
                    rw [Array.getElem?_eq_getElem hkz] at h1
                    exact (Array.getElem?_eq_some_iff.1 h1).1
                  have HXL : Hid (∀ j, (False ∨ j = w20.heap.size) → j < w30.heap.size) := (show ∀ j, _ → _ from fun j hj => by rcases hj with hj | rfl; exact hj.elim; exact hk30)
                  clear hT30 hb30 hx30 HTZ HBZ2
                  go_wp2_with fail
                  refine (TwoX.heldA HTE.out HBE.out.size (fun j hj => HXL.out j hj)).mono ?_
                  rintro e w16 ⟨A1, ch1, rfl, hk1, hbs1, hT16, hb16, _, _⟩
                  rw [HDA.out] at hk1 hT16
                  have HK1 : Hid (Blks w16 w16.heap.size A1 Lh) := (show Blks _ _ _ _ from hk1)
                  have HBS1 := Lib.hid hbs1
                  have HT16 := Lib.hid hT16
                  have HB16 := Lib.hid (HBE.out.trans hb16)
                  have hsz16 : w30.heap.size ≤ w16.heap.size := hb16.size
                  clear hk1 hbs1 hT16 hb16 HTE HBE
                  go_wp2_with fail
                  refine (TwoX.heldB HT16.out HB16.out.size (fun j hj => by rcases hj with hj | hj; exact Nat.lt_of_lt_of_le (HXL.out j hj) hsz16; exact hj.2)).mono ?_
                  rintro e w17 ⟨A2, ch2, rfl, hk2, hbs2, hT17, hb17, _, hkp⟩
                  have hk1' := hkp A1 _ HK1.out (fun b o s e => .inr ⟨HBS1.out b o s e, by
                    obtain ⟨bb, oo, ee, hlt, _⟩ := HK1.out (by rw [HLL.out]; omega)
                    rw [e] at ee
                    cases ee
                    exact hlt⟩)
                  rw [HDB.out] at hk2 hT17
                  have HKA := Lib.hid (hk1'.more hb17.2)
                  have HKB : Hid (Blks w17 w17.heap.size A2 Lh) := (show Blks _ _ _ _ from hk2)
                  have HT17 := Lib.hid hT17
                  have HB17 := Lib.hid (HB16.out.trans hb17.1)
                  clear hk1' hk2 hbs2 hT17 hb17 hkp HK1 HBS1 HT16 HB16
                  have HLA : Hid (Lh.length = dc.sec.length) := (show _ = _ by rw [HLL.out, HSA.out])
                  have HLB : Hid (Lh.length = db.sec.length) := (show _ = _ by rw [HLL.out, HSIX.out])
                  have HNA : Hid (dc.sec.length ≤ 1000000) := (show _ ≤ _ by rw [HSA.out]; omega)
                  have HNB : Hid (db.sec.length ≤ 1000000) := (show _ ≤ _ by rw [HSIX.out]; omega)
                  go_wp2_with fail
                  refine (same_any A1 A2 dc.sec.length db.sec.length ch1 ch2 Lh Lh w17 HLA.out HLB.out HKA.out HKB.out HNA.out HNB.out).mono ?_
                  rintro e w18 ⟨rfl, hb18⟩
                  have HB18 := Lib.hid (HB17.out.trans (hb18.mono HB17.out.size))
                  have HT18 := Lib.hid (HT17.out.below hb18)
                  rw [decide_eq_true (rfl : Lh = Lh)]
                  clear hb18 HT17 HB17 HKA HKB
                  go_wp2
                  go_ret
                  exact ⟨rfl, HB18.out⟩
            · have HEND : Hid (¬ Ends (t : Int) (t : Int) ⟨kd, a, x, Ak, nk, ck, lk⟩) := (show ¬ _ from fun he => by rcases he.2.2 with h | h; exact h2 h; exact ha6 h.2)
              have ha6d : decide (a < 6) = false := decide_eq_false ha6
              have hgdb : Good db := by
                obtain ⟨_, _, _, hB2, _⟩ := HT.out
                exact hB2.good
              obtain ⟨n1, n3, n2⟩ := HREL.out.later hgdb ⟨kd, a, x, Ak, nk, ck, lk⟩ (by show kindM kd ≤ 2; omega) HEND.out
              have HPEND := Lib.hid HREL.out.held.2.2.2
              have hpb2 := Nat.le_trans (does_pend db ⟨kd, a, x, Ak, nk, ck, lk⟩) (Nat.succ_le_succ HPB.out)
              have hl64 : (db.doesM ⟨kd, a, x, Ak, nk, ck, lk⟩).2.1.length = 64 := does_blk hgdb _
              have hcost : costs db ⟨kd, a, x, Ak, nk, ck, lk⟩ = if 0 < kindM kd ∧ (db.doesM ⟨kd, a, x, Ak, nk, ck, lk⟩).2.2 = 0 then 1 else 0 := rfl
              obtain ⟨bl, hbl'⟩ : ∃ bl, bl = (db.doesM ⟨kd, a, x, Ak, nk, ck, lk⟩).2.1 := ⟨_, rfl⟩
              obtain ⟨er, her⟩ : ∃ er, er = (db.doesM ⟨kd, a, x, Ak, nk, ck, lk⟩).2.2 := ⟨_, rfl⟩
              have HN1 : Hid ((da.doesM ⟨kd, a, x, Ak, nk, ck, lk⟩).2 = (bl, er)) := (show _ = _ by rw [n1, hbl', her])
              have HM1 : Hid ((db.doesM ⟨kd, a, x, Ak, nk, ck, lk⟩).2 = (bl, er)) := (show _ = _ by rw [hbl', her])
              have HN3 := Lib.hid n3
              rw [← her] at hcost
              rw [hcost] at n2
              have HN2 := Lib.hid n2
              have HPB2 := Lib.hid hpb2
              rw [← hbl'] at hl64
              have HL64 := Lib.hid hl64
              clear n1 n2 n3 hpb2 hl64 hbl' her hcost hgdb
              have HSB : Hid ((Try.prog.info? 39).map (·.size) = some (bv bl).length) := (show _ = _ by rw [bv_length, HL64.out]; exact size39)
              have HSL : Hid ((Try.prog.info? 39).map (·.size) = some (bl).length) := (show _ = _ by rw [HL64.out]; exact size39)
              have HFT : Hid (0 + (bv bl).length ≤ (bv nought).length) := (show _ ≤ _ from Nat.le_of_eq ((Nat.zero_add _).trans ((bv_length _).trans (HL64.out.trans rfl))))
              have e0 : w7.cell? ⟨wr.heap.size, 0, none⟩ = some (.int .i64 kd) := HR.out.cell 0
              have e1 : w7.cell? ⟨wr.heap.size, 1, none⟩ = some (.int .i64 a) := HR.out.cell 1
              have e2 : w7.cell? ⟨wr.heap.size, 2, none⟩ = some (.int .u8 (x.toNat : Int)) := HR.out.cell 2
              have e3 : w7.cell? ⟨wr.heap.size, 3, none⟩ = some (.slice Ak nk ck) := HR.out.cell 3
              go_wp2_with fail
              refine (TwoX.left HT.out HB.out.size (fun j hj => by rcases hj with hj | rfl; exact hj.elim; exact hsr) (fun F hF => does_any ga da F ⟨kd, a, x, Ak, nk, ck, lk⟩ w7 hF (by have := HPB.out; have e := HPEND.out; rw [e]; omega) (HOO.out.below HB.out) (by show kindM kd ≠ 4; omega))).mono ?_
              rintro e w8 ⟨rfl, hT8, hb8, hx8⟩
              rw [HN1.out]
              have HT8 := Lib.hid hT8
              have HB8 := Lib.hid (HB.out.trans hb8)
              have hr8 : Row w8 wr.heap.size 37 (ocs kd a x Ak nk ck) := (hx8 _ (.inr rfl)).trans HR.out
              have hsr8 : wr.heap.size < w8.heap.size := hr8.lt
              have HR8 := Lib.hid hr8
              clear hT8 hb8 hx8 hr8 HT HB HR hsr e0 e1 e2 e3
              have HRN_w9 := Lib.hid (Row.new w8 39 (bv nought))
              go_wp2_with (first
                | (with_reducible refine wpList_store_in (op := ⟨none, _, _, _, _, _⟩) ?_ 39 (.tmp 17) (.tmp 137) ?_ w8.heap.size 0 (bv bl) ?_ ?_ 39 (bv nought) ?_ HFT.out bv_one HSB.out ?_))
              all_goals try (first | rfl | exact HRN_w9.out)
              intro w9 hr_w9 hg_w9
              rw [splice_all (bv nought) (bv bl) (Eq.symm ((bv_length bl).trans (HL64.out.trans rfl)))] at hr_w9
              have hb_w9 : Below w8.heap.size w8 w9 := ((Below.refl _ _).alloc (Nat.le_refl _) _).grown hg_w9 (by simp) (fun j e => Nat.le_of_eq (Option.some.inj e))
              have hrg9 := Row.range hr_w9 (o := 0) (vs := bv bl) fun j v hj => by simpa using hj
              have hT9 : TwoX w9 w.heap.size (fun j => (False ∨ j = wr.heap.size) ∨ j = w8.heap.size) ga gb _ db := TwoX.add HT8.out hb_w9
              have hr9 := HR8.out.below hb_w9 hsr8
              have f0 : w9.cell? ⟨wr.heap.size, 0, none⟩ = some (.int .i64 kd) := hr9.cell 0
              have f1 : w9.cell? ⟨wr.heap.size, 1, none⟩ = some (.int .i64 a) := hr9.cell 1
              have f2 : w9.cell? ⟨wr.heap.size, 2, none⟩ = some (.int .u8 (x.toNat : Int)) := hr9.cell 2
              have f3 : w9.cell? ⟨wr.heap.size, 3, none⟩ = some (.slice Ak nk ck) := hr9.cell 3
              have HT9 := Lib.hid hT9
              have HRG9 := Lib.hid hrg9
              have HR9 := Lib.hid hr9
              have HB9 := Lib.hid (HB8.out.trans (hb_w9.mono HB8.out.size))
              have hs8 : w8.heap.size < w9.heap.size := hr_w9.lt
              have hsr9 : wr.heap.size < w9.heap.size := hr9.lt
              clear hr_w9 hg_w9 hb_w9 HT8 HB8 HRN_w9 hT9 hr9 hrg9 HR8
              go_wp2_with fail
              refine (TwoX.right HT9.out HB9.out.size (fun j hj => by rcases hj with (hj | rfl) | rfl; exact hj.elim; exact hsr9; exact hs8) (fun F hF => does_any gb db F ⟨kd, a, x, Ak, nk, ck, lk⟩ w9 hF (by have := HPB.out; omega) (HOO.out.below HB9.out) (by show kindM kd ≠ 4; omega))).mono ?_
              rintro e w10 ⟨rfl, hT10, hb10, hx10⟩
              rw [HM1.out]
              have hrg10 : w10.rangeAt w8.heap.size 0 (bv bl) := fun j v hj => (World.cell?_of_block (a := ⟨w8.heap.size, 0 + j, none⟩) (hx10 _ (.inr rfl))).trans (HRG9.out j v hj)
              have hr10 : Row w10 wr.heap.size 37 (ocs kd a x Ak nk ck) := (hx10 _ (.inl (.inr rfl))).trans HR9.out
              have HR10 := Lib.hid hr10
              have HRG10 := Lib.hid hrg10
              have HT10 := Lib.hid hT10
              have HB10 := Lib.hid (HB9.out.trans hb10)
              have hsr10 : wr.heap.size < w10.heap.size := hr10.lt
              have hs10 : w8.heap.size < w10.heap.size := by
                have h1 := hx10 w8.heap.size (.inr rfl)
                rw [Array.getElem?_eq_getElem hs8] at h1
                exact (Array.getElem?_eq_some_iff.1 h1).1
              clear hrg10 hT10 hb10 hx10 HT9 HB9 HRG9 f0 f1 f2 f3 hr10 HR9
              have HRN_w11 := Lib.hid (Row.new w10 39 (bv nought))
              go_wp2_with (first
                | (with_reducible refine wpList_store_in (op := ⟨none, _, _, _, _, _⟩) ?_ 39 (.tmp 19) (.tmp 143) ?_ w10.heap.size 0 (bv bl) ?_ ?_ 39 (bv nought) ?_ HFT.out bv_one HSB.out ?_))
              all_goals try (first | rfl | exact HRN_w11.out)
              intro w11 hr_w11 hg_w11
              rw [splice_all (bv nought) (bv bl) (Eq.symm ((bv_length bl).trans (HL64.out.trans rfl)))] at hr_w11
              have hb_w11 : Below w10.heap.size w10 w11 := ((Below.refl _ _).alloc (Nat.le_refl _) _).grown hg_w11 (by simp) (fun j e => Nat.le_of_eq (Option.some.inj e))
              have HRA := Lib.hid (range_below HRG10.out hb_w11 hs10)
              have HRB := Lib.hid (Row.range hr_w11 (o := 0) (vs := bv bl) fun j v hj => by simpa using hj)
              have HT11 := Lib.hid (HT10.out.below hb_w11)
              have HB11 := Lib.hid (HB10.out.trans (hb_w11.mono HB10.out.size))
              have r11 := HR10.out.below hb_w11 hsr10
              have f0 : w11.cell? ⟨wr.heap.size, 0, none⟩ = some (.int .i64 kd) := r11.cell 0
              have f1 : w11.cell? ⟨wr.heap.size, 1, none⟩ = some (.int .i64 a) := r11.cell 1
              have f2 : w11.cell? ⟨wr.heap.size, 2, none⟩ = some (.int .u8 (x.toNat : Int)) := r11.cell 2
              have f3 : w11.cell? ⟨wr.heap.size, 3, none⟩ = some (.slice Ak nk ck) := r11.cell 3
              clear hr_w11 hg_w11 hb_w11 HT10 HB10 HRN_w11 HRG10 r11 HR10
              go_wp2_with (first
                | (with_reducible refine wpList_load_blk (op := ⟨some 145, _, _, _, _, _⟩) ?_ 39 (.tmp 17) ?_ w8.heap.size 0 ?_ bl _ HRA.out Try.underlying39 ?_ HSL.out ?_)
                | (with_reducible refine wpList_load_blk (op := ⟨some 146, _, _, _, _, _⟩) ?_ 39 (.tmp 19) ?_ w10.heap.size 0 ?_ bl _ HRB.out Try.underlying39 ?_ HSL.out ?_)
                | (with_reducible refine wpList_neq_blk (o := ⟨some 147, _, _, _, _, _⟩) ?_ (.tmp 145) (.tmp 146) ?_ bl bl ?_ ?_ HL64.out HL64.out ?_))
              all_goals try rfl
              go_wp2_with fail
              obtain ⟨Ga, Gb, hA2, hrest⟩ := HT11.out
              refine (dead_any ga _ Ga w11 hA2.1).mono ?_
              clear hA2 hrest
              rintro e w12 ⟨rfl, rfl⟩
              rw [HN3.out]
              go_wp2_with fail
              refine (kind_any kd a _ (x.toNat : Int) rfl Ak nk ck _).mono ?_
              rintro e w13 ⟨rfl, hb13⟩
              have HT13 := Lib.hid (HT11.out.below hb13)
              have HB13 := Lib.hid (HB11.out.trans (hb13.mono HB11.out.size))
              clear hb13 HT11 HB11 f0 f1 f2 f3
              have hpos := h0
              by_cases hee : er = 0
              · have HI13 := Lib.hid (show ∃ da db, ARel (t : Int) ((t + 1 : Nat) : Int) da db ∧ Two w13 w.heap.size ga gb da db ∧ db.pend.length ≤ k + 1 ∧ Below w.heap.size w w13 from ⟨_, _, (by have h := HN2.out; rw [if_pos ⟨hpos, hee⟩] at h; simpa using h), HT13.out.two, HPB2.out, HB13.out⟩)
                clear HT13 HB13 HN2
                subst hee
                go_wp2
                go_roundw
                case rel => exact ⟨k + 1, by omega, by go_num, t + 1, by omega, by go_num, HI13⟩
                case measure => first | (simp [intOf]; omega) | simp [intOf]
              · have HI13 := Lib.hid (show ∃ da db, ARel (t : Int) (t : Int) da db ∧ Two w13 w.heap.size ga gb da db ∧ db.pend.length ≤ k + 1 ∧ Below w.heap.size w w13 from ⟨_, _, (by have h := HN2.out; rw [if_neg (fun hh => hee hh.2)] at h; simpa using h), HT13.out.two, HPB2.out, HB13.out⟩)
                clear HT13 HB13 HN2
                go_wp2
                go_roundw
                case rel => exact ⟨k + 1, by omega, by go_num, t, by omega, rfl, HI13⟩
                case measure => first | (simp [intOf]; omega) | simp [intOf]
          · have HEND : Hid (¬ Ends (t : Int) (t : Int) ⟨kd, a, x, Ak, nk, ck, lk⟩) := (show ¬ _ from fun he => by rcases he.2.2 with h | h; exact h2 h; exact ha0 h.1)
            have hgdb : Good db := by
              obtain ⟨_, _, _, hB2, _⟩ := HT.out
              exact hB2.good
            obtain ⟨n1, n3, n2⟩ := HREL.out.later hgdb ⟨kd, a, x, Ak, nk, ck, lk⟩ (by show kindM kd ≤ 2; omega) HEND.out
            have HPEND := Lib.hid HREL.out.held.2.2.2
            have hpb2 := Nat.le_trans (does_pend db ⟨kd, a, x, Ak, nk, ck, lk⟩) (Nat.succ_le_succ HPB.out)
            have hl64 : (db.doesM ⟨kd, a, x, Ak, nk, ck, lk⟩).2.1.length = 64 := does_blk hgdb _
            have hcost : costs db ⟨kd, a, x, Ak, nk, ck, lk⟩ = if 0 < kindM kd ∧ (db.doesM ⟨kd, a, x, Ak, nk, ck, lk⟩).2.2 = 0 then 1 else 0 := rfl
            obtain ⟨bl, hbl'⟩ : ∃ bl, bl = (db.doesM ⟨kd, a, x, Ak, nk, ck, lk⟩).2.1 := ⟨_, rfl⟩
            obtain ⟨er, her⟩ : ∃ er, er = (db.doesM ⟨kd, a, x, Ak, nk, ck, lk⟩).2.2 := ⟨_, rfl⟩
            have HN1 : Hid ((da.doesM ⟨kd, a, x, Ak, nk, ck, lk⟩).2 = (bl, er)) := (show _ = _ by rw [n1, hbl', her])
            have HM1 : Hid ((db.doesM ⟨kd, a, x, Ak, nk, ck, lk⟩).2 = (bl, er)) := (show _ = _ by rw [hbl', her])
            have HN3 := Lib.hid n3
            rw [← her] at hcost
            rw [hcost] at n2
            have HN2 := Lib.hid n2
            have HPB2 := Lib.hid hpb2
            rw [← hbl'] at hl64
            have HL64 := Lib.hid hl64
            clear n1 n2 n3 hpb2 hl64 hbl' her hcost hgdb
            have HSB : Hid ((Try.prog.info? 39).map (·.size) = some (bv bl).length) := (show _ = _ by rw [bv_length, HL64.out]; exact size39)
            have HSL : Hid ((Try.prog.info? 39).map (·.size) = some (bl).length) := (show _ = _ by rw [HL64.out]; exact size39)
            have HFT : Hid (0 + (bv bl).length ≤ (bv nought).length) := (show _ ≤ _ from Nat.le_of_eq ((Nat.zero_add _).trans ((bv_length _).trans (HL64.out.trans rfl))))
            have e0 : w7.cell? ⟨wr.heap.size, 0, none⟩ = some (.int .i64 kd) := HR.out.cell 0
            have e1 : w7.cell? ⟨wr.heap.size, 1, none⟩ = some (.int .i64 a) := HR.out.cell 1
            have e2 : w7.cell? ⟨wr.heap.size, 2, none⟩ = some (.int .u8 (x.toNat : Int)) := HR.out.cell 2
            have e3 : w7.cell? ⟨wr.heap.size, 3, none⟩ = some (.slice Ak nk ck) := HR.out.cell 3
            go_wp2_with fail
            refine (TwoX.left HT.out HB.out.size (fun j hj => by rcases hj with hj | rfl; exact hj.elim; exact hsr) (fun F hF => does_any ga da F ⟨kd, a, x, Ak, nk, ck, lk⟩ w7 hF (by have := HPB.out; have e := HPEND.out; rw [e]; omega) (HOO.out.below HB.out) (by show kindM kd ≠ 4; omega))).mono ?_
            rintro e w8 ⟨rfl, hT8, hb8, hx8⟩
            rw [HN1.out]
            have HT8 := Lib.hid hT8
            have HB8 := Lib.hid (HB.out.trans hb8)
            have hr8 : Row w8 wr.heap.size 37 (ocs kd a x Ak nk ck) := (hx8 _ (.inr rfl)).trans HR.out
            have hsr8 : wr.heap.size < w8.heap.size := hr8.lt
            have HR8 := Lib.hid hr8
            clear hT8 hb8 hx8 hr8 HT HB HR hsr e0 e1 e2 e3
            have HRN_w9 := Lib.hid (Row.new w8 39 (bv nought))
            go_wp2_with (first
              | (with_reducible refine wpList_store_in (op := ⟨none, _, _, _, _, _⟩) ?_ 39 (.tmp 17) (.tmp 137) ?_ w8.heap.size 0 (bv bl) ?_ ?_ 39 (bv nought) ?_ HFT.out bv_one HSB.out ?_))
            all_goals try (first | rfl | exact HRN_w9.out)
            intro w9 hr_w9 hg_w9
            rw [splice_all (bv nought) (bv bl) (Eq.symm ((bv_length bl).trans (HL64.out.trans rfl)))] at hr_w9
            have hb_w9 : Below w8.heap.size w8 w9 := ((Below.refl _ _).alloc (Nat.le_refl _) _).grown hg_w9 (by simp) (fun j e => Nat.le_of_eq (Option.some.inj e))
            have hrg9 := Row.range hr_w9 (o := 0) (vs := bv bl) fun j v hj => by simpa using hj
            have hT9 : TwoX w9 w.heap.size (fun j => (False ∨ j = wr.heap.size) ∨ j = w8.heap.size) ga gb _ db := TwoX.add HT8.out hb_w9
            have hr9 := HR8.out.below hb_w9 hsr8
            have f0 : w9.cell? ⟨wr.heap.size, 0, none⟩ = some (.int .i64 kd) := hr9.cell 0
            have f1 : w9.cell? ⟨wr.heap.size, 1, none⟩ = some (.int .i64 a) := hr9.cell 1
            have f2 : w9.cell? ⟨wr.heap.size, 2, none⟩ = some (.int .u8 (x.toNat : Int)) := hr9.cell 2
            have f3 : w9.cell? ⟨wr.heap.size, 3, none⟩ = some (.slice Ak nk ck) := hr9.cell 3
            have HT9 := Lib.hid hT9
            have HRG9 := Lib.hid hrg9
            have HR9 := Lib.hid hr9
            have HB9 := Lib.hid (HB8.out.trans (hb_w9.mono HB8.out.size))
            have hs8 : w8.heap.size < w9.heap.size := hr_w9.lt
            have hsr9 : wr.heap.size < w9.heap.size := hr9.lt
            clear hr_w9 hg_w9 hb_w9 HT8 HB8 HRN_w9 hT9 hr9 hrg9 HR8
            go_wp2_with fail
            refine (TwoX.right HT9.out HB9.out.size (fun j hj => by rcases hj with (hj | rfl) | rfl; exact hj.elim; exact hsr9; exact hs8) (fun F hF => does_any gb db F ⟨kd, a, x, Ak, nk, ck, lk⟩ w9 hF (by have := HPB.out; omega) (HOO.out.below HB9.out) (by show kindM kd ≠ 4; omega))).mono ?_
            rintro e w10 ⟨rfl, hT10, hb10, hx10⟩
            rw [HM1.out]
            have hrg10 : w10.rangeAt w8.heap.size 0 (bv bl) := fun j v hj => (World.cell?_of_block (a := ⟨w8.heap.size, 0 + j, none⟩) (hx10 _ (.inr rfl))).trans (HRG9.out j v hj)
            have hr10 : Row w10 wr.heap.size 37 (ocs kd a x Ak nk ck) := (hx10 _ (.inl (.inr rfl))).trans HR9.out
            have HR10 := Lib.hid hr10
            have HRG10 := Lib.hid hrg10
            have HT10 := Lib.hid hT10
            have HB10 := Lib.hid (HB9.out.trans hb10)
            have hsr10 : wr.heap.size < w10.heap.size := hr10.lt
            have hs10 : w8.heap.size < w10.heap.size := by
              have h1 := hx10 w8.heap.size (.inr rfl)
              rw [Array.getElem?_eq_getElem hs8] at h1
              exact (Array.getElem?_eq_some_iff.1 h1).1
            clear hrg10 hT10 hb10 hx10 HT9 HB9 HRG9 f0 f1 f2 f3 hr10 HR9
            have HRN_w11 := Lib.hid (Row.new w10 39 (bv nought))
            go_wp2_with (first
              | (with_reducible refine wpList_store_in (op := ⟨none, _, _, _, _, _⟩) ?_ 39 (.tmp 19) (.tmp 143) ?_ w10.heap.size 0 (bv bl) ?_ ?_ 39 (bv nought) ?_ HFT.out bv_one HSB.out ?_))
            all_goals try (first | rfl | exact HRN_w11.out)
            intro w11 hr_w11 hg_w11
            rw [splice_all (bv nought) (bv bl) (Eq.symm ((bv_length bl).trans (HL64.out.trans rfl)))] at hr_w11
            have hb_w11 : Below w10.heap.size w10 w11 := ((Below.refl _ _).alloc (Nat.le_refl _) _).grown hg_w11 (by simp) (fun j e => Nat.le_of_eq (Option.some.inj e))
            have HRA := Lib.hid (range_below HRG10.out hb_w11 hs10)
            have HRB := Lib.hid (Row.range hr_w11 (o := 0) (vs := bv bl) fun j v hj => by simpa using hj)
            have HT11 := Lib.hid (HT10.out.below hb_w11)
            have HB11 := Lib.hid (HB10.out.trans (hb_w11.mono HB10.out.size))
            have r11 := HR10.out.below hb_w11 hsr10
            have f0 : w11.cell? ⟨wr.heap.size, 0, none⟩ = some (.int .i64 kd) := r11.cell 0
            have f1 : w11.cell? ⟨wr.heap.size, 1, none⟩ = some (.int .i64 a) := r11.cell 1
            have f2 : w11.cell? ⟨wr.heap.size, 2, none⟩ = some (.int .u8 (x.toNat : Int)) := r11.cell 2
            have f3 : w11.cell? ⟨wr.heap.size, 3, none⟩ = some (.slice Ak nk ck) := r11.cell 3
            clear hr_w11 hg_w11 hb_w11 HT10 HB10 HRN_w11 HRG10 r11 HR10
            go_wp2_with (first
              | (with_reducible refine wpList_load_blk (op := ⟨some 145, _, _, _, _, _⟩) ?_ 39 (.tmp 17) ?_ w8.heap.size 0 ?_ bl _ HRA.out Try.underlying39 ?_ HSL.out ?_)
              | (with_reducible refine wpList_load_blk (op := ⟨some 146, _, _, _, _, _⟩) ?_ 39 (.tmp 19) ?_ w10.heap.size 0 ?_ bl _ HRB.out Try.underlying39 ?_ HSL.out ?_)
              | (with_reducible refine wpList_neq_blk (o := ⟨some 147, _, _, _, _, _⟩) ?_ (.tmp 145) (.tmp 146) ?_ bl bl ?_ ?_ HL64.out HL64.out ?_))
            all_goals try rfl
            go_wp2_with fail
            obtain ⟨Ga, Gb, hA2, hrest⟩ := HT11.out
            refine (dead_any ga _ Ga w11 hA2.1).mono ?_
            clear hA2 hrest
            rintro e w12 ⟨rfl, rfl⟩
            rw [HN3.out]
            go_wp2_with fail
            refine (kind_any kd a _ (x.toNat : Int) rfl Ak nk ck _).mono ?_
            rintro e w13 ⟨rfl, hb13⟩
            have HT13 := Lib.hid (HT11.out.below hb13)
            have HB13 := Lib.hid (HB11.out.trans (hb13.mono HB11.out.size))
            clear hb13 HT11 HB11 f0 f1 f2 f3
            have hpos := h0
            by_cases hee : er = 0
            · have HI13 := Lib.hid (show ∃ da db, ARel (t : Int) ((t + 1 : Nat) : Int) da db ∧ Two w13 w.heap.size ga gb da db ∧ db.pend.length ≤ k + 1 ∧ Below w.heap.size w w13 from ⟨_, _, (by have h := HN2.out; rw [if_pos ⟨hpos, hee⟩] at h; simpa using h), HT13.out.two, HPB2.out, HB13.out⟩)
              clear HT13 HB13 HN2
              subst hee
              go_wp2
              go_roundw
              case rel => exact ⟨k + 1, by omega, by go_num, t + 1, by omega, by go_num, HI13⟩
              case measure => first | (simp [intOf]; omega) | simp [intOf]
            · have HI13 := Lib.hid (show ∃ da db, ARel (t : Int) (t : Int) da db ∧ Two w13 w.heap.size ga gb da db ∧ db.pend.length ≤ k + 1 ∧ Below w.heap.size w w13 from ⟨_, _, (by have h := HN2.out; rw [if_neg (fun hh => hee hh.2)] at h; simpa using h), HT13.out.two, HPB2.out, HB13.out⟩)
              clear HT13 HB13 HN2
              go_wp2
              go_roundw
              case rel => exact ⟨k + 1, by omega, by go_num, t, by omega, rfl, HI13⟩
              case measure => first | (simp [intOf]; omega) | simp [intOf]
        · have HEND : Hid (¬ Ends (t : Int) (t : Int) ⟨kd, a, x, Ak, nk, ck, lk⟩) := (show ¬ _ from fun he => h0 he.2.1)
          have hgdb : Good db := by
            obtain ⟨_, _, _, hB2, _⟩ := HT.out
            exact hB2.good
          obtain ⟨n1, n3, n2⟩ := HREL.out.later hgdb ⟨kd, a, x, Ak, nk, ck, lk⟩ (by show kindM kd ≤ 2; omega) HEND.out
          have HPEND := Lib.hid HREL.out.held.2.2.2
          have hpb2 := Nat.le_trans (does_pend db ⟨kd, a, x, Ak, nk, ck, lk⟩) (Nat.succ_le_succ HPB.out)
          have hl64 : (db.doesM ⟨kd, a, x, Ak, nk, ck, lk⟩).2.1.length = 64 := does_blk hgdb _
          have hcost : costs db ⟨kd, a, x, Ak, nk, ck, lk⟩ = if 0 < kindM kd ∧ (db.doesM ⟨kd, a, x, Ak, nk, ck, lk⟩).2.2 = 0 then 1 else 0 := rfl
          obtain ⟨bl, hbl'⟩ : ∃ bl, bl = (db.doesM ⟨kd, a, x, Ak, nk, ck, lk⟩).2.1 := ⟨_, rfl⟩
          obtain ⟨er, her⟩ : ∃ er, er = (db.doesM ⟨kd, a, x, Ak, nk, ck, lk⟩).2.2 := ⟨_, rfl⟩
          have HN1 : Hid ((da.doesM ⟨kd, a, x, Ak, nk, ck, lk⟩).2 = (bl, er)) := (show _ = _ by rw [n1, hbl', her])
          have HM1 : Hid ((db.doesM ⟨kd, a, x, Ak, nk, ck, lk⟩).2 = (bl, er)) := (show _ = _ by rw [hbl', her])
          have HN3 := Lib.hid n3
          rw [← her] at hcost
          rw [hcost] at n2
          have HN2 := Lib.hid n2
          have HPB2 := Lib.hid hpb2
          rw [← hbl'] at hl64
          have HL64 := Lib.hid hl64
          clear n1 n2 n3 hpb2 hl64 hbl' her hcost hgdb
          have HSB : Hid ((Try.prog.info? 39).map (·.size) = some (bv bl).length) := (show _ = _ by rw [bv_length, HL64.out]; exact size39)
          have HSL : Hid ((Try.prog.info? 39).map (·.size) = some (bl).length) := (show _ = _ by rw [HL64.out]; exact size39)
          have HFT : Hid (0 + (bv bl).length ≤ (bv nought).length) := (show _ ≤ _ from Nat.le_of_eq ((Nat.zero_add _).trans ((bv_length _).trans (HL64.out.trans rfl))))
          have e0 : w6.cell? ⟨wr.heap.size, 0, none⟩ = some (.int .i64 kd) := HR.out.cell 0
          have e1 : w6.cell? ⟨wr.heap.size, 1, none⟩ = some (.int .i64 a) := HR.out.cell 1
          have e2 : w6.cell? ⟨wr.heap.size, 2, none⟩ = some (.int .u8 (x.toNat : Int)) := HR.out.cell 2
          have e3 : w6.cell? ⟨wr.heap.size, 3, none⟩ = some (.slice Ak nk ck) := HR.out.cell 3
          go_wp2_with fail
          refine (TwoX.left HT.out HB.out.size (fun j hj => by rcases hj with hj | rfl; exact hj.elim; exact hsr) (fun F hF => does_any ga da F ⟨kd, a, x, Ak, nk, ck, lk⟩ w6 hF (by have := HPB.out; have e := HPEND.out; rw [e]; omega) (HOO.out.below HB.out) (by show kindM kd ≠ 4; omega))).mono ?_
          rintro e w8 ⟨rfl, hT8, hb8, hx8⟩
          rw [HN1.out]
          have HT8 := Lib.hid hT8
          have HB8 := Lib.hid (HB.out.trans hb8)
          have hr8 : Row w8 wr.heap.size 37 (ocs kd a x Ak nk ck) := (hx8 _ (.inr rfl)).trans HR.out
          have hsr8 : wr.heap.size < w8.heap.size := hr8.lt
          have HR8 := Lib.hid hr8
          clear hT8 hb8 hx8 hr8 HT HB HR hsr e0 e1 e2 e3
          have HRN_w9 := Lib.hid (Row.new w8 39 (bv nought))
          go_wp2_with (first
            | (with_reducible refine wpList_store_in (op := ⟨none, _, _, _, _, _⟩) ?_ 39 (.tmp 17) (.tmp 137) ?_ w8.heap.size 0 (bv bl) ?_ ?_ 39 (bv nought) ?_ HFT.out bv_one HSB.out ?_))
          all_goals try (first | rfl | exact HRN_w9.out)
          intro w9 hr_w9 hg_w9
          rw [splice_all (bv nought) (bv bl) (Eq.symm ((bv_length bl).trans (HL64.out.trans rfl)))] at hr_w9
          have hb_w9 : Below w8.heap.size w8 w9 := ((Below.refl _ _).alloc (Nat.le_refl _) _).grown hg_w9 (by simp) (fun j e => Nat.le_of_eq (Option.some.inj e))
          have hrg9 := Row.range hr_w9 (o := 0) (vs := bv bl) fun j v hj => by simpa using hj
          have hT9 : TwoX w9 w.heap.size (fun j => (False ∨ j = wr.heap.size) ∨ j = w8.heap.size) ga gb _ db := TwoX.add HT8.out hb_w9
          have hr9 := HR8.out.below hb_w9 hsr8
          have f0 : w9.cell? ⟨wr.heap.size, 0, none⟩ = some (.int .i64 kd) := hr9.cell 0
          have f1 : w9.cell? ⟨wr.heap.size, 1, none⟩ = some (.int .i64 a) := hr9.cell 1
          have f2 : w9.cell? ⟨wr.heap.size, 2, none⟩ = some (.int .u8 (x.toNat : Int)) := hr9.cell 2
          have f3 : w9.cell? ⟨wr.heap.size, 3, none⟩ = some (.slice Ak nk ck) := hr9.cell 3
          have HT9 := Lib.hid hT9
          have HRG9 := Lib.hid hrg9
          have HR9 := Lib.hid hr9
          have HB9 := Lib.hid (HB8.out.trans (hb_w9.mono HB8.out.size))
          have hs8 : w8.heap.size < w9.heap.size := hr_w9.lt
          have hsr9 : wr.heap.size < w9.heap.size := hr9.lt
          clear hr_w9 hg_w9 hb_w9 HT8 HB8 HRN_w9 hT9 hr9 hrg9 HR8
          go_wp2_with fail
          refine (TwoX.right HT9.out HB9.out.size (fun j hj => by rcases hj with (hj | rfl) | rfl; exact hj.elim; exact hsr9; exact hs8) (fun F hF => does_any gb db F ⟨kd, a, x, Ak, nk, ck, lk⟩ w9 hF (by have := HPB.out; omega) (HOO.out.below HB9.out) (by show kindM kd ≠ 4; omega))).mono ?_
          rintro e w10 ⟨rfl, hT10, hb10, hx10⟩
          rw [HM1.out]
          have hrg10 : w10.rangeAt w8.heap.size 0 (bv bl) := fun j v hj => (World.cell?_of_block (a := ⟨w8.heap.size, 0 + j, none⟩) (hx10 _ (.inr rfl))).trans (HRG9.out j v hj)
          have hr10 : Row w10 wr.heap.size 37 (ocs kd a x Ak nk ck) := (hx10 _ (.inl (.inr rfl))).trans HR9.out
          have HR10 := Lib.hid hr10
          have HRG10 := Lib.hid hrg10
          have HT10 := Lib.hid hT10
          have HB10 := Lib.hid (HB9.out.trans hb10)
          have hsr10 : wr.heap.size < w10.heap.size := hr10.lt
          have hs10 : w8.heap.size < w10.heap.size := by
            have h1 := hx10 w8.heap.size (.inr rfl)
            rw [Array.getElem?_eq_getElem hs8] at h1
            exact (Array.getElem?_eq_some_iff.1 h1).1
          clear hrg10 hT10 hb10 hx10 HT9 HB9 HRG9 f0 f1 f2 f3 hr10 HR9
          have HRN_w11 := Lib.hid (Row.new w10 39 (bv nought))
          go_wp2_with (first
            | (with_reducible refine wpList_store_in (op := ⟨none, _, _, _, _, _⟩) ?_ 39 (.tmp 19) (.tmp 143) ?_ w10.heap.size 0 (bv bl) ?_ ?_ 39 (bv nought) ?_ HFT.out bv_one HSB.out ?_))
          all_goals try (first | rfl | exact HRN_w11.out)
          intro w11 hr_w11 hg_w11
          rw [splice_all (bv nought) (bv bl) (Eq.symm ((bv_length bl).trans (HL64.out.trans rfl)))] at hr_w11
          have hb_w11 : Below w10.heap.size w10 w11 := ((Below.refl _ _).alloc (Nat.le_refl _) _).grown hg_w11 (by simp) (fun j e => Nat.le_of_eq (Option.some.inj e))
          have HRA := Lib.hid (range_below HRG10.out hb_w11 hs10)
          have HRB := Lib.hid (Row.range hr_w11 (o := 0) (vs := bv bl) fun j v hj => by simpa using hj)
          have HT11 := Lib.hid (HT10.out.below hb_w11)
          have HB11 := Lib.hid (HB10.out.trans (hb_w11.mono HB10.out.size))
          have r11 := HR10.out.below hb_w11 hsr10
          have f0 : w11.cell? ⟨wr.heap.size, 0, none⟩ = some (.int .i64 kd) := r11.cell 0
          have f1 : w11.cell? ⟨wr.heap.size, 1, none⟩ = some (.int .i64 a) := r11.cell 1
          have f2 : w11.cell? ⟨wr.heap.size, 2, none⟩ = some (.int .u8 (x.toNat : Int)) := r11.cell 2
          have f3 : w11.cell? ⟨wr.heap.size, 3, none⟩ = some (.slice Ak nk ck) := r11.cell 3
          clear hr_w11 hg_w11 hb_w11 HT10 HB10 HRN_w11 HRG10 r11 HR10
          go_wp2_with (first
            | (with_reducible refine wpList_load_blk (op := ⟨some 145, _, _, _, _, _⟩) ?_ 39 (.tmp 17) ?_ w8.heap.size 0 ?_ bl _ HRA.out Try.underlying39 ?_ HSL.out ?_)
            | (with_reducible refine wpList_load_blk (op := ⟨some 146, _, _, _, _, _⟩) ?_ 39 (.tmp 19) ?_ w10.heap.size 0 ?_ bl _ HRB.out Try.underlying39 ?_ HSL.out ?_)
            | (with_reducible refine wpList_neq_blk (o := ⟨some 147, _, _, _, _, _⟩) ?_ (.tmp 145) (.tmp 146) ?_ bl bl ?_ ?_ HL64.out HL64.out ?_))
          all_goals try rfl
          go_wp2_with fail
          obtain ⟨Ga, Gb, hA2, hrest⟩ := HT11.out
          refine (dead_any ga _ Ga w11 hA2.1).mono ?_
          clear hA2 hrest
          rintro e w12 ⟨rfl, rfl⟩
          rw [HN3.out]
          go_wp2_with fail
          refine (kind_any kd a _ (x.toNat : Int) rfl Ak nk ck _).mono ?_
          rintro e w13 ⟨rfl, hb13⟩
          have HT13 := Lib.hid (HT11.out.below hb13)
          have HB13 := Lib.hid (HB11.out.trans (hb13.mono HB11.out.size))
          clear hb13 HT11 HB11 f0 f1 f2 f3
          have hpos := h0
          have HI13 := Lib.hid (show ∃ da db, ARel (t : Int) (t : Int) da db ∧ Two w13 w.heap.size ga gb da db ∧ db.pend.length ≤ k + 1 ∧ Below w.heap.size w w13 from ⟨_, _, (by have h := HN2.out; rw [if_neg (fun hh => absurd hh.1 (by omega))] at h; simpa using h), HT13.out.two, HPB2.out, HB13.out⟩)
          clear HT13 HB13 HN2
          go_wp2
          go_roundw
          case rel => exact ⟨k + 1, by omega, by go_num, t, by omega, rfl, HI13⟩
          case measure => first | (simp [intOf]; omega) | simp [intOf]
      · have HEND : Hid (¬ Ends q (t : Int) ⟨kd, a, x, Ak, nk, ck, lk⟩) := (show ¬ _ from fun he => heq he.1)
        have hgdb : Good db := by
          obtain ⟨_, _, _, hB2, _⟩ := HT.out
          exact hB2.good
        obtain ⟨n1, n3, n2⟩ := HREL.out.later hgdb ⟨kd, a, x, Ak, nk, ck, lk⟩ (by show kindM kd ≤ 2; omega) HEND.out
        have HPEND := Lib.hid HREL.out.held.2.2.2
        have hpb2 := Nat.le_trans (does_pend db ⟨kd, a, x, Ak, nk, ck, lk⟩) (Nat.succ_le_succ HPB.out)
        have hl64 : (db.doesM ⟨kd, a, x, Ak, nk, ck, lk⟩).2.1.length = 64 := does_blk hgdb _
        have hcost : costs db ⟨kd, a, x, Ak, nk, ck, lk⟩ = if 0 < kindM kd ∧ (db.doesM ⟨kd, a, x, Ak, nk, ck, lk⟩).2.2 = 0 then 1 else 0 := rfl
        obtain ⟨bl, hbl'⟩ : ∃ bl, bl = (db.doesM ⟨kd, a, x, Ak, nk, ck, lk⟩).2.1 := ⟨_, rfl⟩
        obtain ⟨er, her⟩ : ∃ er, er = (db.doesM ⟨kd, a, x, Ak, nk, ck, lk⟩).2.2 := ⟨_, rfl⟩
        have HN1 : Hid ((da.doesM ⟨kd, a, x, Ak, nk, ck, lk⟩).2 = (bl, er)) := (show _ = _ by rw [n1, hbl', her])
        have HM1 : Hid ((db.doesM ⟨kd, a, x, Ak, nk, ck, lk⟩).2 = (bl, er)) := (show _ = _ by rw [hbl', her])
        have HN3 := Lib.hid n3
        rw [← her] at hcost
        rw [hcost] at n2
        have HN2 := Lib.hid n2
        have HPB2 := Lib.hid hpb2
        rw [← hbl'] at hl64
        have HL64 := Lib.hid hl64
        clear n1 n2 n3 hpb2 hl64 hbl' her hcost hgdb
        have HSB : Hid ((Try.prog.info? 39).map (·.size) = some (bv bl).length) := (show _ = _ by rw [bv_length, HL64.out]; exact size39)
        have HSL : Hid ((Try.prog.info? 39).map (·.size) = some (bl).length) := (show _ = _ by rw [HL64.out]; exact size39)
        have HFT : Hid (0 + (bv bl).length ≤ (bv nought).length) := (show _ ≤ _ from Nat.le_of_eq ((Nat.zero_add _).trans ((bv_length _).trans (HL64.out.trans rfl))))
        have e0 : w5.cell? ⟨wr.heap.size, 0, none⟩ = some (.int .i64 kd) := HR.out.cell 0
        have e1 : w5.cell? ⟨wr.heap.size, 1, none⟩ = some (.int .i64 a) := HR.out.cell 1
        have e2 : w5.cell? ⟨wr.heap.size, 2, none⟩ = some (.int .u8 (x.toNat : Int)) := HR.out.cell 2
        have e3 : w5.cell? ⟨wr.heap.size, 3, none⟩ = some (.slice Ak nk ck) := HR.out.cell 3
        go_wp2_with fail
        refine (TwoX.left HT.out HB.out.size (fun j hj => by rcases hj with hj | rfl; exact hj.elim; exact hsr) (fun F hF => does_any ga da F ⟨kd, a, x, Ak, nk, ck, lk⟩ w5 hF (by have := HPB.out; have e := HPEND.out; rw [e]; omega) (HOO.out.below HB.out) (by show kindM kd ≠ 4; omega))).mono ?_
        rintro e w8 ⟨rfl, hT8, hb8, hx8⟩
        rw [HN1.out]
        have HT8 := Lib.hid hT8
        have HB8 := Lib.hid (HB.out.trans hb8)
        have hr8 : Row w8 wr.heap.size 37 (ocs kd a x Ak nk ck) := (hx8 _ (.inr rfl)).trans HR.out
        have hsr8 : wr.heap.size < w8.heap.size := hr8.lt
        have HR8 := Lib.hid hr8
        clear hT8 hb8 hx8 hr8 HT HB HR hsr e0 e1 e2 e3
        have HRN_w9 := Lib.hid (Row.new w8 39 (bv nought))
        go_wp2_with (first
          | (with_reducible refine wpList_store_in (op := ⟨none, _, _, _, _, _⟩) ?_ 39 (.tmp 17) (.tmp 137) ?_ w8.heap.size 0 (bv bl) ?_ ?_ 39 (bv nought) ?_ HFT.out bv_one HSB.out ?_))
        all_goals try (first | rfl | exact HRN_w9.out)
        intro w9 hr_w9 hg_w9
        rw [splice_all (bv nought) (bv bl) (Eq.symm ((bv_length bl).trans (HL64.out.trans rfl)))] at hr_w9
        have hb_w9 : Below w8.heap.size w8 w9 := ((Below.refl _ _).alloc (Nat.le_refl _) _).grown hg_w9 (by simp) (fun j e => Nat.le_of_eq (Option.some.inj e))
        have hrg9 := Row.range hr_w9 (o := 0) (vs := bv bl) fun j v hj => by simpa using hj
        have hT9 : TwoX w9 w.heap.size (fun j => (False ∨ j = wr.heap.size) ∨ j = w8.heap.size) ga gb _ db := TwoX.add HT8.out hb_w9
        have hr9 := HR8.out.below hb_w9 hsr8
        have f0 : w9.cell? ⟨wr.heap.size, 0, none⟩ = some (.int .i64 kd) := hr9.cell 0
        have f1 : w9.cell? ⟨wr.heap.size, 1, none⟩ = some (.int .i64 a) := hr9.cell 1
        have f2 : w9.cell? ⟨wr.heap.size, 2, none⟩ = some (.int .u8 (x.toNat : Int)) := hr9.cell 2
        have f3 : w9.cell? ⟨wr.heap.size, 3, none⟩ = some (.slice Ak nk ck) := hr9.cell 3
        have HT9 := Lib.hid hT9
        have HRG9 := Lib.hid hrg9
        have HR9 := Lib.hid hr9
        have HB9 := Lib.hid (HB8.out.trans (hb_w9.mono HB8.out.size))
        have hs8 : w8.heap.size < w9.heap.size := hr_w9.lt
        have hsr9 : wr.heap.size < w9.heap.size := hr9.lt
        clear hr_w9 hg_w9 hb_w9 HT8 HB8 HRN_w9 hT9 hr9 hrg9 HR8
        go_wp2_with fail
        refine (TwoX.right HT9.out HB9.out.size (fun j hj => by rcases hj with (hj | rfl) | rfl; exact hj.elim; exact hsr9; exact hs8) (fun F hF => does_any gb db F ⟨kd, a, x, Ak, nk, ck, lk⟩ w9 hF (by have := HPB.out; omega) (HOO.out.below HB9.out) (by show kindM kd ≠ 4; omega))).mono ?_
        rintro e w10 ⟨rfl, hT10, hb10, hx10⟩
        rw [HM1.out]
        have hrg10 : w10.rangeAt w8.heap.size 0 (bv bl) := fun j v hj => (World.cell?_of_block (a := ⟨w8.heap.size, 0 + j, none⟩) (hx10 _ (.inr rfl))).trans (HRG9.out j v hj)
        have hr10 : Row w10 wr.heap.size 37 (ocs kd a x Ak nk ck) := (hx10 _ (.inl (.inr rfl))).trans HR9.out
        have HR10 := Lib.hid hr10
        have HRG10 := Lib.hid hrg10
        have HT10 := Lib.hid hT10
        have HB10 := Lib.hid (HB9.out.trans hb10)
        have hsr10 : wr.heap.size < w10.heap.size := hr10.lt
        have hs10 : w8.heap.size < w10.heap.size := by
          have h1 := hx10 w8.heap.size (.inr rfl)
          rw [Array.getElem?_eq_getElem hs8] at h1
          exact (Array.getElem?_eq_some_iff.1 h1).1
        clear hrg10 hT10 hb10 hx10 HT9 HB9 HRG9 f0 f1 f2 f3 hr10 HR9
        have HRN_w11 := Lib.hid (Row.new w10 39 (bv nought))
        go_wp2_with (first
          | (with_reducible refine wpList_store_in (op := ⟨none, _, _, _, _, _⟩) ?_ 39 (.tmp 19) (.tmp 143) ?_ w10.heap.size 0 (bv bl) ?_ ?_ 39 (bv nought) ?_ HFT.out bv_one HSB.out ?_))
        all_goals try (first | rfl | exact HRN_w11.out)
        intro w11 hr_w11 hg_w11
        rw [splice_all (bv nought) (bv bl) (Eq.symm ((bv_length bl).trans (HL64.out.trans rfl)))] at hr_w11
        have hb_w11 : Below w10.heap.size w10 w11 := ((Below.refl _ _).alloc (Nat.le_refl _) _).grown hg_w11 (by simp) (fun j e => Nat.le_of_eq (Option.some.inj e))
        have HRA := Lib.hid (range_below HRG10.out hb_w11 hs10)
        have HRB := Lib.hid (Row.range hr_w11 (o := 0) (vs := bv bl) fun j v hj => by simpa using hj)
        have HT11 := Lib.hid (HT10.out.below hb_w11)
        have HB11 := Lib.hid (HB10.out.trans (hb_w11.mono HB10.out.size))
        have r11 := HR10.out.below hb_w11 hsr10
        have f0 : w11.cell? ⟨wr.heap.size, 0, none⟩ = some (.int .i64 kd) := r11.cell 0
        have f1 : w11.cell? ⟨wr.heap.size, 1, none⟩ = some (.int .i64 a) := r11.cell 1
        have f2 : w11.cell? ⟨wr.heap.size, 2, none⟩ = some (.int .u8 (x.toNat : Int)) := r11.cell 2
        have f3 : w11.cell? ⟨wr.heap.size, 3, none⟩ = some (.slice Ak nk ck) := r11.cell 3
        clear hr_w11 hg_w11 hb_w11 HT10 HB10 HRN_w11 HRG10 r11 HR10
        go_wp2_with (first
          | (with_reducible refine wpList_load_blk (op := ⟨some 145, _, _, _, _, _⟩) ?_ 39 (.tmp 17) ?_ w8.heap.size 0 ?_ bl _ HRA.out Try.underlying39 ?_ HSL.out ?_)
          | (with_reducible refine wpList_load_blk (op := ⟨some 146, _, _, _, _, _⟩) ?_ 39 (.tmp 19) ?_ w10.heap.size 0 ?_ bl _ HRB.out Try.underlying39 ?_ HSL.out ?_)
          | (with_reducible refine wpList_neq_blk (o := ⟨some 147, _, _, _, _, _⟩) ?_ (.tmp 145) (.tmp 146) ?_ bl bl ?_ ?_ HL64.out HL64.out ?_))
        all_goals try rfl
        go_wp2_with fail
        obtain ⟨Ga, Gb, hA2, hrest⟩ := HT11.out
        refine (dead_any ga _ Ga w11 hA2.1).mono ?_
        clear hA2 hrest
        rintro e w12 ⟨rfl, rfl⟩
        rw [HN3.out]
        go_wp2_with fail
        refine (kind_any kd a _ (x.toNat : Int) rfl Ak nk ck _).mono ?_
        rintro e w13 ⟨rfl, hb13⟩
        have HT13 := Lib.hid (HT11.out.below hb13)
        have HB13 := Lib.hid (HB11.out.trans (hb13.mono HB11.out.size))
        clear hb13 HT11 HB11 f0 f1 f2 f3
        by_cases hpos : 0 < kindM kd
        · by_cases hee : er = 0
          · have HI13 := Lib.hid (show ∃ da db, ARel q ((t + 1 : Nat) : Int) da db ∧ Two w13 w.heap.size ga gb da db ∧ db.pend.length ≤ k + 1 ∧ Below w.heap.size w w13 from ⟨_, _, (by have h := HN2.out; rw [if_pos ⟨hpos, hee⟩] at h; simpa using h), HT13.out.two, HPB2.out, HB13.out⟩)
            clear HT13 HB13 HN2
            subst hee
            go_wp2
            go_roundw
            case rel => exact ⟨k + 1, by omega, by go_num, t + 1, by omega, by go_num, HI13⟩
            case measure => first | (simp [intOf]; omega) | simp [intOf]
          · have HI13 := Lib.hid (show ∃ da db, ARel q (t : Int) da db ∧ Two w13 w.heap.size ga gb da db ∧ db.pend.length ≤ k + 1 ∧ Below w.heap.size w w13 from ⟨_, _, (by have h := HN2.out; rw [if_neg (fun hh => hee hh.2)] at h; simpa using h), HT13.out.two, HPB2.out, HB13.out⟩)
            clear HT13 HB13 HN2
            go_wp2
            go_roundw
            case rel => exact ⟨k + 1, by omega, by go_num, t, by omega, rfl, HI13⟩
            case measure => first | (simp [intOf]; omega) | simp [intOf]
        · have HI13 := Lib.hid (show ∃ da db, ARel q (t : Int) da db ∧ Two w13 w.heap.size ga gb da db ∧ db.pend.length ≤ k + 1 ∧ Below w.heap.size w w13 from ⟨_, _, (by have h := HN2.out; rw [if_neg (fun hh => absurd hh.1 (by omega))] at h; simpa using h), HT13.out.two, HPB2.out, HB13.out⟩)
          clear HT13 HB13 HN2
          go_wp2
          go_roundw
          case rel => exact ⟨k + 1, by omega, by go_num, t, by omega, rfl, HI13⟩
          case measure => first | (simp [intOf]; omega) | simp [intOf]
    · obtain rfl : k = m := by omega
      obtain ⟨da, db, hrel, hT, hpb, hBr⟩ := HI.out
      obtain ⟨hh1, hh2, hh3, hh4⟩ := hrel.held
      have HT := Lib.hid hT
      have HBE := Lib.hid hBr
      have HSIX : Hid (db.sec.length = 6) := (show _ = _ from hrel.six)
      have HSA : Hid (da.sec.length = 6) := (show _ = _ by rw [hh3]; exact hrel.six)
      have hlh := held_len (d := db)
      obtain ⟨Lh, hLh⟩ : ∃ Lh, Lh = db.heldM.2 := ⟨_, rfl⟩
      rw [← hLh] at hh1 hlh
      have HLL : Hid (Lh.length = 6) := (show _ = _ by rw [hlh]; exact hrel.six)
      obtain ⟨dha, hdha⟩ : ∃ dha, dha = da.heldM.1 := ⟨_, rfl⟩
      obtain ⟨dhb, hdhb⟩ : ∃ dhb, dhb = db.heldM.1 := ⟨_, rfl⟩
      have HDA : Hid (da.heldM = (dha, Lh)) := (show _ = _ by rw [hdha, ← hh1])
      have HDB : Hid (db.heldM = (dhb, Lh)) := (show _ = _ by rw [hdhb, hLh])
      have HOPS : Hid (dha.ops = dhb.ops) := (show _ = _ by rw [hdha, hdhb]; exact hh2)
      have HXL : Hid (∀ j, False → j < wr.heap.size) := (show ∀ j, _ → _ from fun _ hf => hf.elim)
      have HTE : Hid (TwoX wr w.heap.size (fun _ => False) ga gb da db) := (show TwoX _ _ _ _ _ _ _ from HT.out)
      clear hrel hT hpb hBr HI HO HOK hh1 hh2 hh3 hh4 hlh hLh hdha hdhb HT
      go_wp2_with fail
      refine (TwoX.heldA HTE.out HBE.out.size (fun j hj => HXL.out j hj)).mono ?_
      rintro e w16 ⟨A1, ch1, rfl, hk1, hbs1, hT16, hb16, _, _⟩
      rw [HDA.out] at hk1 hT16
      have HK1 : Hid (Blks w16 w16.heap.size A1 Lh) := (show Blks _ _ _ _ from hk1)
      have HBS1 := Lib.hid hbs1
      have HT16 := Lib.hid hT16
      have HB16 := Lib.hid (HBE.out.trans hb16)
      have hsz16 : wr.heap.size ≤ w16.heap.size := hb16.size
      clear hk1 hbs1 hT16 hb16 HTE HBE
      go_wp2_with fail
      refine (TwoX.heldB HT16.out HB16.out.size (fun j hj => by rcases hj with hj | hj; exact Nat.lt_of_lt_of_le (HXL.out j hj) hsz16; exact hj.2)).mono ?_
      rintro e w17 ⟨A2, ch2, rfl, hk2, hbs2, hT17, hb17, _, hkp⟩
      have hk1' := hkp A1 _ HK1.out (fun b o s e => .inr ⟨HBS1.out b o s e, by
        obtain ⟨bb, oo, ee, hlt, _⟩ := HK1.out (by rw [HLL.out]; omega)
        rw [e] at ee
        cases ee
        exact hlt⟩)
      rw [HDB.out] at hk2 hT17
      have HKA := Lib.hid (hk1'.more hb17.2)
      have HKB : Hid (Blks w17 w17.heap.size A2 Lh) := (show Blks _ _ _ _ from hk2)
      have HT17 := Lib.hid hT17
      have HB17 := Lib.hid (HB16.out.trans hb17.1)
      clear hk1' hk2 hbs2 hT17 hb17 hkp HK1 HBS1 HT16 HB16
      have HLA : Hid (Lh.length = da.sec.length) := (show _ = _ by rw [HLL.out, HSA.out])
      have HLB : Hid (Lh.length = db.sec.length) := (show _ = _ by rw [HLL.out, HSIX.out])
      have HNA : Hid (da.sec.length ≤ 1000000) := (show _ ≤ _ by rw [HSA.out]; omega)
      have HNB : Hid (db.sec.length ≤ 1000000) := (show _ ≤ _ by rw [HSIX.out]; omega)
      go_wp2_with fail
      refine (same_any A1 A2 da.sec.length db.sec.length ch1 ch2 Lh Lh w17 HLA.out HLB.out HKA.out HKB.out HNA.out HNB.out).mono ?_
      rintro e w18 ⟨rfl, hb18⟩
      have HB18 := Lib.hid (HB17.out.trans (hb18.mono HB17.out.size))
      have HT18 := Lib.hid (HT17.out.below hb18)
      rw [decide_eq_true (rfl : Lh = Lh)]
      clear hb18 HT17 HB17 HKA HKB
      go_wp2_with fail
      obtain ⟨Ga, Gb, hA2, hB2, hrest⟩ := HT18.out
      refine (ops_any ga _ Ga w18 hA2.1).mono ?_
      rintro e w19 ⟨rfl, rfl⟩
      rw [show (dha, Lh).1.ops = dhb.ops from HOPS.out]
      go_wp2_with fail
      refine (ops_any gb _ Gb w19 hB2.1).mono ?_
      rintro e w20 ⟨rfl, rfl⟩
      clear hA2 hB2 hrest HT18
      go_wp2
      go_ret
      exact ⟨rfl, HB18.out⟩

theorem resT_DiskArmed : Try.f7.resultTypes = #[4] := by kernel_rfl
set_option maxRecDepth 100000 in
theorem lifted_DiskArmed (os : Os) (started : os.Started) (H : Type) (enc : TypeId × Value → H) :
    ReturnsInHanded {} Try.checked os 7 .any (Rows.diskArmedSpec.pre6 enc Try.prog Try.f7 Rows.diskArmedRow.domain false) (Rows.diskArmedSpec.post enc Try.prog Try.f7 false true false false) := by
  refine Lift.law_lift (C := Try.checked) (s := Rows.diskArmedSpec) (tb := 4) own laidOut started (by kernel_rfl) Try.func7
    (ChangeSpec.witness6 (enc := enc) (C := Try.checked) false ⟨#[], #[.slice none 0 0, .int .i64 0], []⟩ 8 (by kernel_rfl) (by kernel_rfl) (by kernel_rfl) (by kernel_rfl))
    rfl resT_DiskArmed Try.underlying4 (by
      have hr : ∀ t ∈ ([22, 3] : List TypeId), Try.prog.readableRec t = true ∧ t < Try.prog.types.size := by
        intro t ht
        simp only [List.mem_cons, List.not_mem_nil, or_false] at ht
        rcases ht with rfl | rfl <;> exact ⟨by kernel_rfl, of_decide_eq_true (by kernel_rfl)⟩
      intro t ht
      exact hr t (by
        have ht' : t ∈ Try.f7.params.toList := ht
        rw [Try.params7] at ht'
        exact ht')) ?_
  intro W base args ds p hval0 hA0 hsz0
  have hval : ∀ (j : Nat) t v, Try.f7.params[j]? = some t → args[j]? = some v → Value.okWide Try.prog W .any base t v := hval0
  have hA : DataW.TrodAll enc Try.prog W 0 (fun _ => true) true Try.f7.params.toList args.toList ds p := hA0
  have hsz : (DataW.weightsEach Try.prog Try.f7.params.toList ds).all (· ≤ reachBytes) = true := hsz0
  clear hval0 hA0 hsz0
  rw [Try.params7] at hA hval hsz
  obtain ⟨v0, vs0, d0, ds0, p0, q0, hargs, rfl, rfl, h0, r0⟩ := trodAll_cons hA
  obtain ⟨v1, vs1, d1, ds1, p1, q1, rfl, rfl, rfl, h1, r1⟩ := trodAll_cons r0
  obtain ⟨rfl, rfl, rfl⟩ := trodAll_nil r1
  obtain rfl : args = #[v0, v1] := by cases args; simp_all
  obtain ⟨A0, n0, c0, os0, rfl, hl0, hlc0, hn0, hm0, ho0, hk0⟩ := open_ops (hval 0 22 v0 rfl rfl) h0 (by rw [List.all_eq_true] at hsz ⊢; intro z hz; exact hsz z (DataW.weights_mem_each (j := 0) (t := 22) (d := d0) rfl rfl z hz))
  obtain ⟨a1, rfl, rfl, rfl, w1⟩ := open_int Try.underlying3 (hval 1 3 v1 rfl rfl) h1
  exact ⟨rfl, armed_walk A0 n0 c0 os0 a1 W hl0 hlc0 hn0 hm0 ho0 hk0⟩

theorem proved_DiskArmed : Rows.DiskArmedSaid :=
  OpenClaim.holds_of_wide 7 Try.f7 rfl rfl rfl rfl rfl rfl rfl ⟨rfl, rfl, rfl, rfl, rfl⟩ rfl rfl rfl rfl rfl (by kernel_rfl) Try.func7 (by kernel_rfl)
    (of_decide_eq_true (by kernel_rfl)) (by unfold Func.isWrapper; first | (rw [if_pos (by decide +kernel)]; kernel_rfl) | (rw [if_neg (by decide +kernel)]; exact ⟨rfl, rfl⟩))
    (fun os started H enc _ => lifted_DiskArmed os started H enc)
end Go.Proofs.Ytnaajeklhbjeoaa.Dsk
