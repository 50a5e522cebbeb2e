/-
  DiskFails: an operation that fails is told and changes nothing, and all others do as on a disk that does not fail. No condition.
-/
import Derived.Test.YtnaajeklhbjeoaaDev2D
namespace Go.Proofs.Ytnaajeklhbjeoaa.Dsk
open Go.ChangeShapes Go.WideShapes Go.ChangeAt Go.RowKit Go.Proofs.Ytnaajeklhbjeoaa.Wd

theorem own : ownKnob Try.prog.godebug = none := by kernel_rfl
theorem laidOut : laidOutB Try.prog = true := by kernel_rfl
theorem two_new {w1 w2 : World} {B ga gb : Nat} {da db : DM} {Fa Fb : Nat → Prop} (h1 : Disk w1 Fa ga da) (hFa : ∀ k, Fa k → B ≤ k) (hb : Below w1.heap.size w1 w2) (h2 : Disk w2 Fb gb db) (hFb : ∀ k, Fb k → w1.heap.size ≤ k) (hB : B ≤ w1.heap.size) : Two w2 B ga gb da db :=
  ⟨Fa, Fb, h1.below hb, h2, (fun k hk hf => by have := h1.2 k hk; have := hFb k hf; omega), hFa, (fun k hk => Nat.le_trans hB (hFb k hk)), fun k hf => hf.elim⟩

set_option maxRecDepth 100000 in
set_option maxHeartbeats 8000000 in
theorem fails_walk (A : Option Addr) (n c : Nat) (os : List OM) (N : Int) (w : World) (hl : os.length = n) (hc : n ≤ c) (hA : A = none → c = 0) (hm : c ≤ maxLen) (ho : Opl w w.heap.size A os) (hok : ∀ o ∈ os, OpOk w o) :
    Calls Try.prog 8 #[.slice A n c, .int .i64 N] w fun e w' => e = .returned (.bool true) ∧ Below w.heap.size w w' := by
  have HM := Lib.hid hm
  have HOS := Lib.hid ho
  have HOKS := Lib.hid hok
  have HLS := Lib.hid hl
  obtain ⟨M, hMN⟩ : ∃ M : Int, M = if N < 0 then 0 else N := ⟨_, rfl⟩
  have hM0 : 0 ≤ M := by rw [hMN]; split <;> omega
  have HMN := Lib.hid hMN
  have HBZ := Lib.hid built_zero
  have HSZN : Hid ((Try.prog.info? 39).map (·.size) = some nought.length) := size39
  clear hm ho hok hl hMN
  go_enter Try.func8, Try.ntmps8
  go_wp2_with fail
  refine (wakes_any w).mono ?_
  rintro e w0 ⟨rfl, hb0⟩
  have HB0 := Lib.hid hb0
  clear hb0
  go_wp2_with (first
    | (with_reducible refine wpList_max0 (o := ⟨some 20, _, _, _, _, _⟩) ?_ (.tmp 19) ?_ N M ?_ HMN.out ?_))
  all_goals try rfl
  go_wp2_with fail
  generalize hq : M % 40 = q
  have hq0 : 0 ≤ q := by omega
  have hq40 : q < 40 := by omega
  clear hq HMN hM0
  refine (worn_any none 0 0 [] w0 rfl (Nat.le_refl _) (fun _ => rfl) (Nat.zero_le _) (fun hp => absurd hp (by simp)) (fun o h => by cases h)).mono ?_
  rintro e w1 ⟨ga, rfl, Fa, hDa, hFa, hb1⟩
  have HDa := Lib.hid hDa
  have HFa := Lib.hid hFa
  have HB1 := Lib.hid (HB0.out.trans (hb1.mono HB0.out.size))
  have hs1 : w0.heap.size ≤ w1.heap.size := hb1.size
  clear hDa hFa hb1
  go_wp2_with fail
  refine (worn_any none 0 0 [] w1 rfl (Nat.le_refl _) (fun _ => rfl) (Nat.zero_le _) (fun hp => absurd hp (by simp)) (fun o h => by cases h)).mono ?_
  rintro e w2 ⟨gb, rfl, Fb, hDb, hFb, hb2⟩
  have HT2 : Hid (Two w2 w.heap.size ga gb (DM.new 6) (DM.new 6)) := (show Two _ _ _ _ _ _ from two_new HDa.out (fun k hk => Nat.le_trans HB0.out.size (HFa.out k hk)) hb2 hDb hFb HB1.out.size)
  have HB2 := Lib.hid (HB1.out.trans (hb2.mono HB1.out.size))
  clear hDb hFb hb2 HDa HFa HB0 HB1 hs1
  go_wp2_with fail
  refine (TwoX.left HT2.out HB2.out.size (fun _ hf => hf.elim) (fun F hF => fail_any ga (DM.new 6) F q w2 hF (by omega))).mono ?_
  rintro e w3 ⟨rfl, hT3, hb3, _⟩
  obtain ⟨hfs, hrel⟩ := frel_start q hq0
  rw [hfs]
  have HB3 := Lib.hid (HB2.out.trans hb3)
  have HI3 := Lib.hid (show ∃ da db, FRel q (0 : Nat) da db ∧ Two w3 w.heap.size ga gb da db ∧ db.pend.length ≤ 0 ∧ Below w.heap.size w w3 from ⟨_, _, hrel, hT3, by simp [DM.new], HB3.out⟩)
  clear hT3 hb3 hfs hrel HT2 HB2 HB3
  go_wp2_with fail
  refine (few_any A n c w3 hc hA HM.out).mono ?_
  rintro e w4 ⟨rfl, rfl⟩
  obtain ⟨L, hL⟩ : ∃ L, L = os.take 120 := ⟨_, rfl⟩
  have hlen : L.length = min n 120 := by rw [hL, List.length_take, HLS.out, Nat.min_comm]
  have HO : Hid (Opl w w.heap.size A L) := (show Opl _ _ _ _ by rw [hL]; exact HOS.out.take 120)
  have HOK : Hid (∀ o ∈ L, OpOk w o) := (show ∀ o ∈ _, _ from fun o h => HOKS.out o (List.mem_of_mem_take (hL ▸ h)))
  have hlm : L.length ≤ 120 := by omega
  rw [← hlen]
  obtain ⟨m, hm⟩ : ∃ m, m = L.length := ⟨_, rfl⟩
  rw [← hm]
  rw [← hm] at hlm
  have HLM := Lib.hid hm
  clear hlen hm hA hc hL HOS HOKS HLS HM
  go_wp2
  go_loopw [7, 39] (fun v i wr => ∃ k : Nat, k ≤ m ∧ i = .int .i64 k ∧ ∃ t : Nat, t ≤ k ∧ v = .int .i64 t ∧ Hid (∃ da db, FRel q (t : Int) da db ∧ Two wr w.heap.size ga gb da db ∧ db.pend.length ≤ k ∧ Below w.heap.size w wr)) (fun _ i _ => m - (intOf i).toNat)
  case atStart => exact ⟨0, by omega, rfl, 0, by omega, rfl, HI3⟩
  case round =>
    obtain ⟨k, hk, rfl, t, ht, rfl, HI⟩ := hrel
    rename World => wr
    by_cases hlt : k < m
    · have hkl : k < L.length := by rw [← HLM.out]; exact hlt
      obtain ⟨da, db, hrel, hT, hpb, hBr⟩ := HI.out
      obtain ⟨b, qo, rfl, hbl, hr⟩ := HO.out (by omega)
      have hget : L[k]? = some L[k] := List.getElem?_eq_getElem hkl
      have hrg := range_below (hr k _ hget) hBr hbl
      have hoo := HOK.out L[k] (List.getElem_mem hkl)
      obtain ⟨om, hom⟩ : ∃ om, om = L[k] := ⟨_, rfl⟩
      rw [← hom] at hrg hoo
      have HREL := Lib.hid hrel
      have HT := Lib.hid hT
      have HPB := Lib.hid hpb
      have HBR := Lib.hid hBr
      have HOO := Lib.hid hoo
      clear hr hget hom hrel hT hpb hBr hoo HI
      obtain ⟨kd, a, x, Ak, nk, ck, lk⟩ := om
      have c0 : wr.cell? ⟨b, qo + k * 4, none⟩ = some (.int .i64 kd) := hrg 0 _ rfl
      have c1 : wr.cell? ⟨b, qo + k * 4 + 1, none⟩ = some (.int .i64 a) := hrg 1 _ rfl
      have c2 : wr.cell? ⟨b, qo + k * 4 + 2, none⟩ = some (.int .u8 (x.toNat : Int)) := hrg 2 _ rfl
      have c3 : wr.cell? ⟨b, qo + k * 4 + 3, none⟩ = some (.slice Ak nk ck) := hrg 3 _ rfl
      clear hrg
      go_wp2_with fail
      refine (kind_any kd a _ (x.toNat : Int) rfl Ak nk ck _).mono ?_
      rintro e w5 ⟨rfl, hb5⟩
      have r5 := Row.below (Row.new wr 37 (ocs kd a x Ak nk ck)) hb5 (by simp)
      have hb05 : Below wr.heap.size wr w5 := ((Below.refl _ _).alloc (Nat.le_refl _) _).trans (hb5.mono (by simp))
      have hsr : wr.heap.size < w5.heap.size := r5.lt
      have HR5 := Lib.hid r5
      have HB5 := Lib.hid (HBR.out.trans (hb05.mono HBR.out.size))
      have HT5 : Hid (TwoX w5 w.heap.size (fun j => False ∨ j = wr.heap.size) ga gb da db) := (show TwoX _ _ _ _ _ _ _ from TwoX.add HT.out hb05)
      clear hb5 r5 hb05 c0 c1 c2 c3 HT HBR
      by_cases hk2 : 2 < kindM kd
      · have HI5 := Lib.hid (show ∃ da db, FRel q (t : Int) da db ∧ Two w5 w.heap.size ga gb da db ∧ db.pend.length ≤ k + 1 ∧ Below w.heap.size w w5 from ⟨da, db, HREL.out, HT5.out.two, Nat.le_succ_of_le HPB.out, HB5.out⟩)
        clear HREL HT5 HPB HB5 HOO HR5
        go_wp2
        go_roundw
        case rel => exact ⟨k + 1, by omega, by go_num, t, by omega, rfl, HI5⟩
        case measure => simp [intOf]; omega
      have d0 : w5.cell? ⟨wr.heap.size, 0, none⟩ = some (.int .i64 kd) := HR5.out.cell 0
      have d1 : w5.cell? ⟨wr.heap.size, 1, none⟩ = some (.int .i64 a) := HR5.out.cell 1
      have d2 : w5.cell? ⟨wr.heap.size, 2, none⟩ = some (.int .u8 (x.toNat : Int)) := HR5.out.cell 2
      have d3 : w5.cell? ⟨wr.heap.size, 3, none⟩ = some (.slice Ak nk ck) := HR5.out.cell 3
      have hk2' : kindM kd ≤ 2 := by omega
      go_wp2_with fail
      refine (kind_any kd a _ (x.toNat : Int) rfl Ak nk ck _).mono ?_
      rintro e w6 ⟨rfl, hb6⟩
      have r6 := HR5.out.below hb6 hsr
      have e0 : w6.cell? ⟨wr.heap.size, 0, none⟩ = some (.int .i64 kd) := r6.cell 0
      have e1 : w6.cell? ⟨wr.heap.size, 1, none⟩ = some (.int .i64 a) := r6.cell 1
      have e2 : w6.cell? ⟨wr.heap.size, 2, none⟩ = some (.int .u8 (x.toNat : Int)) := r6.cell 2
      have e3 : w6.cell? ⟨wr.heap.size, 3, none⟩ = some (.slice Ak nk ck) := r6.cell 3
      have HR6 := Lib.hid r6
      have HB6 := Lib.hid (HB5.out.trans (hb6.mono HB5.out.size))
      have HT6 := Lib.hid (HT5.out.below hb6)
      have hsr6 : wr.heap.size < w6.heap.size := r6.lt
      clear d0 d1 d2 d3 HB5 HT5 HR5 hb6 r6 hsr
      have HSKIP := Lib.hid (show ∃ da db, FRel q (t : Int) da db ∧ Two w6 w.heap.size ga gb da db ∧ db.pend.length ≤ k + 1 ∧ Below w.heap.size w w6 from ⟨da, db, HREL.out, HT6.out.two, Nat.le_succ_of_le HPB.out, HB6.out⟩)
      by_cases h01 : kindM kd < 2
      · by_cases ha0 : a < 0
        · clear HREL HT6 HPB HB6 HOO HR6
          go_wp2
          go_roundw
          case rel => exact ⟨k + 1, by omega, by go_num, t, by omega, rfl, HSKIP⟩
          case measure => simp [intOf]; omega
        by_cases ha6 : 6 ≤ a
        · clear HREL HT6 HPB HB6 HOO HR6
          go_wp2
          go_roundw
          case rel => exact ⟨k + 1, by omega, by go_num, t, by omega, rfl, HSKIP⟩
          case measure => simp [intOf]; omega
        have HASK : Hid (Asked ⟨kd, a, x, Ak, nk, ck, lk⟩) := (show Asked _ from ⟨by show kindM kd ≤ 2; omega, fun _ => ⟨by show 0 ≤ a; omega, by show a < 6; omega⟩⟩)
        by_cases heq : (t : Int) = q
        · have hqt : (t : Int) = q := heq
          subst hqt
          obtain ⟨n1, n2, n3, n4, n5⟩ := HREL.out.now ⟨kd, a, x, Ak, nk, ck, lk⟩ HASK.out
          have HN1 := Lib.hid n1
          have HN2 : Hid (FRel (t : Int) ((t + 1 : Nat) : Int) db db) := (show FRel _ _ _ _ by simpa using n2)
          have HN5 := Lib.hid n5
          have HDEAD : Hid (db.dead = false) := (show _ = _ from HREL.out.calm.1)
          have HPEND := Lib.hid n4
          clear n1 n2 n3 n4 n5 HSKIP
          have HL64 : Hid (nought.length = 64) := (show _ = _ from rfl)
          have HSB : Hid ((Try.prog.info? 39).map (·.size) = some (bv nought).length) := (show _ = _ by rw [bv_length, HL64.out]; exact size39)
          have HSL : Hid ((Try.prog.info? 39).map (·.size) = some (nought).length) := (show _ = _ by rw [HL64.out]; exact size39)
          have HFT : Hid (0 + (bv nought).length ≤ (bv nought).length) := (show _ ≤ _ from Nat.le_of_eq ((Nat.zero_add _).trans ((bv_length _).trans (HL64.out.trans rfl))))
          go_wp2_with fail
          obtain ⟨Ga, Gb, hA2, hrest⟩ := HT6.out
          refine (ops_any ga da Ga w6 hA2.1).mono ?_
          clear hA2 hrest
          rintro e w7 ⟨rfl, rfl⟩
          rw [HN5.out]
          go_wp2_with fail
          refine (TwoX.left HT6.out HB6.out.size (fun j hj => by rcases hj with hj | rfl; exact hj.elim; exact hsr6) (fun F hF => does_any ga da F ⟨kd, a, x, Ak, nk, ck, lk⟩ w7 hF (by have := HPB.out; have e := HPEND.out; rw [e]; omega) (HOO.out.below HB6.out) (by show kindM kd ≠ 4; omega))).mono ?_
          rintro e w8 ⟨rfl, hT8, hb8, _⟩
          rw [HN1.out] at hT8 ⊢
          have HT8 := Lib.hid hT8
          have HB8 := Lib.hid (HB6.out.trans hb8)
          clear hT8 hb8 HT6 HB6 e0 e1 e2 e3
          have HRN_w9 := Lib.hid (Row.new w8 39 (bv nought))
          go_wp2_with (first
            | (with_reducible refine wpList_store_in (op := ⟨none, _, _, _, _, _⟩) ?_ 39 (.tmp 11) (.tmp 72) ?_ w8.heap.size 0 (bv nought) ?_ ?_ 39 (bv nought) ?_ HFT.out bv_one HSB.out ?_))
          all_goals try (first | rfl | exact HRN_w9.out)
          intro w9 hr_w9 hg_w9
          rw [splice_all (bv nought) (bv nought) (Eq.symm ((bv_length nought).trans (HL64.out.trans rfl)))] at hr_w9
          have hb_w9 : Below w8.heap.size w8 w9 := ((Below.refl _ _).alloc (Nat.le_refl _) _).grown hg_w9 (by simp) (fun j e => Nat.le_of_eq (Option.some.inj e))
          have HRG := Lib.hid (Row.range hr_w9 (o := 0) (vs := bv nought) fun j v hj => by simpa using hj)
          have HT9 := Lib.hid (HT8.out.below hb_w9)
          have HB9 := Lib.hid (HB8.out.trans (hb_w9.mono HB8.out.size))
          clear hr_w9 hg_w9 hb_w9 HT8 HB8 HRN_w9
          go_wp2_with (first
            | (with_reducible refine wpList_load_blk_w (op := ⟨some 77, _, _, _, _, _⟩) ?_ 39 (.tmp 11) ?_ w8.heap.size 0 ?_ nought _ HRG.out Try.underlying39 ?_ HSZN.out ?_)
            | (with_reducible refine wpList_build_to (o := ⟨some 78, _, _, _, _, _⟩) (by rfl) 39 _ rfl (bv nought).toArray HBZ.out ?_)
            | (with_reducible refine wpList_neq_blk (o := ⟨some 79, _, _, _, _, _⟩) ?_ (.tmp 77) (.tmp 78) ?_ nought nought ?_ ?_ ?_ ?_ ?_))
          all_goals try rfl
          go_wp2_with fail
          obtain ⟨Ga, Gb, hA2, hB2, hrest⟩ := HT9.out
          refine (dead_any ga db Ga w9 hA2.1).mono ?_
          rintro e w10 ⟨rfl, rfl⟩
          rw [HDEAD.out]
          go_wp2_with fail
          refine (ops_any ga db Ga w10 hA2.1).mono ?_
          rintro e w11 ⟨rfl, rfl⟩
          go_wp2_with fail
          refine (pending_any ga db Ga w11 hA2 (by have := HPB.out; omega)).mono ?_
          rintro e w12 ⟨rfl, _, hb12⟩
          have HT12 := Lib.hid (HT9.out.below hb12)
          have HB12 := Lib.hid (HB9.out.trans (hb12.mono HB9.out.size))
          clear hA2 hB2 hrest hb12 HT9 HB9
          go_wp2_with fail
          obtain ⟨Ga, Gb, hA2, hB2, hrest⟩ := HT12.out
          refine (pending_any gb db Gb w12 hB2 (by have := HPB.out; omega)).mono ?_
          rintro e w13 ⟨rfl, _, hb13⟩
          have HI13 := Lib.hid (show ∃ da db, FRel (t : Int) ((t + 1 : Nat) : Int) da db ∧ Two w13 w.heap.size ga gb da db ∧ db.pend.length ≤ k + 1 ∧ Below w.heap.size w w13 from ⟨db, db, HN2.out, (HT12.out.below hb13).two, Nat.le_succ_of_le HPB.out, HB12.out.trans (hb13.mono HB12.out.size)⟩)
          clear hA2 hB2 hrest hb13 HT12 HB12
          go_wp2
          go_roundw
          case rel => exact ⟨k + 1, by omega, by go_num, t + 1, by omega, by go_num, HI13⟩
          case measure => simp [intOf]; omega
        · have hqt : ¬ (t : Int) = q := heq
          obtain ⟨n1, n2⟩ := HREL.out.later hqt ⟨kd, a, x, Ak, nk, ck, lk⟩ HASK.out
          have HPEND := Lib.hid HREL.out.pend
          have hpb2 := Nat.le_trans (does_pend db ⟨kd, a, x, Ak, nk, ck, lk⟩) (Nat.succ_le_succ HPB.out)
          have hl64 : (db.doesM ⟨kd, a, x, Ak, nk, ck, lk⟩).2.1.length = 64 := by
            obtain ⟨_, _, _, hB2, _⟩ := HT6.out
            exact does_blk hB2.good _
          obtain ⟨bl, hbl'⟩ : ∃ bl, bl = (db.doesM ⟨kd, a, x, Ak, nk, ck, lk⟩).2.1 := ⟨_, rfl⟩
          obtain ⟨er, her⟩ : ∃ er, er = (db.doesM ⟨kd, a, x, Ak, nk, ck, lk⟩).2.2 := ⟨_, rfl⟩
          have HN1 : Hid ((da.doesM ⟨kd, a, x, Ak, nk, ck, lk⟩).2 = (bl, er)) := (show _ = _ by rw [n1, hbl', her])
          have HM1 : Hid ((db.doesM ⟨kd, a, x, Ak, nk, ck, lk⟩).2 = (bl, er)) := (show _ = _ by rw [hbl', her])
          have HN2 : Hid (FRel q ((t + 1 : Nat) : Int) (da.doesM ⟨kd, a, x, Ak, nk, ck, lk⟩).1 (db.doesM ⟨kd, a, x, Ak, nk, ck, lk⟩).1) := (show FRel _ _ _ _ by simpa using n2)
          have HPB2 := Lib.hid hpb2
          rw [← hbl'] at hl64
          have HL64 := Lib.hid hl64
          clear n1 n2 hpb2 hl64 hbl' her HSKIP
          have HSB : Hid ((Try.prog.info? 39).map (·.size) = some (bv bl).length) := (show _ = _ by rw [bv_length, HL64.out]; exact size39)
          have HSL : Hid ((Try.prog.info? 39).map (·.size) = some (bl).length) := (show _ = _ by rw [HL64.out]; exact size39)
          have HFT : Hid (0 + (bv bl).length ≤ (bv nought).length) := (show _ ≤ _ from Nat.le_of_eq ((Nat.zero_add _).trans ((bv_length _).trans (HL64.out.trans rfl))))
          go_wp2_with fail
          refine (TwoX.left HT6.out HB6.out.size (fun j hj => by rcases hj with hj | rfl; exact hj.elim; exact hsr6) (fun F hF => does_any ga da F ⟨kd, a, x, Ak, nk, ck, lk⟩ w6 hF (by have := HPB.out; have e := HPEND.out; rw [e]; omega) (HOO.out.below HB6.out) (by show kindM kd ≠ 4; omega))).mono ?_
          rintro e w8 ⟨rfl, hT8, hb8, hx8⟩
          rw [HN1.out]
          have HT8 := Lib.hid hT8
          have HB8 := Lib.hid (HB6.out.trans hb8)
          have hr8 : Row w8 wr.heap.size 37 (ocs kd a x Ak nk ck) := (hx8 _ (.inr rfl)).trans HR6.out
          have hsr8 : wr.heap.size < w8.heap.size := hr8.lt
          have HR8 := Lib.hid hr8
          clear hT8 hb8 hx8 hr8 HT6 HB6 HR6 hsr6 e0 e1 e2 e3
          have HRN_w9 := Lib.hid (Row.new w8 39 (bv nought))
          go_wp2_with (first
            | (with_reducible refine wpList_store_in (op := ⟨none, _, _, _, _, _⟩) ?_ 39 (.tmp 13) (.tmp 106) ?_ w8.heap.size 0 (bv bl) ?_ ?_ 39 (bv nought) ?_ HFT.out bv_one HSB.out ?_))
          all_goals try (first | rfl | exact HRN_w9.out)
          intro w9 hr_w9 hg_w9
          rw [splice_all (bv nought) (bv bl) (Eq.symm ((bv_length bl).trans (HL64.out.trans rfl)))] at hr_w9
          have hb_w9 : Below w8.heap.size w8 w9 := ((Below.refl _ _).alloc (Nat.le_refl _) _).grown hg_w9 (by simp) (fun j e => Nat.le_of_eq (Option.some.inj e))
          have hrg9 := Row.range hr_w9 (o := 0) (vs := bv bl) fun j v hj => by simpa using hj
          have hT9 : TwoX w9 w.heap.size (fun j => (False ∨ j = wr.heap.size) ∨ j = w8.heap.size) ga gb _ db := TwoX.add HT8.out hb_w9
          have hr9 := HR8.out.below hb_w9 hsr8
          have f0 : w9.cell? ⟨wr.heap.size, 0, none⟩ = some (.int .i64 kd) := hr9.cell 0
          have f1 : w9.cell? ⟨wr.heap.size, 1, none⟩ = some (.int .i64 a) := hr9.cell 1
          have f2 : w9.cell? ⟨wr.heap.size, 2, none⟩ = some (.int .u8 (x.toNat : Int)) := hr9.cell 2
          have f3 : w9.cell? ⟨wr.heap.size, 3, none⟩ = some (.slice Ak nk ck) := hr9.cell 3
          have HT9 := Lib.hid hT9
          have HRG9 := Lib.hid hrg9
          have HB9 := Lib.hid (HB8.out.trans (hb_w9.mono HB8.out.size))
          have hs8 : w8.heap.size < w9.heap.size := hr_w9.lt
          have hsr9 : wr.heap.size < w9.heap.size := hr9.lt
          clear hr_w9 hg_w9 hb_w9 HT8 HB8 HRN_w9 hT9 hr9 hrg9
          go_wp2_with fail
          refine (TwoX.right HT9.out HB9.out.size (fun j hj => by rcases hj with (hj | rfl) | rfl; exact hj.elim; exact hsr9; exact hs8) (fun F hF => does_any gb db F ⟨kd, a, x, Ak, nk, ck, lk⟩ w9 hF (by have := HPB.out; omega) (HOO.out.below HB9.out) (by show kindM kd ≠ 4; omega))).mono ?_
          rintro e w10 ⟨rfl, hT10, hb10, hx10⟩
          rw [HM1.out]
          have hrg10 : w10.rangeAt w8.heap.size 0 (bv bl) := fun j v hj => (World.cell?_of_block (a := ⟨w8.heap.size, 0 + j, none⟩) (hx10 _ (.inr rfl))).trans (HRG9.out j v hj)
          have HRG10 := Lib.hid hrg10
          have HT10 := Lib.hid hT10
          have HB10 := Lib.hid (HB9.out.trans hb10)
          have hs10 : w8.heap.size < w10.heap.size := by
            have h1 := hx10 w8.heap.size (.inr rfl)
            rw [Array.getElem?_eq_getElem hs8] at h1
            exact (Array.getElem?_eq_some_iff.1 h1).1
          clear hrg10 hT10 hb10 hx10 HT9 HB9 HRG9 f0 f1 f2 f3
          have HRN_w11 := Lib.hid (Row.new w10 39 (bv nought))
          go_wp2_with (first
            | (with_reducible refine wpList_store_in (op := ⟨none, _, _, _, _, _⟩) ?_ 39 (.tmp 15) (.tmp 112) ?_ w10.heap.size 0 (bv bl) ?_ ?_ 39 (bv nought) ?_ HFT.out bv_one HSB.out ?_))
          all_goals try (first | rfl | exact HRN_w11.out)
          intro w11 hr_w11 hg_w11
          rw [splice_all (bv nought) (bv bl) (Eq.symm ((bv_length bl).trans (HL64.out.trans rfl)))] at hr_w11
          have hb_w11 : Below w10.heap.size w10 w11 := ((Below.refl _ _).alloc (Nat.le_refl _) _).grown hg_w11 (by simp) (fun j e => Nat.le_of_eq (Option.some.inj e))
          have HRA := Lib.hid (range_below HRG10.out hb_w11 hs10)
          have HRB := Lib.hid (Row.range hr_w11 (o := 0) (vs := bv bl) fun j v hj => by simpa using hj)
          have HI11 := Lib.hid (show ∃ da db, FRel q ((t + 1 : Nat) : Int) da db ∧ Two w11 w.heap.size ga gb da db ∧ db.pend.length ≤ k + 1 ∧ Below w.heap.size w w11 from ⟨_, _, HN2.out, (HT10.out.below hb_w11).two, HPB2.out, HB10.out.trans (hb_w11.mono HB10.out.size)⟩)
          clear hr_w11 hg_w11 hb_w11 HT10 HB10 HRN_w11 HRG10
          go_wp2_with (first
            | (with_reducible refine wpList_load_blk (op := ⟨some 114, _, _, _, _, _⟩) ?_ 39 (.tmp 13) ?_ w8.heap.size 0 ?_ bl _ HRA.out Try.underlying39 ?_ HSL.out ?_)
            | (with_reducible refine wpList_load_blk (op := ⟨some 115, _, _, _, _, _⟩) ?_ 39 (.tmp 15) ?_ w10.heap.size 0 ?_ bl _ HRB.out Try.underlying39 ?_ HSL.out ?_)
            | (with_reducible refine wpList_neq_blk (o := ⟨some 116, _, _, _, _, _⟩) ?_ (.tmp 114) (.tmp 115) ?_ bl bl ?_ ?_ HL64.out HL64.out ?_))
          all_goals try rfl
          go_wp2
          go_roundw
          case rel => exact ⟨k + 1, by omega, by go_num, t + 1, by omega, by go_num, HI11⟩
          case measure => simp [intOf]; omega
      · have HASK : Hid (Asked ⟨kd, a, x, Ak, nk, ck, lk⟩) := (show Asked _ from ⟨by show kindM kd ≤ 2; omega, fun hh => absurd hh h01⟩)
        by_cases heq : (t : Int) = q
        · have hqt : (t : Int) = q := heq
          subst hqt
          obtain ⟨n1, n2, n3, n4, n5⟩ := HREL.out.now ⟨kd, a, x, Ak, nk, ck, lk⟩ HASK.out
          have HN1 := Lib.hid n1
          have HN2 : Hid (FRel (t : Int) ((t + 1 : Nat) : Int) db db) := (show FRel _ _ _ _ by simpa using n2)
          have HN5 := Lib.hid n5
          have HDEAD : Hid (db.dead = false) := (show _ = _ from HREL.out.calm.1)
          have HPEND := Lib.hid n4
          clear n1 n2 n3 n4 n5 HSKIP
          have HL64 : Hid (nought.length = 64) := (show _ = _ from rfl)
          have HSB : Hid ((Try.prog.info? 39).map (·.size) = some (bv nought).length) := (show _ = _ by rw [bv_length, HL64.out]; exact size39)
          have HSL : Hid ((Try.prog.info? 39).map (·.size) = some (nought).length) := (show _ = _ by rw [HL64.out]; exact size39)
          have HFT : Hid (0 + (bv nought).length ≤ (bv nought).length) := (show _ ≤ _ from Nat.le_of_eq ((Nat.zero_add _).trans ((bv_length _).trans (HL64.out.trans rfl))))
          go_wp2_with fail
          obtain ⟨Ga, Gb, hA2, hrest⟩ := HT6.out
          refine (ops_any ga da Ga w6 hA2.1).mono ?_
          clear hA2 hrest
          rintro e w7 ⟨rfl, rfl⟩
          rw [HN5.out]
          go_wp2_with fail
          refine (TwoX.left HT6.out HB6.out.size (fun j hj => by rcases hj with hj | rfl; exact hj.elim; exact hsr6) (fun F hF => does_any ga da F ⟨kd, a, x, Ak, nk, ck, lk⟩ w7 hF (by have := HPB.out; have e := HPEND.out; rw [e]; omega) (HOO.out.below HB6.out) (by show kindM kd ≠ 4; omega))).mono ?_
          rintro e w8 ⟨rfl, hT8, hb8, _⟩
          rw [HN1.out] at hT8 ⊢
          have HT8 := Lib.hid hT8
          have HB8 := Lib.hid (HB6.out.trans hb8)
          clear hT8 hb8 HT6 HB6 e0 e1 e2 e3
          have HRN_w9 := Lib.hid (Row.new w8 39 (bv nought))
          go_wp2_with (first
            | (with_reducible refine wpList_store_in (op := ⟨none, _, _, _, _, _⟩) ?_ 39 (.tmp 11) (.tmp 72) ?_ w8.heap.size 0 (bv nought) ?_ ?_ 39 (bv nought) ?_ HFT.out bv_one HSB.out ?_))
          all_goals try (first | rfl | exact HRN_w9.out)
          intro w9 hr_w9 hg_w9
          rw [splice_all (bv nought) (bv nought) (Eq.symm ((bv_length nought).trans (HL64.out.trans rfl)))] at hr_w9
          have hb_w9 : Below w8.heap.size w8 w9 := ((Below.refl _ _).alloc (Nat.le_refl _) _).grown hg_w9 (by simp) (fun j e => Nat.le_of_eq (Option.some.inj e))
          have HRG := Lib.hid (Row.range hr_w9 (o := 0) (vs := bv nought) fun j v hj => by simpa using hj)
          have HT9 := Lib.hid (HT8.out.below hb_w9)
          have HB9 := Lib.hid (HB8.out.trans (hb_w9.mono HB8.out.size))
          clear hr_w9 hg_w9 hb_w9 HT8 HB8 HRN_w9
          go_wp2_with (first
            | (with_reducible refine wpList_load_blk_w (op := ⟨some 77, _, _, _, _, _⟩) ?_ 39 (.tmp 11) ?_ w8.heap.size 0 ?_ nought _ HRG.out Try.underlying39 ?_ HSZN.out ?_)
            | (with_reducible refine wpList_build_to (o := ⟨some 78, _, _, _, _, _⟩) (by rfl) 39 _ rfl (bv nought).toArray HBZ.out ?_)
            | (with_reducible refine wpList_neq_blk (o := ⟨some 79, _, _, _, _, _⟩) ?_ (.tmp 77) (.tmp 78) ?_ nought nought ?_ ?_ ?_ ?_ ?_))
          all_goals try rfl
          go_wp2_with fail
          obtain ⟨Ga, Gb, hA2, hB2, hrest⟩ := HT9.out
          refine (dead_any ga db Ga w9 hA2.1).mono ?_
          rintro e w10 ⟨rfl, rfl⟩
          rw [HDEAD.out]
          go_wp2_with fail
          refine (ops_any ga db Ga w10 hA2.1).mono ?_
          rintro e w11 ⟨rfl, rfl⟩
          go_wp2_with fail
          refine (pending_any ga db Ga w11 hA2 (by have := HPB.out; omega)).mono ?_
          rintro e w12 ⟨rfl, _, hb12⟩
          have HT12 := Lib.hid (HT9.out.below hb12)
          have HB12 := Lib.hid (HB9.out.trans (hb12.mono HB9.out.size))
          clear hA2 hB2 hrest hb12 HT9 HB9
          go_wp2_with fail
          obtain ⟨Ga, Gb, hA2, hB2, hrest⟩ := HT12.out
          refine (pending_any gb db Gb w12 hB2 (by have := HPB.out; omega)).mono ?_
          rintro e w13 ⟨rfl, _, hb13⟩
          have HI13 := Lib.hid (show ∃ da db, FRel (t : Int) ((t + 1 : Nat) : Int) da db ∧ Two w13 w.heap.size ga gb da db ∧ db.pend.length ≤ k + 1 ∧ Below w.heap.size w w13 from ⟨db, db, HN2.out, (HT12.out.below hb13).two, Nat.le_succ_of_le HPB.out, HB12.out.trans (hb13.mono HB12.out.size)⟩)
          clear hA2 hB2 hrest hb13 HT12 HB12
          go_wp2
          go_roundw
          case rel => exact ⟨k + 1, by omega, by go_num, t + 1, by omega, by go_num, HI13⟩
          case measure => simp [intOf]; omega
        · have hqt : ¬ (t : Int) = q := heq
          obtain ⟨n1, n2⟩ := HREL.out.later hqt ⟨kd, a, x, Ak, nk, ck, lk⟩ HASK.out
          have HPEND := Lib.hid HREL.out.pend
          have hpb2 := Nat.le_trans (does_pend db ⟨kd, a, x, Ak, nk, ck, lk⟩) (Nat.succ_le_succ HPB.out)
          have hl64 : (db.doesM ⟨kd, a, x, Ak, nk, ck, lk⟩).2.1.length = 64 := by
            obtain ⟨_, _, _, hB2, _⟩ := HT6.out
            exact does_blk hB2.good _
          obtain ⟨bl, hbl'⟩ : ∃ bl, bl = (db.doesM ⟨kd, a, x, Ak, nk, ck, lk⟩).2.1 := ⟨_, rfl⟩
          obtain ⟨er, her⟩ : ∃ er, er = (db.doesM ⟨kd, a, x, Ak, nk, ck, lk⟩).2.2 := ⟨_, rfl⟩
          have HN1 : Hid ((da.doesM ⟨kd, a, x, Ak, nk, ck, lk⟩).2 = (bl, er)) := (show _ = _ by rw [n1, hbl', her])
          have HM1 : Hid ((db.doesM ⟨kd, a, x, Ak, nk, ck, lk⟩).2 = (bl, er)) := (show _ = _ by rw [hbl', her])
          have HN2 : Hid (FRel q ((t + 1 : Nat) : Int) (da.doesM ⟨kd, a, x, Ak, nk, ck, lk⟩).1 (db.doesM ⟨kd, a, x, Ak, nk, ck, lk⟩).1) := (show FRel _ _ _ _ by simpa using n2)
          have HPB2 := Lib.hid hpb2
          rw [← hbl'] at hl64
          have HL64 := Lib.hid hl64
          clear n1 n2 hpb2 hl64 hbl' her HSKIP
          have HSB : Hid ((Try.prog.info? 39).map (·.size) = some (bv bl).length) := (show _ = _ by rw [bv_length, HL64.out]; exact size39)
          have HSL : Hid ((Try.prog.info? 39).map (·.size) = some (bl).length) := (show _ = _ by rw [HL64.out]; exact size39)
          have HFT : Hid (0 + (bv bl).length ≤ (bv nought).length) := (show _ ≤ _ from Nat.le_of_eq ((Nat.zero_add _).trans ((bv_length _).trans (HL64.out.trans rfl))))
          go_wp2_with fail
          refine (TwoX.left HT6.out HB6.out.size (fun j hj => by rcases hj with hj | rfl; exact hj.elim; exact hsr6) (fun F hF => does_any ga da F ⟨kd, a, x, Ak, nk, ck, lk⟩ w6 hF (by have := HPB.out; have e := HPEND.out; rw [e]; omega) (HOO.out.below HB6.out) (by show kindM kd ≠ 4; omega))).mono ?_
          rintro e w8 ⟨rfl, hT8, hb8, hx8⟩
          rw [HN1.out]
          have HT8 := Lib.hid hT8
          have HB8 := Lib.hid (HB6.out.trans hb8)
          have hr8 : Row w8 wr.heap.size 37 (ocs kd a x Ak nk ck) := (hx8 _ (.inr rfl)).trans HR6.out
          have hsr8 : wr.heap.size < w8.heap.size := hr8.lt
          have HR8 := Lib.hid hr8
          clear hT8 hb8 hx8 hr8 HT6 HB6 HR6 hsr6 e0 e1 e2 e3
          have HRN_w9 := Lib.hid (Row.new w8 39 (bv nought))
          go_wp2_with (first
            | (with_reducible refine wpList_store_in (op := ⟨none, _, _, _, _, _⟩) ?_ 39 (.tmp 13) (.tmp 106) ?_ w8.heap.size 0 (bv bl) ?_ ?_ 39 (bv nought) ?_ HFT.out bv_one HSB.out ?_))
          all_goals try (first | rfl | exact HRN_w9.out)
          intro w9 hr_w9 hg_w9
          rw [splice_all (bv nought) (bv bl) (Eq.symm ((bv_length bl).trans (HL64.out.trans rfl)))] at hr_w9
          have hb_w9 : Below w8.heap.size w8 w9 := ((Below.refl _ _).alloc (Nat.le_refl _) _).grown hg_w9 (by simp) (fun j e => Nat.le_of_eq (Option.some.inj e))
          have hrg9 := Row.range hr_w9 (o := 0) (vs := bv bl) fun j v hj => by simpa using hj
          have hT9 : TwoX w9 w.heap.size (fun j => (False ∨ j = wr.heap.size) ∨ j = w8.heap.size) ga gb _ db := TwoX.add HT8.out hb_w9
          have hr9 := HR8.out.below hb_w9 hsr8
          have f0 : w9.cell? ⟨wr.heap.size, 0, none⟩ = some (.int .i64 kd) := hr9.cell 0
          have f1 : w9.cell? ⟨wr.heap.size, 1, none⟩ = some (.int .i64 a) := hr9.cell 1
          have f2 : w9.cell? ⟨wr.heap.size, 2, none⟩ = some (.int .u8 (x.toNat : Int)) := hr9.cell 2
          have f3 : w9.cell? ⟨wr.heap.size, 3, none⟩ = some (.slice Ak nk ck) := hr9.cell 3
          have HT9 := Lib.hid hT9
          have HRG9 := Lib.hid hrg9
          have HB9 := Lib.hid (HB8.out.trans (hb_w9.mono HB8.out.size))
          have hs8 : w8.heap.size < w9.heap.size := hr_w9.lt
          have hsr9 : wr.heap.size < w9.heap.size := hr9.lt
          clear hr_w9 hg_w9 hb_w9 HT8 HB8 HRN_w9 hT9 hr9 hrg9
          go_wp2_with fail
          refine (TwoX.right HT9.out HB9.out.size (fun j hj => by rcases hj with (hj | rfl) | rfl; exact hj.elim; exact hsr9; exact hs8) (fun F hF => does_any gb db F ⟨kd, a, x, Ak, nk, ck, lk⟩ w9 hF (by have := HPB.out; omega) (HOO.out.below HB9.out) (by show kindM kd ≠ 4; omega))).mono ?_
          rintro e w10 ⟨rfl, hT10, hb10, hx10⟩
          rw [HM1.out]
          have hrg10 : w10.rangeAt w8.heap.size 0 (bv bl) := fun j v hj => (World.cell?_of_block (a := ⟨w8.heap.size, 0 + j, none⟩) (hx10 _ (.inr rfl))).trans (HRG9.out j v hj)
          have HRG10 := Lib.hid hrg10
          have HT10 := Lib.hid hT10
          have HB10 := Lib.hid (HB9.out.trans hb10)
          have hs10 : w8.heap.size < w10.heap.size := by
            have h1 := hx10 w8.heap.size (.inr rfl)
            rw [Array.getElem?_eq_getElem hs8] at h1
            exact (Array.getElem?_eq_some_iff.1 h1).1
          clear hrg10 hT10 hb10 hx10 HT9 HB9 HRG9 f0 f1 f2 f3
          have HRN_w11 := Lib.hid (Row.new w10 39 (bv nought))
          go_wp2_with (first
            | (with_reducible refine wpList_store_in (op := ⟨none, _, _, _, _, _⟩) ?_ 39 (.tmp 15) (.tmp 112) ?_ w10.heap.size 0 (bv bl) ?_ ?_ 39 (bv nought) ?_ HFT.out bv_one HSB.out ?_))
          all_goals try (first | rfl | exact HRN_w11.out)
          intro w11 hr_w11 hg_w11
          rw [splice_all (bv nought) (bv bl) (Eq.symm ((bv_length bl).trans (HL64.out.trans rfl)))] at hr_w11
          have hb_w11 : Below w10.heap.size w10 w11 := ((Below.refl _ _).alloc (Nat.le_refl _) _).grown hg_w11 (by simp) (fun j e => Nat.le_of_eq (Option.some.inj e))
          have HRA := Lib.hid (range_below HRG10.out hb_w11 hs10)
          have HRB := Lib.hid (Row.range hr_w11 (o := 0) (vs := bv bl) fun j v hj => by simpa using hj)
          have HI11 := Lib.hid (show ∃ da db, FRel q ((t + 1 : Nat) : Int) da db ∧ Two w11 w.heap.size ga gb da db ∧ db.pend.length ≤ k + 1 ∧ Below w.heap.size w w11 from ⟨_, _, HN2.out, (HT10.out.below hb_w11).two, HPB2.out, HB10.out.trans (hb_w11.mono HB10.out.size)⟩)
          clear hr_w11 hg_w11 hb_w11 HT10 HB10 HRN_w11 HRG10
          go_wp2_with (first
            | (with_reducible refine wpList_load_blk (op := ⟨some 114, _, _, _, _, _⟩) ?_ 39 (.tmp 13) ?_ w8.heap.size 0 ?_ bl _ HRA.out Try.underlying39 ?_ HSL.out ?_)
            | (with_reducible refine wpList_load_blk (op := ⟨some 115, _, _, _, _, _⟩) ?_ 39 (.tmp 15) ?_ w10.heap.size 0 ?_ bl _ HRB.out Try.underlying39 ?_ HSL.out ?_)
            | (with_reducible refine wpList_neq_blk (o := ⟨some 116, _, _, _, _, _⟩) ?_ (.tmp 114) (.tmp 115) ?_ bl bl ?_ ?_ HL64.out HL64.out ?_))
          all_goals try rfl
          go_wp2
          go_roundw
          case rel => exact ⟨k + 1, by omega, by go_num, t + 1, by omega, by go_num, HI11⟩
          case measure => simp [intOf]; omega
    · obtain rfl : k = m := by omega
      obtain ⟨da, db, hrel, hT, hpb, hBr⟩ := HI.out
      have HREL := Lib.hid hrel
      have HT := Lib.hid hT
      have HBR := Lib.hid hBr
      have HSIX : Hid (db.sec.length = 6) := (show _ = _ from hrel.six)
      obtain ⟨dh, Lh, hdh⟩ : ∃ dh Lh, db.heldM = (dh, Lh) := ⟨_, _, rfl⟩
      have HLL : Hid (Lh.length = db.sec.length) := (show _ = _ from by have := held_len (d := db); rw [hdh] at this; exact this)
      have HDH := Lib.hid hdh
      clear hdh
      clear hrel hT hpb hBr HI HO HOK
      by_cases hle : (t : Int) ≤ q
      · have HF := Lib.hid (HREL.out.off.1 hle)
        go_wp2_with fail
        refine (TwoX.left HT.out HBR.out.size (fun _ hf => hf.elim) (fun F hF => fail_any ga da F (-1) wr hF (by omega))).mono ?_
        rintro e w5 ⟨rfl, hT5, hb5, _⟩
        rw [HF.out] at hT5 ⊢
        have HTE : Hid (TwoX w5 w.heap.size (fun _ => False) ga gb db db) := (show TwoX _ _ _ _ _ _ _ from hT5)
        have HBE := Lib.hid (HBR.out.trans hb5)
        clear hT5 hb5 HT HBR HREL HF
        go_wp2_with fail
        refine (TwoX.heldA HTE.out HBE.out.size (fun _ hf => hf.elim)).mono ?_
        rintro e w6 ⟨A1, ch1, rfl, hk1, hbs1, hT6, hb6, _, _⟩
        rw [HDH.out] at hk1 hT6
        have HK1 : Hid (Blks w6 w6.heap.size A1 Lh) := (show Blks _ _ _ _ from hk1)
        have HBS1 := Lib.hid hbs1
        have HT6 : Hid (TwoX w6 w.heap.size (fun k => False ∨ (w5.heap.size ≤ k ∧ k < w6.heap.size)) ga gb dh db) := (show TwoX _ _ _ _ _ _ _ from hT6)
        have HB6 := Lib.hid (HBE.out.trans hb6)
        clear hk1 hbs1 hT6 hb6 HTE HBE
        go_wp2_with fail
        refine (TwoX.heldB HT6.out HB6.out.size (fun j hj => by rcases hj with hj | hj; exact hj.elim; exact hj.2)).mono ?_
        rintro e w7 ⟨A2, ch2, rfl, hk2, hbs2, hT7, hb7, _, hkp⟩
        have hk1' := hkp A1 _ HK1.out (fun b o s e => .inr ⟨HBS1.out b o s e, by
          obtain ⟨bb, oo, ee, hlt, _⟩ := HK1.out (by rw [HLL.out, HSIX.out]; omega)
          rw [e] at ee
          cases ee
          exact hlt⟩)
        rw [HDH.out] at hk2 hT7
        have HKA := Lib.hid (hk1'.more hb7.2)
        have HKB : Hid (Blks w7 w7.heap.size A2 Lh) := (show Blks _ _ _ _ from hk2)
        have HT7 : Hid (TwoX w7 w.heap.size (fun k => False ∨ (w5.heap.size ≤ k ∧ k < w6.heap.size)) ga gb dh dh) := (show TwoX _ _ _ _ _ _ _ from hT7)
        have HB7 := Lib.hid (HB6.out.trans hb7.1)
        clear hk1' hk2 hbs2 hT7 hb7 hkp HK1 HBS1 HT6 HB6
        have HN6 : Hid (db.sec.length ≤ 1000000) := (show _ ≤ _ by rw [HSIX.out]; omega)
        go_wp2_with fail
        refine (same_any A1 A2 db.sec.length db.sec.length ch1 ch2 Lh Lh w7 HLL.out HLL.out HKA.out HKB.out HN6.out HN6.out).mono ?_
        rintro e w8 ⟨rfl, hb8⟩
        have HT8 := Lib.hid (HT7.out.below hb8)
        have HB8 := Lib.hid (HB7.out.trans (hb8.mono HB7.out.size))
        rw [decide_eq_true (rfl : Lh = Lh)]
        clear hb8 HT7 HB7 HKA HKB
        go_wp2_with fail
        obtain ⟨Ga, Gb, hA2, hB2, hrest⟩ := HT8.out
        refine (ops_any ga _ Ga w8 hA2.1).mono ?_
        rintro e w9 ⟨rfl, rfl⟩
        go_wp2_with fail
        refine (ops_any gb _ Gb w9 hB2.1).mono ?_
        rintro e w10 ⟨rfl, rfl⟩
        clear hA2 hB2 hrest HT8
        go_wp2
        go_ret
        exact ⟨rfl, HB8.out⟩
      · have hda := HREL.out.off.2 hle
        subst hda
        have HTE : Hid (TwoX wr w.heap.size (fun _ => False) ga gb da da) := (show TwoX _ _ _ _ _ _ _ from HT.out)
        have HBE := HBR
        clear HT HBR HREL
        go_wp2_with fail
        refine (TwoX.heldA HTE.out HBE.out.size (fun _ hf => hf.elim)).mono ?_
        rintro e w6 ⟨A1, ch1, rfl, hk1, hbs1, hT6, hb6, _, _⟩
        rw [HDH.out] at hk1 hT6
        have HK1 : Hid (Blks w6 w6.heap.size A1 Lh) := (show Blks _ _ _ _ from hk1)
        have HBS1 := Lib.hid hbs1
        have HT6 : Hid (TwoX w6 w.heap.size (fun k => False ∨ (wr.heap.size ≤ k ∧ k < w6.heap.size)) ga gb dh da) := (show TwoX _ _ _ _ _ _ _ from hT6)
        have HB6 := Lib.hid (HBE.out.trans hb6)
        clear hk1 hbs1 hT6 hb6 HTE HBE
        go_wp2_with fail
        refine (TwoX.heldB HT6.out HB6.out.size (fun j hj => by rcases hj with hj | hj; exact hj.elim; exact hj.2)).mono ?_
        rintro e w7 ⟨A2, ch2, rfl, hk2, hbs2, hT7, hb7, _, hkp⟩
        have hk1' := hkp A1 _ HK1.out (fun b o s e => .inr ⟨HBS1.out b o s e, by
          obtain ⟨bb, oo, ee, hlt, _⟩ := HK1.out (by rw [HLL.out, HSIX.out]; omega)
          rw [e] at ee
          cases ee
          exact hlt⟩)
        rw [HDH.out] at hk2 hT7
        have HKA := Lib.hid (hk1'.more hb7.2)
        have HKB : Hid (Blks w7 w7.heap.size A2 Lh) := (show Blks _ _ _ _ from hk2)
        have HT7 : Hid (TwoX w7 w.heap.size (fun k => False ∨ (wr.heap.size ≤ k ∧ k < w6.heap.size)) ga gb dh dh) := (show TwoX _ _ _ _ _ _ _ from hT7)
        have HB7 := Lib.hid (HB6.out.trans hb7.1)
        clear hk1' hk2 hbs2 hT7 hb7 hkp HK1 HBS1 HT6 HB6
        have HN6 : Hid (da.sec.length ≤ 1000000) := (show _ ≤ _ by rw [HSIX.out]; omega)
        go_wp2_with fail
        refine (same_any A1 A2 da.sec.length da.sec.length ch1 ch2 Lh Lh w7 HLL.out HLL.out HKA.out HKB.out HN6.out HN6.out).mono ?_
        rintro e w8 ⟨rfl, hb8⟩
        have HT8 := Lib.hid (HT7.out.below hb8)
        have HB8 := Lib.hid (HB7.out.trans (hb8.mono HB7.out.size))
        rw [decide_eq_true (rfl : Lh = Lh)]
        clear hb8 HT7 HB7 HKA HKB
        go_wp2_with fail
        obtain ⟨Ga, Gb, hA2, hB2, hrest⟩ := HT8.out
        refine (ops_any ga _ Ga w8 hA2.1).mono ?_
        rintro e w9 ⟨rfl, rfl⟩
        go_wp2_with fail
        refine (ops_any gb _ Gb w9 hB2.1).mono ?_
        rintro e w10 ⟨rfl, rfl⟩
        clear hA2 hB2 hrest HT8
        go_wp2
        go_ret
        exact ⟨rfl, HB8.out⟩

theorem resT_DiskFails : Try.f8.resultTypes = #[4] := by kernel_rfl
set_option maxRecDepth 100000 in
theorem lifted_DiskFails (os : Os) (started : os.Started) (H : Type) (enc : TypeId × Value → H) :
    ReturnsInHanded {} Try.checked os 8 .any (Rows.diskFailsSpec.pre6 enc Try.prog Try.f8 Rows.diskFailsRow.domain false) (Rows.diskFailsSpec.post enc Try.prog Try.f8 false true false false) := by
  refine Lift.law_lift (C := Try.checked) (s := Rows.diskFailsSpec) (tb := 4) own laidOut started (by kernel_rfl) Try.func8
    (ChangeSpec.witness6 (enc := enc) (C := Try.checked) false ⟨#[], #[.slice none 0 0, .int .i64 0], []⟩ 8 (by kernel_rfl) (by kernel_rfl) (by kernel_rfl) (by kernel_rfl))
    rfl resT_DiskFails Try.underlying4 (by
      have hr : ∀ t ∈ ([22, 3] : List TypeId), Try.prog.readableRec t = true ∧ t < Try.prog.types.size := by
        intro t ht
        simp only [List.mem_cons, List.not_mem_nil, or_false] at ht
        rcases ht with rfl | rfl <;> exact ⟨by kernel_rfl, of_decide_eq_true (by kernel_rfl)⟩
      intro t ht
      exact hr t (by
        have ht' : t ∈ Try.f8.params.toList := ht
        rw [Try.params8] at ht'
        exact ht')) ?_
  intro W base args ds p hval0 hA0 hsz0
  have hval : ∀ (j : Nat) t v, Try.f8.params[j]? = some t → args[j]? = some v → Value.okWide Try.prog W .any base t v := hval0
  have hA : DataW.TrodAll enc Try.prog W 0 (fun _ => true) true Try.f8.params.toList args.toList ds p := hA0
  have hsz : (DataW.weightsEach Try.prog Try.f8.params.toList ds).all (· ≤ reachBytes) = true := hsz0
  clear hval0 hA0 hsz0
  rw [Try.params8] at hA hval hsz
  obtain ⟨v0, vs0, d0, ds0, p0, q0, hargs, rfl, rfl, h0, r0⟩ := trodAll_cons hA
  obtain ⟨v1, vs1, d1, ds1, p1, q1, rfl, rfl, rfl, h1, r1⟩ := trodAll_cons r0
  obtain ⟨rfl, rfl, rfl⟩ := trodAll_nil r1
  obtain rfl : args = #[v0, v1] := by cases args; simp_all
  obtain ⟨A0, n0, c0, os0, rfl, hl0, hlc0, hn0, hm0, ho0, hk0⟩ := open_ops (hval 0 22 v0 rfl rfl) h0 (by rw [List.all_eq_true] at hsz ⊢; intro z hz; exact hsz z (DataW.weights_mem_each (j := 0) (t := 22) (d := d0) rfl rfl z hz))
  obtain ⟨a1, rfl, rfl, rfl, w1⟩ := open_int Try.underlying3 (hval 1 3 v1 rfl rfl) h1
  exact ⟨rfl, fails_walk A0 n0 c0 os0 a1 W hl0 hlc0 hn0 hm0 ho0 hk0⟩

theorem proved_DiskFails : Rows.DiskFailsSaid :=
  OpenClaim.holds_of_wide 8 Try.f8 rfl rfl rfl rfl rfl rfl rfl ⟨rfl, rfl, rfl, rfl, rfl⟩ rfl rfl rfl rfl rfl (by kernel_rfl) Try.func8 (by kernel_rfl)
    (of_decide_eq_true (by kernel_rfl)) (by unfold Func.isWrapper; first | (rw [if_pos (by decide +kernel)]; kernel_rfl) | (rw [if_neg (by decide +kernel)]; exact ⟨rfl, rfl⟩))
    (fun os started H enc _ => lifted_DiskFails os started H enc)
end Go.Proofs.Ytnaajeklhbjeoaa.Dsk
