/-
  DiskCopies: a copy goes on by itself, as the disk would have, for every rows of ops. No condition.
-/
import Derived.Test.YtbfpadilcfelbaaDevV
namespace Go.Proofs.Ytbfpadilcfelbaa.Dsk
open Go.ChangeShapes Go.WideShapes Go.ChangeAt Go.RowKit Go.Proofs.Ytbfpadilcfelbaa.Wd

theorem own : ownKnob Try.prog.godebug = none := by kernel_rfl
theorem laidOut : laidOutB Try.prog = true := by kernel_rfl
theorem open_opsIn {A : Option Addr} {n c : Nat} {os : List OM} {w : World} (hl : os.length = n) (hc : n ≤ c) (hA : A = none → c = 0) (hm : c ≤ maxLen) (ho : Opl w w.heap.size A os) (hok : ∀ o ∈ os, OpOk w o) : OpsIn w A n c os := ⟨hl, hc, hA, hm, ho, hok⟩

set_option maxRecDepth 100000 in
set_option maxHeartbeats 8000000 in
theorem copies_walk (A1 A2 A3 : Option Addr) (n1 c1 n2 c2 n3 c3 : Nat) (os1 os2 os3 : List OM) (w : World) (hi1 : OpsIn w A1 n1 c1 os1) (hi2 : OpsIn w A2 n2 c2 os2) (hi3 : OpsIn w A3 n3 c3 os3) :
    Calls Try.prog 4 #[.slice A1 n1 c1, .slice A2 n2 c2, .slice A3 n3 c3] w fun e w' => e = .returned (.bool true) ∧ Below w.heap.size w w' := by
  obtain ⟨m1, L1, hlm1, hm1, ho1, hok1, hf1⟩ := hi1.few
  have HLM1 := Lib.hid hm1
  have HO1 := Lib.hid ho1
  have HOK1 := Lib.hid hok1
  have HF1 := Lib.hid hf1
  clear hm1 ho1 hok1 hf1 hi1
  obtain ⟨m2, L2, hlm2, hm2, ho2, hok2, hf2⟩ := hi2.few
  have HLM2 := Lib.hid hm2
  have HO2 := Lib.hid ho2
  have HOK2 := Lib.hid hok2
  have HF2 := Lib.hid hf2
  clear hm2 ho2 hok2 hf2 hi2
  obtain ⟨m3, L3, hlm3, hm3, ho3, hok3, hf3⟩ := hi3.few
  have HLM3 := Lib.hid hm3
  have HO3 := Lib.hid ho3
  have HOK3 := Lib.hid hok3
  have HF3 := Lib.hid hf3
  clear hm3 ho3 hok3 hf3 hi3
  go_enter Try.func4, Try.ntmps4
  go_wp2_with fail
  refine (wakes_any w).mono ?_
  rintro e w1 ⟨rfl, hb1⟩
  have HB1 := Lib.hid hb1
  clear hb1
  have HN1 := Lib.hid (dnew_good 6 w1 (by decide) (by decide))
  have HN2 := Lib.hid (fun w' => new_good 6 w' (by decide) (by decide))
  have HAG := Lib.hid (agr_new 6 (by decide) (by decide))
  go_wp2_with fail
  refine (HN1.out).mono ?_
  rintro e w2 ⟨g, rfl, F, hD, hF, hb2⟩
  have S2 : Hid (St w w2 [] [(g, DM.new 6)]) := (show St _ _ _ _ from ⟨Many.more (L := []) Many.nil hb2 HB1.out.size (fun k hk => by rcases hk with hk | hk; cases hk; have := HB1.out.size; omega) hD hF, (fun x hx => by cases hx), HB1.out.trans (hb2.mono HB1.out.size)⟩)
  clear hD hF hb2 HB1 HN1
  go_wp2_with fail
  refine (HN2.out w2).mono ?_
  rintro e w3 ⟨gr, rfl, hgr2, hbl, hb3⟩
  have hgr3 : gr < w3.heap.size := by
    obtain ⟨_, _, e, hlt, _⟩ := hbl (by simp)
    cases e; exact hlt
  have RV3 : Hid (RVat w3 [gr] (RA.new 6) ⟨some ⟨gr, 0, none⟩, 6, 6, none, 0, 0⟩) := (show RVat _ _ _ _ from RVat.of_live (by simp [RA.new]) rfl (Nat.le_refl _) hgr3 hbl)
  have S3 : Hid (St w w3 [gr] [(g, DM.new 6)]) := (show St _ _ _ _ from S2.out.add hb3 hgr2 hgr3)
  have HRN := Lib.hid (Row.new w3 31 rz)
  clear hgr2 hbl hb3 S2 HN2
  go_wp2_with (first
    | (with_reducible refine wpList_store_in (op := ⟨none, _, _, _, _, _⟩) ?_ 31 (.tmp 9) (.tmp 30) (by rfl) w3.heap.size 0 ((RA.new 6).cells ⟨some ⟨gr, 0, none⟩, 6, 6, none, 0, 0⟩) ?_ ?_ 31 rz ?_ ?_ (cells_one _ _) ?_ ?_))
  all_goals try (first | rfl | exact HRN.out | exact size31 | exact size39 | (show 0 + 6 ≤ 6; decide) | (show 0 + 64 ≤ 64; decide))
  intro w4 hr hgr
  rw [splice_all _ _ (by rfl)] at hr
  have I4 : Hid (DoesI w w4 w3.heap.size g 0) := (show DoesI _ _ _ _ _ from ⟨DM.new 6, RA.new 6, ⟨some ⟨gr, 0, none⟩, 6, 6, none, 0, 0⟩, [gr], (S3.out.alloc (.cells rz.toArray 31)).grownIn hgr (by simp) S3.out.bel.size, hr, (RV3.out.below ((Below.refl _ _).alloc (Nat.le_refl _) (.cells rz.toArray 31))).grown hgr (by simp; omega), HAG.out, by simp; omega, S3.out.bel.size⟩)
  obtain ⟨b9, hb9e⟩ : ∃ b9, b9 = w3.heap.size := ⟨_, rfl⟩
  rw [← hb9e] at I4 ⊢
  clear hr hgr HRN S3 RV3 hgr3 hb9e HAG
  go_wp2_with fail
  refine (HF1.out _).mono ?_
  rintro e w5 ⟨rfl, rfl⟩
  go_wp2
  go_loopw [41] (fun i wr => ∃ k : Nat, k ≤ m1 ∧ i = .int .i64 k ∧ Hid (DoesI w wr b9 g k)) (fun i _ => m1 - (intOf i).toNat)
  case atStart => exact ⟨0, by omega, rfl, I4⟩
  rename World => wr
  obtain ⟨k, hk, rfl, HI⟩ := hrel
  clear I4 HF1
  by_cases hlt : k < m1
  case neg =>
    obtain rfl : k = m1 := by omega
    clear HO1 HOK1 HLM1 hk hlt
    obtain ⟨m1, hm1⟩ : ∃ m1, m1 = k := ⟨_, rfl⟩
    have hlm1 : m1 ≤ 120 := by omega
    obtain ⟨d, x, r, xs, hst, hrow, hrv, hag, hnb, hwb⟩ := HI.out
    rw [← hm1] at hag
    have hdp : d.pend.length ≤ 1000000 := by have := hag.len; omega
    have hbd : Below wr.heap.size wr wr.drew := ⟨rfl, rfl, rfl, Nat.le_refl _, fun _ _ => rfl⟩
    have S0z := Lib.hid (hst.below hbd)
    have R0z := Lib.hid (Row.drew hrow)
    have V0z := Lib.hid (hrv.below hbd)
    have R0w := Lib.hid hrow
    have HAG := Lib.hid hag
    have HNB := Lib.hid hnb
    clear hrow hrv hag hnb HI hst hbd
    go_wp2_with fail
    refine wp_region_held_drew (S := fun w' : World => w'.rangeAt b9 0 (x.cells r)) (by kernel_rfl) (Row.all R0w.out) (fun hHeld => ?_)
    refine wpAnyH_take (i := 0) (oi := ⟨some 56, _, _, _, _, _⟩) (v := ?v0g) rfl (by kernel_rfl) (by kernel_rfl) (by kernel_rfl) (fun _ _ _ h => h) (Or.inl ⟨by rfl, ?y0g⟩) hHeld ?r0g
    case y0g =>
      rintro w' q0
      go_simp
      try with_reducible rfl
    try simp only [Act.put, List.setIfInBounds_toArray, List.set_cons_zero, List.set_cons_succ]
    refine wpAnyH_take (i := 2) (oi := ⟨some 58, _, _, _, _, _⟩) rfl (by kernel_rfl) (by kernel_rfl) (by kernel_rfl) (fun _ _ _ h => h) (yieldsIf_load_mid (by rfl) 31 (.tmp 9) rfl b9 0 ?x2g (x.cells r) _ (fun _ hS => hS) Try.underlying31 rfl size31) hHeld ?r2g
    case x2g => first | rfl | (simp [Act.eval, go_sem]; done)
    try simp only [Act.put, List.setIfInBounds_toArray, List.set_cons_zero, List.set_cons_succ]
    clear hHeld R0w
    generalize wr.drew = wq at S0z R0z V0z ⊢
    refine wpAnyH_ready (rs := [1, 3]) (by kernel_rfl) (by simp) ?_
    refine (AllReadyH.cons rfl (fun K hK => ?_) (AllReadyH.cons rfl (fun K hK => ?_) AllReadyH.nil))
    · go_simp
      refine (st_copy S0z.out (i := 0) rfl hdp).mono ?_
      rintro e Wz1 ⟨gc, rfl, hs, hkp⟩
      have Sz1 : Hid (St w Wz1 (b9 :: xs) [(g, d), (gc, d)]) := hs
      have Rz1 := Lib.hid (Row.kept R0z.out hkp (by simp))
      have Vz1 := Lib.hid (V0z.out.kept hkp (fun b hb => by simp [hb]))
      clear hs hkp S0z R0z V0z 
      refine hK _ _ (Row.all Rz1.out) (fun _ => ?_)
      clear hK K
      try simp only [Act.put, List.setIfInBounds_toArray, List.set_cons_zero, List.set_cons_succ]
      refine wpAnyH_ready (rs := [3]) (by kernel_rfl) (by simp) ?_
      refine (AllReadyH.cons rfl (fun K hK => ?_) AllReadyH.nil)
      rw [if_pos (by rfl)]
      go_simp
      have Sz2 : Hid (St w (Wz1.alloc (.cells #[.slice none 0 0, .slice none 0 0, .bool false, .int .i64 0, .int .i64 0, .int .i64 0] 31)) (Wz1.heap.size :: b9 :: xs) [(g, d), (gc, d)]) := Sz1.out.alloc _
      have hba : Below Wz1.heap.size Wz1 (Wz1.alloc (.cells #[.slice none 0 0, .slice none 0 0, .bool false, .int .i64 0, .int .i64 0, .int .i64 0] 31)) := (Below.refl _ _).alloc (Nat.le_refl _) _
      have Rz2 := Lib.hid (Rz1.out.below hba Rz1.out.lt)
      have Vz2 := Lib.hid (Vz1.out.below hba)
      have Bz2 : Hid (Row (Wz1.alloc (.cells #[.slice none 0 0, .slice none 0 0, .bool false, .int .i64 0, .int .i64 0, .int .i64 0] 31)) Wz1.heap.size 31 rz) := (show Row _ _ _ _ from Row.new Wz1 31 rz)
      have hx14 : Wz1.heap.size ∉ xs := fun hz => by have := Vz1.out.lt _ hz; omega
      have hn14 : b9 ≠ Wz1.heap.size := by have := Rz1.out.lt; omega
      have hw14 : w.heap.size ≤ Wz1.heap.size := Sz1.out.bel.size
      obtain ⟨b14, hb14⟩ : ∃ b14, b14 = Wz1.heap.size := ⟨_, rfl⟩
      rw [← hb14] at Sz2 Bz2 hx14 hn14 hw14 ⊢
      clear hba hb14 Sz1 Rz1 Vz1
      generalize Wz1.alloc (.cells #[.slice none 0 0, .slice none 0 0, .bool false, .int .i64 0, .int .i64 0, .int .i64 0] 31) = Wz2 at Sz2 Rz2 Vz2 Bz2 ⊢
      refine hK _ _ (Row.all Rz2.out) (fun _ => ?_)
      clear hK K
      try simp only [Act.put, List.setIfInBounds_toArray, List.set_cons_zero, List.set_cons_succ]
      have hHeld := Row.all Rz2.out
      refine wpAnyH_take (i := 4) (oi := ⟨some 13, _, _, _, _, _⟩) (v := ?v4f3) rfl (by kernel_rfl) (by kernel_rfl) (by kernel_rfl) (fun _ _ _ h => h) (Or.inl ⟨by rfl, ?y4f3⟩) hHeld ?r4f3
      case y4f3 =>
        rintro w' q0
        go_simp
        try with_reducible rfl
      try simp only [Act.put, List.setIfInBounds_toArray, List.set_cons_zero, List.set_cons_succ]
      clear hHeld
      refine wpAnyH_ready (rs := [5]) (by kernel_rfl) (by simp) ?_
      refine AllReadyH.cons rfl (fun K hK => ?_) AllReadyH.nil
      rw [if_pos (by rfl)]
      refine wp_store_mid 31 (.tmp 14) (.tmp 58) rfl b14 0 (x.cells r).toArray rfl rfl ?_ ?_ (all_oneCell_toArray (cells_one _ _)) ?_
      · rw [List.size_toArray]; exact Row.there Bz2.out (by show 0 + 6 ≤ 6; decide)
      · rw [List.size_toArray]; exact size31
      rw [List.toList_toArray]
      have hrB := Row.setCells (x.cells r) 0 rz Wz2 Bz2.out (by show 0 + 6 ≤ 6; decide)
      have hg5 := grown_setCells b14 (x.cells r) 0 Wz2
      rw [splice_all _ _ (by rfl)] at hrB
      generalize Wz2.setCells b14 0 (x.cells r) = w3 at hrB hg5 ⊢
      have RF := Lib.hid (Rz2.out.grown hg5 (by simp; omega))
      have VF := Lib.hid (Vz2.out.grown hg5 hx14)
      have I4 : Hid (TwoI w w3 b9 b14 g gc (m1 + 0) m1) := (show TwoI _ _ _ _ _ _ _ _ from ⟨d, x, r, d, x, r, xs, (Sz2.out.grownIn hg5 (by simp) hw14).less (fun z hz => by simp at hz ⊢; rcases hz with h | h | h <;> simp [h]), RF.out, VF.out, HAG.out, hrB, VF.out, HAG.out, HNB.out, hx14, hn14, hwb, hw14⟩)
      refine hK _ _ (Row.all RF.out) (fun _ => ?_)
      clear hK K hrB hg5 RF VF HAG HNB Sz2 Rz2 Vz2 Bz2 hx14 hn14 hdp
      try simp only [Act.put, List.setIfInBounds_toArray]
      refine wpAnyH_done (by kernel_rfl) ?_ _
      go_wp2_with fail
      refine (HF2.out _).mono ?_
      rintro e w5 ⟨rfl, rfl⟩
      go_wp2
      go_loopw [64] (fun i wr => ∃ k : Nat, k ≤ m2 ∧ i = .int .i64 k ∧ Hid (TwoI w wr b9 b14 g gc (m1 + k) m1)) (fun i _ => m2 - (intOf i).toNat)
      case atStart => exact ⟨0, by omega, rfl, I4⟩
      rename World => wr
      obtain ⟨k, hk, rfl, HI⟩ := hrel
      clear I4
      by_cases hlt : k < m2
      case neg =>
        obtain rfl : k = m2 := by omega
        clear HO2 HOK2 HLM2 HF2 hk hlt
        go_wp2_with fail
        refine (HF3.out _).mono ?_
        rintro e w5 ⟨rfl, rfl⟩
        go_wp2
        obtain ⟨m2, hm2⟩ : ∃ m2, m2 = k := ⟨_, rfl⟩
        have HIM : Hid (TwoI w w5 b9 b14 g gc (m1 + m2) m1) := (show TwoI _ _ _ _ _ _ _ _ by rw [hm2]; exact HI.out)
        have hlm2 : m2 ≤ 120 := by omega
        clear HI
        go_loopw [82] (fun i wr => ∃ k : Nat, k ≤ m3 ∧ i = .int .i64 k ∧ Hid (TwoI w wr b9 b14 g gc (m1 + m2) (m1 + k))) (fun i _ => m3 - (intOf i).toNat)
        case atStart => exact ⟨0, by omega, rfl, HIM⟩
        rename World => wr
        obtain ⟨k, hk, rfl, HI⟩ := hrel
        clear HIM
        by_cases hlt : k < m3
        case neg =>
          obtain rfl : k = m3 := by omega
          obtain ⟨d, x, r, d2, x2, r2, xs, hst, hrow, hrv, hag, hrow2, hrv2, hago, hnb, hno, hne, hwb, hwo⟩ := HI.out
          have HST := Lib.hid hst
          have HROW := Lib.hid hrow
          have HROW2 := Lib.hid hrow2
          have HAC := Lib.hid (st_agree hst (i := 0) rfl hrv hag (by omega))
          have HAC2 := Lib.hid (fun (W' : World) (hb : Below wr.heap.size wr W') => st_agree (hst.below hb) (i := 1) rfl (hrv2.below hb) hago (by omega))
          clear hst hrow hrv hag hrow2 hrv2 hago hnb hno hne HI
          go_wp2_with (first
            | (with_reducible refine wpList_load_mid (op := ⟨some 109, _, _, _, _, _⟩) ?_ 31 (.tmp 9) (by rfl) b9 0 ?_ (x.cells r) _ ?_ Try.underlying31 ?_ ?_ ?_))
          all_goals try (first | rfl | exact Row.all HROW.out | exact size31)
          refine (HAC.out).mono ?_
          rintro e w12 ⟨rfl, hb12⟩
          have HB12 := Lib.hid hb12
          have R12 := Lib.hid (HROW2.out.below hb12 HROW2.out.lt)
          clear hb12 HROW2 HROW HAC
          go_wp2_with (first
            | (with_reducible refine wpList_load_mid_w (op := ⟨some 113, _, _, _, _, _⟩) ?_ 31 (.tmp 14) ?_ b14 0 ?_ (x2.cells r2) _ (Row.all R12.out) Try.underlying31 ?_ ?_ ?_))
          all_goals try (first | rfl | exact size31)
          refine (HAC2.out _ HB12.out).mono ?_
          rintro e w13 ⟨rfl, hb13⟩
          have HB13 : Hid (Below w.heap.size w w13) := (show Below _ _ _ from (HST.out.below HB12.out).bel.trans (hb13.mono (HST.out.below HB12.out).bel.size))
          clear hb13 HAC2 HB12 HST R12
          go_wp2
          go_ret
          exact ⟨rfl, HB13.out⟩
        have hkl : k < L3.length := by rw [← HLM3.out]; exact hlt
        obtain ⟨b, qo, rfl, hbl, hr⟩ := HO3.out (by omega)
        obtain ⟨d2, x2, r2, d, x, r, xs, hst, hrow2, hrv2, hago, hrow, hrv, hag, hno, hnb, hne, hwo, hwb⟩ := HI.out
        have hget : L3[k]? = some L3[k] := List.getElem?_eq_getElem hkl
        have hrg := range_below (hr k _ hget) hst.bel hbl
        have hoo := (HOK3.out L3[k] (List.getElem_mem hkl))
        obtain ⟨om, hom⟩ : ∃ om, om = L3[k] := ⟨_, rfl⟩
        rw [← hom] at hrg hoo
        have HST := Lib.hid hst
        have HROW := Lib.hid hrow
        have HRV := Lib.hid hrv
        have HAG := Lib.hid hag
        have HNB := Lib.hid hnb
        have HOO := Lib.hid hoo
        have HROW2 := Lib.hid hrow2
        have HRV2 := Lib.hid hrv2
        have HAGO := Lib.hid hago
        have HNO := Lib.hid hno
        have HNE := Lib.hid hne
        have hdp : d.pend.length ≤ 1000000 := by have := hag.len; omega
        clear hr hget hom hst hrow hrv hag hnb hoo HI hrow2 hrv2 hago hno hne
        obtain ⟨kd, a, xb, Ak, nk, ck, lk⟩ := om
        have c0 : wr.cell? ⟨b, qo + k * 4, none⟩ = some (.int .i64 kd) := hrg 0 _ rfl
        have c1 : wr.cell? ⟨b, qo + k * 4 + 1, none⟩ = some (.int .i64 a) := hrg 1 _ rfl
        have c2 : wr.cell? ⟨b, qo + k * 4 + 2, none⟩ = some (.int .u8 (xb.toNat : Int)) := hrg 2 _ rfl
        have c3 : wr.cell? ⟨b, qo + k * 4 + 3, none⟩ = some (.slice Ak nk ck) := hrg 3 _ rfl
        clear hrg
        obtain ⟨WA, hWA⟩ : ∃ WA, WA = wr.alloc (.cells (ocs kd a xb Ak nk ck).toArray 37) := ⟨_, rfl⟩
        have hba : Below wr.heap.size wr WA := by rw [hWA]; exact (Below.refl _ _).alloc (Nat.le_refl _) _
        have SA : Hid (St w WA (wr.heap.size :: b9 :: b14 :: xs) [(g, d2), (gc, d)]) := (show St _ _ _ _ by rw [hWA]; exact HST.out.alloc _)
        have RA10 : Hid (Row WA wr.heap.size 37 (ocs kd a xb Ak nk ck)) := (show Row _ _ _ _ by rw [hWA]; exact Row.new wr _ _)
        have RA7 := Lib.hid (HROW.out.below hba HROW.out.lt)
        have RAV := Lib.hid (HRV.out.below hba)
        have RA7b := Lib.hid (HROW2.out.below hba HROW2.out.lt)
        have RAVb := Lib.hid (HRV2.out.below hba)
        have hbol : b9 < wr.heap.size := HROW2.out.lt
        have HDC := Lib.hid (st_does ⟨kd, a, xb, Ak, nk, ck, lk⟩ SA.out (i := 1) rfl hdp (HOO.out.below SA.out.bel))
        have HWA := Lib.hid hWA
        have hbml : b14 < wr.heap.size := HROW.out.lt
        have hgoodd := HAG.out.good
        obtain ⟨lb, hlb⟩ : ∃ lb, lb = (d.doesM ⟨kd, a, xb, Ak, nk, ck, lk⟩).2.1 := ⟨_, rfl⟩
        obtain ⟨er, her⟩ : ∃ er, er = (d.doesM ⟨kd, a, xb, Ak, nk, ck, lk⟩).2.2 := ⟨_, rfl⟩
        have HER := Lib.hid her
        clear her
        have hlb64 : lb.length = 64 := by rw [hlb]; exact does_blk hgoodd _
        obtain ⟨hsim, hag2⟩ := HAG.out.does (by omega) ⟨kd, a, xb, Ak, nk, ck, lk⟩ HOO.out.high
        have HSIM := Lib.hid hsim
        have HAG2 := Lib.hid hag2
        have HLB := Lib.hid hlb
        have HL64 := Lib.hid hlb64
        have HXN : Hid (∀ z ∈ xs, z < wr.heap.size) := (show ∀ z ∈ _, _ from HRV.out.lt)
        clear hWA hba HST HROW HRV hgoodd hlb hlb64 hsim hag2 HROW2 HRV2
        go_wp2_with fail
        refine Calls.mono (HWA.out ▸ HDC.out) ?_
        rintro e w6 ⟨rfl, hs, hkp⟩
        rw [← HLB.out]
        rw [← HER.out]
        have S6 : Hid (St w w6 (wr.heap.size :: b9 :: b14 :: xs) [(g, d2), (gc, (d.doesM ⟨kd, a, xb, Ak, nk, ck, lk⟩).1)]) := hs
        have hkp' : Keep w (wr.heap.size :: b9 :: b14 :: xs) WA w6 := by rw [HWA.out]; exact hkp
        have R6_10 := Lib.hid (Row.kept RA10.out hkp' (by simp))
        have R6_7 := Lib.hid (Row.kept RA7.out hkp' (by simp))
        have RV6 := Lib.hid (RAV.out.kept hkp' (fun b hb => by simp [hb]))
        have R6_7b := Lib.hid (Row.kept RA7b.out hkp' (by simp))
        have RV6b := Lib.hid (RAVb.out.kept hkp' (fun b hb => by simp [hb]))
        have hz6 : wr.heap.size < w6.heap.size := S6.out.lt _ (by simp)
        clear hs hkp hkp' SA RA10 RA7 RAV HDC HWA c0 c1 c2 c3 WA RA7b RAVb
        have HRN := Lib.hid (Row.new w6 39 (bv nought))
        go_wp2_with (first
          | (with_reducible refine wpList_store_in (op := ⟨none, _, _, _, _, _⟩) ?_ 39 (.tmp 19) (.tmp 90) (by rfl) w6.heap.size 0 (bv lb) ?_ ?_ 39 (bv nought) ?_ ?_ bv_one ?_ ?_))
        all_goals try (first | rfl | exact HRN.out | (rw [bv_length, HL64.out]; exact size39) | (rw [bv_length, bv_length, HL64.out]; decide))
        intro w7 hr7 hg7
        rw [splice_all _ _ (by rw [bv_length, bv_length, HL64.out]; rfl)] at hr7
        have hb7' : Below w6.heap.size w6 w7 := ((Below.refl _ _).alloc (Nat.le_refl _) _).grown hg7 (by simp) (fun j e => Nat.le_of_eq (Option.some.inj e))
        have S7 := Lib.hid (S6.out.below hb7')
        have R7_10 := Lib.hid (R6_10.out.below hb7' R6_10.out.lt)
        have R7_7 := Lib.hid (R6_7.out.below hb7' R6_7.out.lt)
        have R7_7b := Lib.hid (R6_7b.out.below hb7' R6_7b.out.lt)
        have R7_11 := Lib.hid hr7
        have RV7 := Lib.hid (RV6.out.below hb7')
        have RV7b := Lib.hid (RV6b.out.below hb7')
        have hz7 : w6.heap.size < w7.heap.size := hr7.lt
        clear hr7 hg7 hb7' S6 R6_10 R6_7 RV6 HRN R6_7b RV6b
        obtain ⟨W8, hW8⟩ : ∃ W8, W8 = w7.alloc (.cells (bv nought).toArray 39) := ⟨_, rfl⟩
        have hb8 : Below w7.heap.size w7 W8 := by rw [hW8]; exact (Below.refl _ _).alloc (Nat.le_refl _) _
        have S8 : Hid (St w W8 (w7.heap.size :: wr.heap.size :: b9 :: b14 :: xs) [(g, d2), (gc, (d.doesM ⟨kd, a, xb, Ak, nk, ck, lk⟩).1)]) := (show St _ _ _ _ by rw [hW8]; exact S7.out.alloc _)
        have R8_10 := Lib.hid (R7_10.out.below hb8 R7_10.out.lt)
        have R8_7 := Lib.hid (R7_7.out.below hb8 R7_7.out.lt)
        have R8_7b := Lib.hid (R7_7b.out.below hb8 R7_7b.out.lt)
        have R8_11 := Lib.hid (R7_11.out.below hb8 R7_11.out.lt)
        have R8_13 : Hid (Row W8 w7.heap.size 39 (bv nought)) := (show Row _ _ _ _ by rw [hW8]; exact Row.new w7 _ _)
        have RV8 := Lib.hid (RV7.out.below hb8)
        have RV8b := Lib.hid (RV7b.out.below hb8)
        have hz8 : w7.heap.size < W8.heap.size := R8_13.out.lt
        have HW8 := Lib.hid hW8
        clear hW8 hb8 S7 R7_10 R7_7 R7_11 RV7 R7_7b RV7b
        have HWC := Lib.hid (want_any x r xs ⟨kd, a, xb, Ak, nk, ck, lk⟩ W8 RV8.out (HAG.out.rgood (by omega)) (HOO.out.below S8.out.bel))
        go_wp2_with (first
          | (with_reducible refine wpList_load_mid (op := ⟨some 93, _, _, _, _, _⟩) ?_ 31 (.tmp 14) (by rfl) b14 0 ?_ (x.cells r) _ ?_ Try.underlying31 ?_ ?_ ?_)
          | (with_reducible refine wpList_load_mid (op := ⟨some 94, _, _, _, _, _⟩) ?_ 37 (.tmp 18) (by rfl) wr.heap.size 0 ?_ (ocs kd a xb Ak nk ck) _ ?_ Try.underlying37 ?_ ?_ ?_))
        all_goals try (first | rfl | (exact (show World.rangeAt (w7.alloc (.cells (bv nought).toArray 39)) b14 0 (x.cells r) by rw [← HW8.out]; exact Row.all R8_7.out)) | (exact (show World.rangeAt (w7.alloc (.cells (bv nought).toArray 39)) wr.heap.size 0 (ocs kd a xb Ak nk ck) by rw [← HW8.out]; exact Row.all R8_10.out)) | exact size31 | exact size37)
        refine Calls.mono (HW8.out ▸ HWC.out) ?_
        rintro e w9 ⟨r', xs', rfl, hrv9, hxs9, hb9⟩
        rw [show (x.wantR ⟨kd, a, xb, Ak, nk, ck, lk⟩).2.1 = lb from by rw [HSIM.out, HLB.out], show (x.wantR ⟨kd, a, xb, Ak, nk, ck, lk⟩).2.2 = er from by rw [HSIM.out, HER.out]]
        have hb9' : Below W8.heap.size W8 w9 := by rw [HW8.out]; exact hb9
        have hxs9' : ∀ z ∈ xs', z ∈ xs ∨ W8.heap.size ≤ z := by rw [HW8.out]; exact hxs9
        obtain ⟨d', hd'⟩ : ∃ d', d' = (d.doesM ⟨kd, a, xb, Ak, nk, ck, lk⟩).1 := ⟨_, rfl⟩
        obtain ⟨x', hx'⟩ : ∃ x', x' = (x.wantR ⟨kd, a, xb, Ak, nk, ck, lk⟩).1 := ⟨_, rfl⟩
        rw [← hx'] at hrv9 ⊢
        obtain ⟨zs, hzs⟩ : ∃ zs, zs = xs' ++ xs := ⟨_, rfl⟩
        have hzl : ∀ z ∈ zs, z < w9.heap.size := fun z hz => by
          rw [hzs] at hz
          rcases List.mem_append.1 hz with h1 | h1
          · exact hrv9.lt z h1
          · have := HXN.out z h1; have := hb9'.size; omega
        have hzo : ∀ z ∈ zs, z ∈ xs ∨ W8.heap.size ≤ z := fun z hz => by
          rw [hzs] at hz
          rcases List.mem_append.1 hz with h1 | h1
          · exact hxs9' z h1
          · exact .inl h1
        have HAG3 : Hid (Agr (m1 + k + 1) d' x') := (show Agr _ _ _ by rw [hd', hx']; exact HAG2.out)
        have S9 : Hid (St w w9 (w7.heap.size :: b9 :: b14 :: zs) [(g, d2), (gc, d')]) := (show St _ _ _ _ by
          rw [hd']
          refine S8.out.adds hb9' (fun z hz => ?_)
          have hgz := hb9'.size
          rcases List.mem_cons.1 hz with rfl | hz
          · exact ⟨.inl (by simp), by omega⟩
          rcases List.mem_cons.1 hz with rfl | hz
          · exact ⟨.inl (by simp), by omega⟩
          rcases List.mem_cons.1 hz with rfl | hz
          · exact ⟨.inl (by simp), by omega⟩
          refine ⟨?_, hzl z hz⟩
          rcases hzo z hz with h1 | h1
          · exact .inl (by simp [h1])
          · exact .inr h1)
        have R9_7 := Lib.hid (R8_7.out.below hb9' R8_7.out.lt)
        have RV9 := Lib.hid (hrv9.wider (fun b hb => by rw [hzs]; exact List.mem_append_left _ hb) hzl)
        have R9_7b := Lib.hid (R8_7b.out.below hb9' R8_7b.out.lt)
        have RV9b := Lib.hid ((RV8b.out.below hb9').wider (fun b hb => by rw [hzs]; exact List.mem_append_right _ hb) hzl)
        have HNO9 : Hid (b9 ∉ zs) := (show ¬ _ from fun hz => by
          rcases hzo b9 hz with h1 | h1
          · exact HNO.out h1
          · omega)
        have R9_11 := Lib.hid (R8_11.out.below hb9' R8_11.out.lt)
        have R9_13 := Lib.hid (R8_13.out.below hb9' R8_13.out.lt)
        have HN93 : Hid (w7.heap.size ∉ zs) := (show ¬ _ from fun hz => by
          rcases hzo _ hz with h1 | h1
          · have := HXN.out _ h1; omega
          · omega)
        have HN9 : Hid (b14 ∉ zs) := (show ¬ _ from fun hz => by
          rcases hzo b14 hz with h1 | h1
          · exact HNB.out h1
          · omega)
        clear hb9 hb9' hxs9 hxs9' hrv9 hd' hx' hzl hzo hzs S8 R8_7 R8_10 RV8 HWC HAG2 HSIM HLB HER HNB HXN HAG HOO R8_7b RV8b HNO R8_11 R8_13 HW8 hz8 W8
        go_wp2_with (first
          | (with_reducible refine wpList_store_in (op := ⟨none, _, _, _, _, _⟩) ?_ 31 (.tmp 14) (.tmp 96) (by rfl) b14 0 (x'.cells r') ?_ ?_ 31 (x.cells r) ?_ ?_ (cells_one _ _) ?_ ?_))
        all_goals try (first | rfl | exact R9_7.out | exact size31 | exact size39 | (show 0 + 6 ≤ 6; decide) | (show 0 + 64 ≤ 64; decide))
        intro w10 hr hgr
        rw [splice_all _ _ (by rfl)] at hr
        have S10 := Lib.hid (S9.out.grownIn hgr (by simp) hwb)
        have R10_7 := Lib.hid hr
        have RV10 := Lib.hid (RV9.out.grown hgr HN9.out)
        have R10_7b := Lib.hid (R9_7b.out.grown hgr (by have := HNE.out; simp; omega))
        have RV10b := Lib.hid (RV9b.out.grown hgr HN9.out)
        have R10_11 := Lib.hid (R9_11.out.grown hgr (by simp; omega))
        have R10_13 := Lib.hid (R9_13.out.grown hgr (by simp; omega))
        clear hr hgr S9 R9_7 RV9 R9_7b RV9b R9_11 R9_13
        go_wp2_with (first
          | (with_reducible refine wpList_store_in (op := ⟨none, _, _, _, _, _⟩) ?_ 39 (.tmp 21) (.tmp 97) (by rfl) w7.heap.size 0 (bv lb) ?_ ?_ 39 (bv nought) ?_ ?_ bv_one ?_ ?_))
        all_goals try (first | rfl | exact R10_13.out | (rw [bv_length, HL64.out]; exact size39) | (rw [bv_length, bv_length, HL64.out]; decide))
        intro w11 hr hgr
        rw [splice_all _ _ (by rw [bv_length, bv_length, HL64.out]; rfl)] at hr
        have S11 := Lib.hid (S10.out.grownIn hgr (by simp) (by omega))
        have R11_7 := Lib.hid (R10_7.out.grown hgr (by simp; omega))
        have R11_7b := Lib.hid (R10_7b.out.grown hgr (by simp; omega))
        have R11_11 := Lib.hid (R10_11.out.grown hgr (by simp; omega))
        have R11_13 := Lib.hid hr
        have RV11 := Lib.hid (RV10.out.grown hgr HN93.out)
        have RV11b := Lib.hid (RV10b.out.grown hgr HN93.out)
        have HSL : Hid ((Try.prog.info? 39).map (·.size) = some lb.length) := (show _ = _ by rw [HL64.out]; exact size39)
        clear hr hgr S10 R10_7 R10_7b R10_11 R10_13 RV10 RV10b
        go_wp2_with (first
          | (with_reducible refine wpList_load_blk_w (op := ⟨some 99, _, _, _, _, _⟩) ?_ 39 (.tmp 19) ?_ w6.heap.size 0 ?_ lb _ (Row.all R11_11.out) Try.underlying39 ?_ HSL.out ?_)
          | (with_reducible refine wpList_load_blk_w (op := ⟨some 100, _, _, _, _, _⟩) ?_ 39 (.tmp 21) ?_ w7.heap.size 0 ?_ lb _ (Row.all R11_13.out) Try.underlying39 ?_ HSL.out ?_)
          | (with_reducible refine wpList_neq_blk (o := ⟨some 101, _, _, _, _, _⟩) ?_ (.tmp 99) (.tmp 100) ?_ lb lb ?_ ?_ HL64.out HL64.out ?_))
        all_goals try (first | rfl)
        have I12 : Hid (TwoI w w11 b9 b14 g gc (m1 + m2) (m1 + (k + 1))) := (show TwoI _ _ _ _ _ _ _ _ from ⟨d2, x2, r2, d', x', r', zs, S11.out.less (fun z hz => List.mem_cons_of_mem _ hz), R11_7b.out, RV11b.out, HAGO.out, R11_7.out, RV11.out, HAG3.out, HNO9.out, HN9.out, HNE.out, hwo, hwb⟩)
        clear S11
        go_wp2
        go_roundw
        case rel => exact ⟨k + 1, by omega, by go_num, I12⟩
        case measure => simp [intOf]; omega
      have hkl : k < L2.length := by rw [← HLM2.out]; exact hlt
      obtain ⟨b, qo, rfl, hbl, hr⟩ := HO2.out (by omega)
      obtain ⟨d, x, r, d2, x2, r2, xs, hst, hrow, hrv, hag, hrow2, hrv2, hago, hnb, hno, hne, hwb, hwo⟩ := HI.out
      have hget : L2[k]? = some L2[k] := List.getElem?_eq_getElem hkl
      have hrg := range_below (hr k _ hget) hst.bel hbl
      have hoo := (HOK2.out L2[k] (List.getElem_mem hkl))
      obtain ⟨om, hom⟩ : ∃ om, om = L2[k] := ⟨_, rfl⟩
      rw [← hom] at hrg hoo
      have HST := Lib.hid hst
      have HROW := Lib.hid hrow
      have HRV := Lib.hid hrv
      have HAG := Lib.hid hag
      have HNB := Lib.hid hnb
      have HOO := Lib.hid hoo
      have HROW2 := Lib.hid hrow2
      have HRV2 := Lib.hid hrv2
      have HAGO := Lib.hid hago
      have HNO := Lib.hid hno
      have HNE := Lib.hid hne
      have hdp : d.pend.length ≤ 1000000 := by have := hag.len; omega
      clear hr hget hom hst hrow hrv hag hnb hoo HI hrow2 hrv2 hago hno hne
      obtain ⟨kd, a, xb, Ak, nk, ck, lk⟩ := om
      have c0 : wr.cell? ⟨b, qo + k * 4, none⟩ = some (.int .i64 kd) := hrg 0 _ rfl
      have c1 : wr.cell? ⟨b, qo + k * 4 + 1, none⟩ = some (.int .i64 a) := hrg 1 _ rfl
      have c2 : wr.cell? ⟨b, qo + k * 4 + 2, none⟩ = some (.int .u8 (xb.toNat : Int)) := hrg 2 _ rfl
      have c3 : wr.cell? ⟨b, qo + k * 4 + 3, none⟩ = some (.slice Ak nk ck) := hrg 3 _ rfl
      clear hrg
      obtain ⟨WA, hWA⟩ : ∃ WA, WA = wr.alloc (.cells (ocs kd a xb Ak nk ck).toArray 37) := ⟨_, rfl⟩
      have hba : Below wr.heap.size wr WA := by rw [hWA]; exact (Below.refl _ _).alloc (Nat.le_refl _) _
      have SA : Hid (St w WA (wr.heap.size :: b9 :: b14 :: xs) [(g, d), (gc, d2)]) := (show St _ _ _ _ by rw [hWA]; exact HST.out.alloc _)
      have RA10 : Hid (Row WA wr.heap.size 37 (ocs kd a xb Ak nk ck)) := (show Row _ _ _ _ by rw [hWA]; exact Row.new wr _ _)
      have RA7 := Lib.hid (HROW.out.below hba HROW.out.lt)
      have RAV := Lib.hid (HRV.out.below hba)
      have RA7b := Lib.hid (HROW2.out.below hba HROW2.out.lt)
      have RAVb := Lib.hid (HRV2.out.below hba)
      have hbol : b14 < wr.heap.size := HROW2.out.lt
      have HDC := Lib.hid (st_does ⟨kd, a, xb, Ak, nk, ck, lk⟩ SA.out (i := 0) rfl hdp (HOO.out.below SA.out.bel))
      have HWA := Lib.hid hWA
      have hbml : b9 < wr.heap.size := HROW.out.lt
      have hgoodd := HAG.out.good
      obtain ⟨lb, hlb⟩ : ∃ lb, lb = (d.doesM ⟨kd, a, xb, Ak, nk, ck, lk⟩).2.1 := ⟨_, rfl⟩
      obtain ⟨er, her⟩ : ∃ er, er = (d.doesM ⟨kd, a, xb, Ak, nk, ck, lk⟩).2.2 := ⟨_, rfl⟩
      have HER := Lib.hid her
      clear her
      have hlb64 : lb.length = 64 := by rw [hlb]; exact does_blk hgoodd _
      obtain ⟨hsim, hag2⟩ := HAG.out.does (by omega) ⟨kd, a, xb, Ak, nk, ck, lk⟩ HOO.out.high
      have HSIM := Lib.hid hsim
      have HAG2 := Lib.hid hag2
      have HLB := Lib.hid hlb
      have HL64 := Lib.hid hlb64
      have HXN : Hid (∀ z ∈ xs, z < wr.heap.size) := (show ∀ z ∈ _, _ from HRV.out.lt)
      clear hWA hba HST HROW HRV hgoodd hlb hlb64 hsim hag2 HROW2 HRV2
      go_wp2_with fail
      refine Calls.mono (HWA.out ▸ HDC.out) ?_
      rintro e w6 ⟨rfl, hs, hkp⟩
      rw [← HLB.out]
      rw [← HER.out]
      have S6 : Hid (St w w6 (wr.heap.size :: b9 :: b14 :: xs) [(g, (d.doesM ⟨kd, a, xb, Ak, nk, ck, lk⟩).1), (gc, d2)]) := hs
      have hkp' : Keep w (wr.heap.size :: b9 :: b14 :: xs) WA w6 := by rw [HWA.out]; exact hkp
      have R6_10 := Lib.hid (Row.kept RA10.out hkp' (by simp))
      have R6_7 := Lib.hid (Row.kept RA7.out hkp' (by simp))
      have RV6 := Lib.hid (RAV.out.kept hkp' (fun b hb => by simp [hb]))
      have R6_7b := Lib.hid (Row.kept RA7b.out hkp' (by simp))
      have RV6b := Lib.hid (RAVb.out.kept hkp' (fun b hb => by simp [hb]))
      have hz6 : wr.heap.size < w6.heap.size := S6.out.lt _ (by simp)
      clear hs hkp hkp' SA RA10 RA7 RAV HDC HWA c0 c1 c2 c3 WA RA7b RAVb
      have HWC := Lib.hid (want_any x r xs ⟨kd, a, xb, Ak, nk, ck, lk⟩ w6 RV6.out (HAG.out.rgood (by omega)) (HOO.out.below S6.out.bel))
      go_wp2_with (first
        | (with_reducible refine wpList_load_mid (op := ⟨some 72, _, _, _, _, _⟩) ?_ 31 (.tmp 9) (by rfl) b9 0 ?_ (x.cells r) _ ?_ Try.underlying31 ?_ ?_ ?_)
        | (with_reducible refine wpList_load_mid (op := ⟨some 73, _, _, _, _, _⟩) ?_ 37 (.tmp 16) (by rfl) wr.heap.size 0 ?_ (ocs kd a xb Ak nk ck) _ ?_ Try.underlying37 ?_ ?_ ?_))
      all_goals try (first | rfl | exact Row.all R6_7.out | exact Row.all R6_10.out | exact size31 | exact size37)
      refine Calls.mono HWC.out ?_
      rintro e w9 ⟨r', xs', rfl, hrv9, hxs9, hb9⟩
      rw [show (x.wantR ⟨kd, a, xb, Ak, nk, ck, lk⟩).2.1 = lb from by rw [HSIM.out, HLB.out], show (x.wantR ⟨kd, a, xb, Ak, nk, ck, lk⟩).2.2 = er from by rw [HSIM.out, HER.out]]
      have hb9' : Below w6.heap.size w6 w9 := hb9
      have hxs9' : ∀ z ∈ xs', z ∈ xs ∨ w6.heap.size ≤ z := hxs9
      obtain ⟨d', hd'⟩ : ∃ d', d' = (d.doesM ⟨kd, a, xb, Ak, nk, ck, lk⟩).1 := ⟨_, rfl⟩
      obtain ⟨x', hx'⟩ : ∃ x', x' = (x.wantR ⟨kd, a, xb, Ak, nk, ck, lk⟩).1 := ⟨_, rfl⟩
      rw [← hx'] at hrv9 ⊢
      obtain ⟨zs, hzs⟩ : ∃ zs, zs = xs' ++ xs := ⟨_, rfl⟩
      have hzl : ∀ z ∈ zs, z < w9.heap.size := fun z hz => by
        rw [hzs] at hz
        rcases List.mem_append.1 hz with h1 | h1
        · exact hrv9.lt z h1
        · have := HXN.out z h1; have := hb9'.size; omega
      have hzo : ∀ z ∈ zs, z ∈ xs ∨ w6.heap.size ≤ z := fun z hz => by
        rw [hzs] at hz
        rcases List.mem_append.1 hz with h1 | h1
        · exact hxs9' z h1
        · exact .inl h1
      have HAG3 : Hid (Agr (m1 + k + 1) d' x') := (show Agr _ _ _ by rw [hd', hx']; exact HAG2.out)
      have S9 : Hid (St w w9 (b9 :: b14 :: zs) [(g, d'), (gc, d2)]) := (show St _ _ _ _ by
        rw [hd']
        refine S6.out.adds hb9' (fun z hz => ?_)
        have hgz := hb9'.size
        rcases List.mem_cons.1 hz with rfl | hz
        · exact ⟨.inl (by simp), by omega⟩
        rcases List.mem_cons.1 hz with rfl | hz
        · exact ⟨.inl (by simp), by omega⟩
        refine ⟨?_, hzl z hz⟩
        rcases hzo z hz with h1 | h1
        · exact .inl (by simp [h1])
        · exact .inr h1)
      have R9_7 := Lib.hid (R6_7.out.below hb9' R6_7.out.lt)
      have RV9 := Lib.hid (hrv9.wider (fun b hb => by rw [hzs]; exact List.mem_append_left _ hb) hzl)
      have R9_7b := Lib.hid (R6_7b.out.below hb9' R6_7b.out.lt)
      have RV9b := Lib.hid ((RV6b.out.below hb9').wider (fun b hb => by rw [hzs]; exact List.mem_append_right _ hb) hzl)
      have HNO9 : Hid (b14 ∉ zs) := (show ¬ _ from fun hz => by
        rcases hzo b14 hz with h1 | h1
        · exact HNO.out h1
        · omega)
      have HN9 : Hid (b9 ∉ zs) := (show ¬ _ from fun hz => by
        rcases hzo b9 hz with h1 | h1
        · exact HNB.out h1
        · omega)
      clear hb9 hb9' hxs9 hxs9' hrv9 hd' hx' hzl hzo hzs S6 R6_7 R6_10 RV6 HWC HAG2 HSIM HLB HER HNB HXN HAG HOO R6_7b RV6b HNO 
      go_wp2_with (first
        | (with_reducible refine wpList_store_in (op := ⟨none, _, _, _, _, _⟩) ?_ 31 (.tmp 9) (.tmp 75) (by rfl) b9 0 (x'.cells r') ?_ ?_ 31 (x.cells r) ?_ ?_ (cells_one _ _) ?_ ?_))
      all_goals try (first | rfl | exact R9_7.out | exact size31 | exact size39 | (show 0 + 6 ≤ 6; decide) | (show 0 + 64 ≤ 64; decide))
      intro w10 hr hgr
      rw [splice_all _ _ (by rfl)] at hr
      have S10 := Lib.hid (S9.out.grownIn hgr (by simp) hwb)
      have R10_7 := Lib.hid hr
      have RV10 := Lib.hid (RV9.out.grown hgr HN9.out)
      have R10_7b := Lib.hid (R9_7b.out.grown hgr (by have := HNE.out; simp; omega))
      have RV10b := Lib.hid (RV9b.out.grown hgr HN9.out)
      clear hr hgr S9 R9_7 RV9 R9_7b RV9b 
      have I12 : Hid (TwoI w w10 b9 b14 g gc (m1 + (k + 1)) m1) := (show TwoI _ _ _ _ _ _ _ _ from ⟨d', x', r', d2, x2, r2, zs, S10.out, R10_7.out, RV10.out, HAG3.out, R10_7b.out, RV10b.out, HAGO.out, HN9.out, HNO9.out, HNE.out, hwb, hwo⟩)
      clear S10
      go_wp2
      go_roundw
      case rel => exact ⟨k + 1, by omega, by go_num, I12⟩
      case measure => simp [intOf]; omega
    · rw [if_pos (by rfl)]
      go_simp
      have Sz4 : Hid (St w (wq.alloc (.cells #[.slice none 0 0, .slice none 0 0, .bool false, .int .i64 0, .int .i64 0, .int .i64 0] 31)) (wq.heap.size :: b9 :: xs) [(g, d)]) := S0z.out.alloc _
      have hba : Below wq.heap.size wq (wq.alloc (.cells #[.slice none 0 0, .slice none 0 0, .bool false, .int .i64 0, .int .i64 0, .int .i64 0] 31)) := (Below.refl _ _).alloc (Nat.le_refl _) _
      have Rz4 := Lib.hid (R0z.out.below hba R0z.out.lt)
      have Vz4 := Lib.hid (V0z.out.below hba)
      have Bz4 : Hid (Row (wq.alloc (.cells #[.slice none 0 0, .slice none 0 0, .bool false, .int .i64 0, .int .i64 0, .int .i64 0] 31)) wq.heap.size 31 rz) := (show Row _ _ _ _ from Row.new wq 31 rz)
      have hx14 : wq.heap.size ∉ xs := fun hz => by have := V0z.out.lt _ hz; omega
      have hn14 : b9 ≠ wq.heap.size := by have := R0z.out.lt; omega
      have hw14 : w.heap.size ≤ wq.heap.size := S0z.out.bel.size
      obtain ⟨b14, hb14⟩ : ∃ b14, b14 = wq.heap.size := ⟨_, rfl⟩
      rw [← hb14] at Sz4 Bz4 hx14 hn14 hw14 ⊢
      clear hba hb14 S0z R0z V0z
      generalize wq.alloc (.cells #[.slice none 0 0, .slice none 0 0, .bool false, .int .i64 0, .int .i64 0, .int .i64 0] 31) = Wz4 at Sz4 Rz4 Vz4 Bz4 ⊢
      refine hK _ _ (Row.all Rz4.out) (fun _ => ?_)
      clear hK K
      try simp only [Act.put, List.setIfInBounds_toArray, List.set_cons_zero, List.set_cons_succ]
      refine wpAnyH_ready (rs := [1]) (by kernel_rfl) (by simp) ?_
      refine (AllReadyH.cons rfl (fun K hK => ?_) AllReadyH.nil)
      go_simp
      refine (st_copy Sz4.out (i := 0) rfl hdp).mono ?_
      rintro e Wz5 ⟨gc, rfl, hs, hkp⟩
      have Sz5 : Hid (St w Wz5 (b14 :: b9 :: xs) [(g, d), (gc, d)]) := hs
      have Rz5 := Lib.hid (Row.kept Rz4.out hkp (by simp))
      have Vz5 := Lib.hid (Vz4.out.kept hkp (fun b hb => by simp [hb]))
      have Bz5 := Lib.hid (Row.kept Bz4.out hkp (by simp))
      clear hs hkp Sz4 Rz4 Vz4 Bz4
      refine hK _ _ (Row.all Rz5.out) (fun _ => ?_)
      clear hK K
      try simp only [Act.put, List.setIfInBounds_toArray, List.set_cons_zero, List.set_cons_succ]
      have hHeld := Row.all Rz5.out
      refine wpAnyH_take (i := 4) (oi := ⟨some 13, _, _, _, _, _⟩) (v := ?v4f6) rfl (by kernel_rfl) (by kernel_rfl) (by kernel_rfl) (fun _ _ _ h => h) (Or.inl ⟨by rfl, ?y4f6⟩) hHeld ?r4f6
      case y4f6 =>
        rintro w' q0
        go_simp
        try with_reducible rfl
      try simp only [Act.put, List.setIfInBounds_toArray, List.set_cons_zero, List.set_cons_succ]
      clear hHeld
      refine wpAnyH_ready (rs := [5]) (by kernel_rfl) (by simp) ?_
      refine AllReadyH.cons rfl (fun K hK => ?_) AllReadyH.nil
      rw [if_pos (by rfl)]
      refine wp_store_mid 31 (.tmp 14) (.tmp 58) rfl b14 0 (x.cells r).toArray rfl rfl ?_ ?_ (all_oneCell_toArray (cells_one _ _)) ?_
      · rw [List.size_toArray]; exact Row.there Bz5.out (by show 0 + 6 ≤ 6; decide)
      · rw [List.size_toArray]; exact size31
      rw [List.toList_toArray]
      have hrB := Row.setCells (x.cells r) 0 rz Wz5 Bz5.out (by show 0 + 6 ≤ 6; decide)
      have hg5 := grown_setCells b14 (x.cells r) 0 Wz5
      rw [splice_all _ _ (by rfl)] at hrB
      generalize Wz5.setCells b14 0 (x.cells r) = w3 at hrB hg5 ⊢
      have RF := Lib.hid (Rz5.out.grown hg5 (by simp; omega))
      have VF := Lib.hid (Vz5.out.grown hg5 hx14)
      have I4 : Hid (TwoI w w3 b9 b14 g gc (m1 + 0) m1) := (show TwoI _ _ _ _ _ _ _ _ from ⟨d, x, r, d, x, r, xs, (Sz5.out.grownIn hg5 (by simp) hw14).less (fun z hz => by simp at hz ⊢; rcases hz with h | h | h <;> simp [h]), RF.out, VF.out, HAG.out, hrB, VF.out, HAG.out, HNB.out, hx14, hn14, hwb, hw14⟩)
      refine hK _ _ (Row.all RF.out) (fun _ => ?_)
      clear hK K hrB hg5 RF VF HAG HNB Sz5 Rz5 Vz5 Bz5 hx14 hn14 hdp
      try simp only [Act.put, List.setIfInBounds_toArray]
      refine wpAnyH_done (by kernel_rfl) ?_ _
      go_wp2_with fail
      refine (HF2.out _).mono ?_
      rintro e w5 ⟨rfl, rfl⟩
      go_wp2
      go_loopw [64] (fun i wr => ∃ k : Nat, k ≤ m2 ∧ i = .int .i64 k ∧ Hid (TwoI w wr b9 b14 g gc (m1 + k) m1)) (fun i _ => m2 - (intOf i).toNat)
      case atStart => exact ⟨0, by omega, rfl, I4⟩
      rename World => wr
      obtain ⟨k, hk, rfl, HI⟩ := hrel
      clear I4
      by_cases hlt : k < m2
      case neg =>
        obtain rfl : k = m2 := by omega
        clear HO2 HOK2 HLM2 HF2 hk hlt
        go_wp2_with fail
        refine (HF3.out _).mono ?_
        rintro e w5 ⟨rfl, rfl⟩
        go_wp2
        obtain ⟨m2, hm2⟩ : ∃ m2, m2 = k := ⟨_, rfl⟩
        have HIM : Hid (TwoI w w5 b9 b14 g gc (m1 + m2) m1) := (show TwoI _ _ _ _ _ _ _ _ by rw [hm2]; exact HI.out)
        have hlm2 : m2 ≤ 120 := by omega
        clear HI
        go_loopw [82] (fun i wr => ∃ k : Nat, k ≤ m3 ∧ i = .int .i64 k ∧ Hid (TwoI w wr b9 b14 g gc (m1 + m2) (m1 + k))) (fun i _ => m3 - (intOf i).toNat)
        case atStart => exact ⟨0, by omega, rfl, HIM⟩
        rename World => wr
        obtain ⟨k, hk, rfl, HI⟩ := hrel
        clear HIM
        by_cases hlt : k < m3
        case neg =>
          obtain rfl : k = m3 := by omega
          obtain ⟨d, x, r, d2, x2, r2, xs, hst, hrow, hrv, hag, hrow2, hrv2, hago, hnb, hno, hne, hwb, hwo⟩ := HI.out
          have HST := Lib.hid hst
          have HROW := Lib.hid hrow
          have HROW2 := Lib.hid hrow2
          have HAC := Lib.hid (st_agree hst (i := 0) rfl hrv hag (by omega))
          have HAC2 := Lib.hid (fun (W' : World) (hb : Below wr.heap.size wr W') => st_agree (hst.below hb) (i := 1) rfl (hrv2.below hb) hago (by omega))
          clear hst hrow hrv hag hrow2 hrv2 hago hnb hno hne HI
          go_wp2_with (first
            | (with_reducible refine wpList_load_mid (op := ⟨some 109, _, _, _, _, _⟩) ?_ 31 (.tmp 9) (by rfl) b9 0 ?_ (x.cells r) _ ?_ Try.underlying31 ?_ ?_ ?_))
          all_goals try (first | rfl | exact Row.all HROW.out | exact size31)
          refine (HAC.out).mono ?_
          rintro e w12 ⟨rfl, hb12⟩
          have HB12 := Lib.hid hb12
          have R12 := Lib.hid (HROW2.out.below hb12 HROW2.out.lt)
          clear hb12 HROW2 HROW HAC
          go_wp2_with (first
            | (with_reducible refine wpList_load_mid_w (op := ⟨some 113, _, _, _, _, _⟩) ?_ 31 (.tmp 14) ?_ b14 0 ?_ (x2.cells r2) _ (Row.all R12.out) Try.underlying31 ?_ ?_ ?_))
          all_goals try (first | rfl | exact size31)
          refine (HAC2.out _ HB12.out).mono ?_
          rintro e w13 ⟨rfl, hb13⟩
          have HB13 : Hid (Below w.heap.size w w13) := (show Below _ _ _ from (HST.out.below HB12.out).bel.trans (hb13.mono (HST.out.below HB12.out).bel.size))
          clear hb13 HAC2 HB12 HST R12
          go_wp2
          go_ret
          exact ⟨rfl, HB13.out⟩
        have hkl : k < L3.length := by rw [← HLM3.out]; exact hlt
        obtain ⟨b, qo, rfl, hbl, hr⟩ := HO3.out (by omega)
        obtain ⟨d2, x2, r2, d, x, r, xs, hst, hrow2, hrv2, hago, hrow, hrv, hag, hno, hnb, hne, hwo, hwb⟩ := HI.out
        have hget : L3[k]? = some L3[k] := List.getElem?_eq_getElem hkl
        have hrg := range_below (hr k _ hget) hst.bel hbl
        have hoo := (HOK3.out L3[k] (List.getElem_mem hkl))
        obtain ⟨om, hom⟩ : ∃ om, om = L3[k] := ⟨_, rfl⟩
        rw [← hom] at hrg hoo
        have HST := Lib.hid hst
        have HROW := Lib.hid hrow
        have HRV := Lib.hid hrv
        have HAG := Lib.hid hag
        have HNB := Lib.hid hnb
        have HOO := Lib.hid hoo
        have HROW2 := Lib.hid hrow2
        have HRV2 := Lib.hid hrv2
        have HAGO := Lib.hid hago
        have HNO := Lib.hid hno
        have HNE := Lib.hid hne
        have hdp : d.pend.length ≤ 1000000 := by have := hag.len; omega
        clear hr hget hom hst hrow hrv hag hnb hoo HI hrow2 hrv2 hago hno hne
        obtain ⟨kd, a, xb, Ak, nk, ck, lk⟩ := om
        have c0 : wr.cell? ⟨b, qo + k * 4, none⟩ = some (.int .i64 kd) := hrg 0 _ rfl
        have c1 : wr.cell? ⟨b, qo + k * 4 + 1, none⟩ = some (.int .i64 a) := hrg 1 _ rfl
        have c2 : wr.cell? ⟨b, qo + k * 4 + 2, none⟩ = some (.int .u8 (xb.toNat : Int)) := hrg 2 _ rfl
        have c3 : wr.cell? ⟨b, qo + k * 4 + 3, none⟩ = some (.slice Ak nk ck) := hrg 3 _ rfl
        clear hrg
        obtain ⟨WA, hWA⟩ : ∃ WA, WA = wr.alloc (.cells (ocs kd a xb Ak nk ck).toArray 37) := ⟨_, rfl⟩
        have hba : Below wr.heap.size wr WA := by rw [hWA]; exact (Below.refl _ _).alloc (Nat.le_refl _) _
        have SA : Hid (St w WA (wr.heap.size :: b9 :: b14 :: xs) [(g, d2), (gc, d)]) := (show St _ _ _ _ by rw [hWA]; exact HST.out.alloc _)
        have RA10 : Hid (Row WA wr.heap.size 37 (ocs kd a xb Ak nk ck)) := (show Row _ _ _ _ by rw [hWA]; exact Row.new wr _ _)
        have RA7 := Lib.hid (HROW.out.below hba HROW.out.lt)
        have RAV := Lib.hid (HRV.out.below hba)
        have RA7b := Lib.hid (HROW2.out.below hba HROW2.out.lt)
        have RAVb := Lib.hid (HRV2.out.below hba)
        have hbol : b9 < wr.heap.size := HROW2.out.lt
        have HDC := Lib.hid (st_does ⟨kd, a, xb, Ak, nk, ck, lk⟩ SA.out (i := 1) rfl hdp (HOO.out.below SA.out.bel))
        have HWA := Lib.hid hWA
        have hbml : b14 < wr.heap.size := HROW.out.lt
        have hgoodd := HAG.out.good
        obtain ⟨lb, hlb⟩ : ∃ lb, lb = (d.doesM ⟨kd, a, xb, Ak, nk, ck, lk⟩).2.1 := ⟨_, rfl⟩
        obtain ⟨er, her⟩ : ∃ er, er = (d.doesM ⟨kd, a, xb, Ak, nk, ck, lk⟩).2.2 := ⟨_, rfl⟩
        have HER := Lib.hid her
        clear her
        have hlb64 : lb.length = 64 := by rw [hlb]; exact does_blk hgoodd _
        obtain ⟨hsim, hag2⟩ := HAG.out.does (by omega) ⟨kd, a, xb, Ak, nk, ck, lk⟩ HOO.out.high
        have HSIM := Lib.hid hsim
        have HAG2 := Lib.hid hag2
        have HLB := Lib.hid hlb
        have HL64 := Lib.hid hlb64
        have HXN : Hid (∀ z ∈ xs, z < wr.heap.size) := (show ∀ z ∈ _, _ from HRV.out.lt)
        clear hWA hba HST HROW HRV hgoodd hlb hlb64 hsim hag2 HROW2 HRV2
        go_wp2_with fail
        refine Calls.mono (HWA.out ▸ HDC.out) ?_
        rintro e w6 ⟨rfl, hs, hkp⟩
        rw [← HLB.out]
        rw [← HER.out]
        have S6 : Hid (St w w6 (wr.heap.size :: b9 :: b14 :: xs) [(g, d2), (gc, (d.doesM ⟨kd, a, xb, Ak, nk, ck, lk⟩).1)]) := hs
        have hkp' : Keep w (wr.heap.size :: b9 :: b14 :: xs) WA w6 := by rw [HWA.out]; exact hkp
        have R6_10 := Lib.hid (Row.kept RA10.out hkp' (by simp))
        have R6_7 := Lib.hid (Row.kept RA7.out hkp' (by simp))
        have RV6 := Lib.hid (RAV.out.kept hkp' (fun b hb => by simp [hb]))
        have R6_7b := Lib.hid (Row.kept RA7b.out hkp' (by simp))
        have RV6b := Lib.hid (RAVb.out.kept hkp' (fun b hb => by simp [hb]))
        have hz6 : wr.heap.size < w6.heap.size := S6.out.lt _ (by simp)
        clear hs hkp hkp' SA RA10 RA7 RAV HDC HWA c0 c1 c2 c3 WA RA7b RAVb
        have HRN := Lib.hid (Row.new w6 39 (bv nought))
        go_wp2_with (first
          | (with_reducible refine wpList_store_in (op := ⟨none, _, _, _, _, _⟩) ?_ 39 (.tmp 19) (.tmp 90) (by rfl) w6.heap.size 0 (bv lb) ?_ ?_ 39 (bv nought) ?_ ?_ bv_one ?_ ?_))
        all_goals try (first | rfl | exact HRN.out | (rw [bv_length, HL64.out]; exact size39) | (rw [bv_length, bv_length, HL64.out]; decide))
        intro w7 hr7 hg7
        rw [splice_all _ _ (by rw [bv_length, bv_length, HL64.out]; rfl)] at hr7
        have hb7' : Below w6.heap.size w6 w7 := ((Below.refl _ _).alloc (Nat.le_refl _) _).grown hg7 (by simp) (fun j e => Nat.le_of_eq (Option.some.inj e))
        have S7 := Lib.hid (S6.out.below hb7')
        have R7_10 := Lib.hid (R6_10.out.below hb7' R6_10.out.lt)
        have R7_7 := Lib.hid (R6_7.out.below hb7' R6_7.out.lt)
        have R7_7b := Lib.hid (R6_7b.out.below hb7' R6_7b.out.lt)
        have R7_11 := Lib.hid hr7
        have RV7 := Lib.hid (RV6.out.below hb7')
        have RV7b := Lib.hid (RV6b.out.below hb7')
        have hz7 : w6.heap.size < w7.heap.size := hr7.lt
        clear hr7 hg7 hb7' S6 R6_10 R6_7 RV6 HRN R6_7b RV6b
        obtain ⟨W8, hW8⟩ : ∃ W8, W8 = w7.alloc (.cells (bv nought).toArray 39) := ⟨_, rfl⟩
        have hb8 : Below w7.heap.size w7 W8 := by rw [hW8]; exact (Below.refl _ _).alloc (Nat.le_refl _) _
        have S8 : Hid (St w W8 (w7.heap.size :: wr.heap.size :: b9 :: b14 :: xs) [(g, d2), (gc, (d.doesM ⟨kd, a, xb, Ak, nk, ck, lk⟩).1)]) := (show St _ _ _ _ by rw [hW8]; exact S7.out.alloc _)
        have R8_10 := Lib.hid (R7_10.out.below hb8 R7_10.out.lt)
        have R8_7 := Lib.hid (R7_7.out.below hb8 R7_7.out.lt)
        have R8_7b := Lib.hid (R7_7b.out.below hb8 R7_7b.out.lt)
        have R8_11 := Lib.hid (R7_11.out.below hb8 R7_11.out.lt)
        have R8_13 : Hid (Row W8 w7.heap.size 39 (bv nought)) := (show Row _ _ _ _ by rw [hW8]; exact Row.new w7 _ _)
        have RV8 := Lib.hid (RV7.out.below hb8)
        have RV8b := Lib.hid (RV7b.out.below hb8)
        have hz8 : w7.heap.size < W8.heap.size := R8_13.out.lt
        have HW8 := Lib.hid hW8
        clear hW8 hb8 S7 R7_10 R7_7 R7_11 RV7 R7_7b RV7b
        have HWC := Lib.hid (want_any x r xs ⟨kd, a, xb, Ak, nk, ck, lk⟩ W8 RV8.out (HAG.out.rgood (by omega)) (HOO.out.below S8.out.bel))
        go_wp2_with (first
          | (with_reducible refine wpList_load_mid (op := ⟨some 93, _, _, _, _, _⟩) ?_ 31 (.tmp 14) (by rfl) b14 0 ?_ (x.cells r) _ ?_ Try.underlying31 ?_ ?_ ?_)
          | (with_reducible refine wpList_load_mid (op := ⟨some 94, _, _, _, _, _⟩) ?_ 37 (.tmp 18) (by rfl) wr.heap.size 0 ?_ (ocs kd a xb Ak nk ck) _ ?_ Try.underlying37 ?_ ?_ ?_))
        all_goals try (first | rfl | (exact (show World.rangeAt (w7.alloc (.cells (bv nought).toArray 39)) b14 0 (x.cells r) by rw [← HW8.out]; exact Row.all R8_7.out)) | (exact (show World.rangeAt (w7.alloc (.cells (bv nought).toArray 39)) wr.heap.size 0 (ocs kd a xb Ak nk ck) by rw [← HW8.out]; exact Row.all R8_10.out)) | exact size31 | exact size37)
        refine Calls.mono (HW8.out ▸ HWC.out) ?_
        rintro e w9 ⟨r', xs', rfl, hrv9, hxs9, hb9⟩
        rw [show (x.wantR ⟨kd, a, xb, Ak, nk, ck, lk⟩).2.1 = lb from by rw [HSIM.out, HLB.out], show (x.wantR ⟨kd, a, xb, Ak, nk, ck, lk⟩).2.2 = er from by rw [HSIM.out, HER.out]]
        have hb9' : Below W8.heap.size W8 w9 := by rw [HW8.out]; exact hb9
        have hxs9' : ∀ z ∈ xs', z ∈ xs ∨ W8.heap.size ≤ z := by rw [HW8.out]; exact hxs9
        obtain ⟨d', hd'⟩ : ∃ d', d' = (d.doesM ⟨kd, a, xb, Ak, nk, ck, lk⟩).1 := ⟨_, rfl⟩
        obtain ⟨x', hx'⟩ : ∃ x', x' = (x.wantR ⟨kd, a, xb, Ak, nk, ck, lk⟩).1 := ⟨_, rfl⟩
        rw [← hx'] at hrv9 ⊢
        obtain ⟨zs, hzs⟩ : ∃ zs, zs = xs' ++ xs := ⟨_, rfl⟩
        have hzl : ∀ z ∈ zs, z < w9.heap.size := fun z hz => by
          rw [hzs] at hz
          rcases List.mem_append.1 hz with h1 | h1
          · exact hrv9.lt z h1
          · have := HXN.out z h1; have := hb9'.size; omega
        have hzo : ∀ z ∈ zs, z ∈ xs ∨ W8.heap.size ≤ z := fun z hz => by
          rw [hzs] at hz
          rcases List.mem_append.1 hz with h1 | h1
          · exact hxs9' z h1
          · exact .inl h1
        have HAG3 : Hid (Agr (m1 + k + 1) d' x') := (show Agr _ _ _ by rw [hd', hx']; exact HAG2.out)
        have S9 : Hid (St w w9 (w7.heap.size :: b9 :: b14 :: zs) [(g, d2), (gc, d')]) := (show St _ _ _ _ by
          rw [hd']
          refine S8.out.adds hb9' (fun z hz => ?_)
          have hgz := hb9'.size
          rcases List.mem_cons.1 hz with rfl | hz
          · exact ⟨.inl (by simp), by omega⟩
          rcases List.mem_cons.1 hz with rfl | hz
          · exact ⟨.inl (by simp), by omega⟩
          rcases List.mem_cons.1 hz with rfl | hz
          · exact ⟨.inl (by simp), by omega⟩
          refine ⟨?_, hzl z hz⟩
          rcases hzo z hz with h1 | h1
          · exact .inl (by simp [h1])
          · exact .inr h1)
        have R9_7 := Lib.hid (R8_7.out.below hb9' R8_7.out.lt)
        have RV9 := Lib.hid (hrv9.wider (fun b hb => by rw [hzs]; exact List.mem_append_left _ hb) hzl)
        have R9_7b := Lib.hid (R8_7b.out.below hb9' R8_7b.out.lt)
        have RV9b := Lib.hid ((RV8b.out.below hb9').wider (fun b hb => by rw [hzs]; exact List.mem_append_right _ hb) hzl)
        have HNO9 : Hid (b9 ∉ zs) := (show ¬ _ from fun hz => by
          rcases hzo b9 hz with h1 | h1
          · exact HNO.out h1
          · omega)
        have R9_11 := Lib.hid (R8_11.out.below hb9' R8_11.out.lt)
        have R9_13 := Lib.hid (R8_13.out.below hb9' R8_13.out.lt)
        have HN93 : Hid (w7.heap.size ∉ zs) := (show ¬ _ from fun hz => by
          rcases hzo _ hz with h1 | h1
          · have := HXN.out _ h1; omega
          · omega)
        have HN9 : Hid (b14 ∉ zs) := (show ¬ _ from fun hz => by
          rcases hzo b14 hz with h1 | h1
          · exact HNB.out h1
          · omega)
        clear hb9 hb9' hxs9 hxs9' hrv9 hd' hx' hzl hzo hzs S8 R8_7 R8_10 RV8 HWC HAG2 HSIM HLB HER HNB HXN HAG HOO R8_7b RV8b HNO R8_11 R8_13 HW8 hz8 W8
        go_wp2_with (first
          | (with_reducible refine wpList_store_in (op := ⟨none, _, _, _, _, _⟩) ?_ 31 (.tmp 14) (.tmp 96) (by rfl) b14 0 (x'.cells r') ?_ ?_ 31 (x.cells r) ?_ ?_ (cells_one _ _) ?_ ?_))
        all_goals try (first | rfl | exact R9_7.out | exact size31 | exact size39 | (show 0 + 6 ≤ 6; decide) | (show 0 + 64 ≤ 64; decide))
        intro w10 hr hgr
        rw [splice_all _ _ (by rfl)] at hr
        have S10 := Lib.hid (S9.out.grownIn hgr (by simp) hwb)
        have R10_7 := Lib.hid hr
        have RV10 := Lib.hid (RV9.out.grown hgr HN9.out)
        have R10_7b := Lib.hid (R9_7b.out.grown hgr (by have := HNE.out; simp; omega))
        have RV10b := Lib.hid (RV9b.out.grown hgr HN9.out)
        have R10_11 := Lib.hid (R9_11.out.grown hgr (by simp; omega))
        have R10_13 := Lib.hid (R9_13.out.grown hgr (by simp; omega))
        clear hr hgr S9 R9_7 RV9 R9_7b RV9b R9_11 R9_13
        go_wp2_with (first
          | (with_reducible refine wpList_store_in (op := ⟨none, _, _, _, _, _⟩) ?_ 39 (.tmp 21) (.tmp 97) (by rfl) w7.heap.size 0 (bv lb) ?_ ?_ 39 (bv nought) ?_ ?_ bv_one ?_ ?_))
        all_goals try (first | rfl | exact R10_13.out | (rw [bv_length, HL64.out]; exact size39) | (rw [bv_length, bv_length, HL64.out]; decide))
        intro w11 hr hgr
        rw [splice_all _ _ (by rw [bv_length, bv_length, HL64.out]; rfl)] at hr
        have S11 := Lib.hid (S10.out.grownIn hgr (by simp) (by omega))
        have R11_7 := Lib.hid (R10_7.out.grown hgr (by simp; omega))
        have R11_7b := Lib.hid (R10_7b.out.grown hgr (by simp; omega))
        have R11_11 := Lib.hid (R10_11.out.grown hgr (by simp; omega))
        have R11_13 := Lib.hid hr
        have RV11 := Lib.hid (RV10.out.grown hgr HN93.out)
        have RV11b := Lib.hid (RV10b.out.grown hgr HN93.out)
        have HSL : Hid ((Try.prog.info? 39).map (·.size) = some lb.length) := (show _ = _ by rw [HL64.out]; exact size39)
        clear hr hgr S10 R10_7 R10_7b R10_11 R10_13 RV10 RV10b
        go_wp2_with (first
          | (with_reducible refine wpList_load_blk_w (op := ⟨some 99, _, _, _, _, _⟩) ?_ 39 (.tmp 19) ?_ w6.heap.size 0 ?_ lb _ (Row.all R11_11.out) Try.underlying39 ?_ HSL.out ?_)
          | (with_reducible refine wpList_load_blk_w (op := ⟨some 100, _, _, _, _, _⟩) ?_ 39 (.tmp 21) ?_ w7.heap.size 0 ?_ lb _ (Row.all R11_13.out) Try.underlying39 ?_ HSL.out ?_)
          | (with_reducible refine wpList_neq_blk (o := ⟨some 101, _, _, _, _, _⟩) ?_ (.tmp 99) (.tmp 100) ?_ lb lb ?_ ?_ HL64.out HL64.out ?_))
        all_goals try (first | rfl)
        have I12 : Hid (TwoI w w11 b9 b14 g gc (m1 + m2) (m1 + (k + 1))) := (show TwoI _ _ _ _ _ _ _ _ from ⟨d2, x2, r2, d', x', r', zs, S11.out.less (fun z hz => List.mem_cons_of_mem _ hz), R11_7b.out, RV11b.out, HAGO.out, R11_7.out, RV11.out, HAG3.out, HNO9.out, HN9.out, HNE.out, hwo, hwb⟩)
        clear S11
        go_wp2
        go_roundw
        case rel => exact ⟨k + 1, by omega, by go_num, I12⟩
        case measure => simp [intOf]; omega
      have hkl : k < L2.length := by rw [← HLM2.out]; exact hlt
      obtain ⟨b, qo, rfl, hbl, hr⟩ := HO2.out (by omega)
      obtain ⟨d, x, r, d2, x2, r2, xs, hst, hrow, hrv, hag, hrow2, hrv2, hago, hnb, hno, hne, hwb, hwo⟩ := HI.out
      have hget : L2[k]? = some L2[k] := List.getElem?_eq_getElem hkl
      have hrg := range_below (hr k _ hget) hst.bel hbl
      have hoo := (HOK2.out L2[k] (List.getElem_mem hkl))
      obtain ⟨om, hom⟩ : ∃ om, om = L2[k] := ⟨_, rfl⟩
      rw [← hom] at hrg hoo
      have HST := Lib.hid hst
      have HROW := Lib.hid hrow
      have HRV := Lib.hid hrv
      have HAG := Lib.hid hag
      have HNB := Lib.hid hnb
      have HOO := Lib.hid hoo
      have HROW2 := Lib.hid hrow2
      have HRV2 := Lib.hid hrv2
      have HAGO := Lib.hid hago
      have HNO := Lib.hid hno
      have HNE := Lib.hid hne
      have hdp : d.pend.length ≤ 1000000 := by have := hag.len; omega
      clear hr hget hom hst hrow hrv hag hnb hoo HI hrow2 hrv2 hago hno hne
      obtain ⟨kd, a, xb, Ak, nk, ck, lk⟩ := om
      have c0 : wr.cell? ⟨b, qo + k * 4, none⟩ = some (.int .i64 kd) := hrg 0 _ rfl
      have c1 : wr.cell? ⟨b, qo + k * 4 + 1, none⟩ = some (.int .i64 a) := hrg 1 _ rfl
      have c2 : wr.cell? ⟨b, qo + k * 4 + 2, none⟩ = some (.int .u8 (xb.toNat : Int)) := hrg 2 _ rfl
      have c3 : wr.cell? ⟨b, qo + k * 4 + 3, none⟩ = some (.slice Ak nk ck) := hrg 3 _ rfl
      clear hrg
      obtain ⟨WA, hWA⟩ : ∃ WA, WA = wr.alloc (.cells (ocs kd a xb Ak nk ck).toArray 37) := ⟨_, rfl⟩
      have hba : Below wr.heap.size wr WA := by rw [hWA]; exact (Below.refl _ _).alloc (Nat.le_refl _) _
      have SA : Hid (St w WA (wr.heap.size :: b9 :: b14 :: xs) [(g, d), (gc, d2)]) := (show St _ _ _ _ by rw [hWA]; exact HST.out.alloc _)
      have RA10 : Hid (Row WA wr.heap.size 37 (ocs kd a xb Ak nk ck)) := (show Row _ _ _ _ by rw [hWA]; exact Row.new wr _ _)
      have RA7 := Lib.hid (HROW.out.below hba HROW.out.lt)
      have RAV := Lib.hid (HRV.out.below hba)
      have RA7b := Lib.hid (HROW2.out.below hba HROW2.out.lt)
      have RAVb := Lib.hid (HRV2.out.below hba)
      have hbol : b14 < wr.heap.size := HROW2.out.lt
      have HDC := Lib.hid (st_does ⟨kd, a, xb, Ak, nk, ck, lk⟩ SA.out (i := 0) rfl hdp (HOO.out.below SA.out.bel))
      have HWA := Lib.hid hWA
      have hbml : b9 < wr.heap.size := HROW.out.lt
      have hgoodd := HAG.out.good
      obtain ⟨lb, hlb⟩ : ∃ lb, lb = (d.doesM ⟨kd, a, xb, Ak, nk, ck, lk⟩).2.1 := ⟨_, rfl⟩
      obtain ⟨er, her⟩ : ∃ er, er = (d.doesM ⟨kd, a, xb, Ak, nk, ck, lk⟩).2.2 := ⟨_, rfl⟩
      have HER := Lib.hid her
      clear her
      have hlb64 : lb.length = 64 := by rw [hlb]; exact does_blk hgoodd _
      obtain ⟨hsim, hag2⟩ := HAG.out.does (by omega) ⟨kd, a, xb, Ak, nk, ck, lk⟩ HOO.out.high
      have HSIM := Lib.hid hsim
      have HAG2 := Lib.hid hag2
      have HLB := Lib.hid hlb
      have HL64 := Lib.hid hlb64
      have HXN : Hid (∀ z ∈ xs, z < wr.heap.size) := (show ∀ z ∈ _, _ from HRV.out.lt)
      clear hWA hba HST HROW HRV hgoodd hlb hlb64 hsim hag2 HROW2 HRV2
      go_wp2_with fail
      refine Calls.mono (HWA.out ▸ HDC.out) ?_
      rintro e w6 ⟨rfl, hs, hkp⟩
      rw [← HLB.out]
      rw [← HER.out]
      have S6 : Hid (St w w6 (wr.heap.size :: b9 :: b14 :: xs) [(g, (d.doesM ⟨kd, a, xb, Ak, nk, ck, lk⟩).1), (gc, d2)]) := hs
      have hkp' : Keep w (wr.heap.size :: b9 :: b14 :: xs) WA w6 := by rw [HWA.out]; exact hkp
      have R6_10 := Lib.hid (Row.kept RA10.out hkp' (by simp))
      have R6_7 := Lib.hid (Row.kept RA7.out hkp' (by simp))
      have RV6 := Lib.hid (RAV.out.kept hkp' (fun b hb => by simp [hb]))
      have R6_7b := Lib.hid (Row.kept RA7b.out hkp' (by simp))
      have RV6b := Lib.hid (RAVb.out.kept hkp' (fun b hb => by simp [hb]))
      have hz6 : wr.heap.size < w6.heap.size := S6.out.lt _ (by simp)
      clear hs hkp hkp' SA RA10 RA7 RAV HDC HWA c0 c1 c2 c3 WA RA7b RAVb
      have HWC := Lib.hid (want_any x r xs ⟨kd, a, xb, Ak, nk, ck, lk⟩ w6 RV6.out (HAG.out.rgood (by omega)) (HOO.out.below S6.out.bel))
      go_wp2_with (first
        | (with_reducible refine wpList_load_mid (op := ⟨some 72, _, _, _, _, _⟩) ?_ 31 (.tmp 9) (by rfl) b9 0 ?_ (x.cells r) _ ?_ Try.underlying31 ?_ ?_ ?_)
        | (with_reducible refine wpList_load_mid (op := ⟨some 73, _, _, _, _, _⟩) ?_ 37 (.tmp 16) (by rfl) wr.heap.size 0 ?_ (ocs kd a xb Ak nk ck) _ ?_ Try.underlying37 ?_ ?_ ?_))
      all_goals try (first | rfl | exact Row.all R6_7.out | exact Row.all R6_10.out | exact size31 | exact size37)
      refine Calls.mono HWC.out ?_
      rintro e w9 ⟨r', xs', rfl, hrv9, hxs9, hb9⟩
      rw [show (x.wantR ⟨kd, a, xb, Ak, nk, ck, lk⟩).2.1 = lb from by rw [HSIM.out, HLB.out], show (x.wantR ⟨kd, a, xb, Ak, nk, ck, lk⟩).2.2 = er from by rw [HSIM.out, HER.out]]
      have hb9' : Below w6.heap.size w6 w9 := hb9
      have hxs9' : ∀ z ∈ xs', z ∈ xs ∨ w6.heap.size ≤ z := hxs9
      obtain ⟨d', hd'⟩ : ∃ d', d' = (d.doesM ⟨kd, a, xb, Ak, nk, ck, lk⟩).1 := ⟨_, rfl⟩
      obtain ⟨x', hx'⟩ : ∃ x', x' = (x.wantR ⟨kd, a, xb, Ak, nk, ck, lk⟩).1 := ⟨_, rfl⟩
      rw [← hx'] at hrv9 ⊢
      obtain ⟨zs, hzs⟩ : ∃ zs, zs = xs' ++ xs := ⟨_, rfl⟩
      have hzl : ∀ z ∈ zs, z < w9.heap.size := fun z hz => by
        rw [hzs] at hz
        rcases List.mem_append.1 hz with h1 | h1
        · exact hrv9.lt z h1
        · have := HXN.out z h1; have := hb9'.size; omega
      have hzo : ∀ z ∈ zs, z ∈ xs ∨ w6.heap.size ≤ z := fun z hz => by
        rw [hzs] at hz
        rcases List.mem_append.1 hz with h1 | h1
        · exact hxs9' z h1
        · exact .inl h1
      have HAG3 : Hid (Agr (m1 + k + 1) d' x') := (show Agr _ _ _ by rw [hd', hx']; exact HAG2.out)
      have S9 : Hid (St w w9 (b9 :: b14 :: zs) [(g, d'), (gc, d2)]) := (show St _ _ _ _ by
        rw [hd']
        refine S6.out.adds hb9' (fun z hz => ?_)
        have hgz := hb9'.size
        rcases List.mem_cons.1 hz with rfl | hz
        · exact ⟨.inl (by simp), by omega⟩
        rcases List.mem_cons.1 hz with rfl | hz
        · exact ⟨.inl (by simp), by omega⟩
        refine ⟨?_, hzl z hz⟩
        rcases hzo z hz with h1 | h1
        · exact .inl (by simp [h1])
        · exact .inr h1)
      have R9_7 := Lib.hid (R6_7.out.below hb9' R6_7.out.lt)
      have RV9 := Lib.hid (hrv9.wider (fun b hb => by rw [hzs]; exact List.mem_append_left _ hb) hzl)
      have R9_7b := Lib.hid (R6_7b.out.below hb9' R6_7b.out.lt)
      have RV9b := Lib.hid ((RV6b.out.below hb9').wider (fun b hb => by rw [hzs]; exact List.mem_append_right _ hb) hzl)
      have HNO9 : Hid (b14 ∉ zs) := (show ¬ _ from fun hz => by
        rcases hzo b14 hz with h1 | h1
        · exact HNO.out h1
        · omega)
      have HN9 : Hid (b9 ∉ zs) := (show ¬ _ from fun hz => by
        rcases hzo b9 hz with h1 | h1
        · exact HNB.out h1
        · omega)
      clear hb9 hb9' hxs9 hxs9' hrv9 hd' hx' hzl hzo hzs S6 R6_7 R6_10 RV6 HWC HAG2 HSIM HLB HER HNB HXN HAG HOO R6_7b RV6b HNO 
      go_wp2_with (first
        | (with_reducible refine wpList_store_in (op := ⟨none, _, _, _, _, _⟩) ?_ 31 (.tmp 9) (.tmp 75) (by rfl) b9 0 (x'.cells r') ?_ ?_ 31 (x.cells r) ?_ ?_ (cells_one _ _) ?_ ?_))
      all_goals try (first | rfl | exact R9_7.out | exact size31 | exact size39 | (show 0 + 6 ≤ 6; decide) | (show 0 + 64 ≤ 64; decide))
      intro w10 hr hgr
      rw [splice_all _ _ (by rfl)] at hr
      have S10 := Lib.hid (S9.out.grownIn hgr (by simp) hwb)
      have R10_7 := Lib.hid hr
      have RV10 := Lib.hid (RV9.out.grown hgr HN9.out)
      have R10_7b := Lib.hid (R9_7b.out.grown hgr (by have := HNE.out; simp; omega))
      have RV10b := Lib.hid (RV9b.out.grown hgr HN9.out)
      clear hr hgr S9 R9_7 RV9 R9_7b RV9b 
      have I12 : Hid (TwoI w w10 b9 b14 g gc (m1 + (k + 1)) m1) := (show TwoI _ _ _ _ _ _ _ _ from ⟨d', x', r', d2, x2, r2, zs, S10.out, R10_7.out, RV10.out, HAG3.out, R10_7b.out, RV10b.out, HAGO.out, HN9.out, HNO9.out, HNE.out, hwb, hwo⟩)
      clear S10
      go_wp2
      go_roundw
      case rel => exact ⟨k + 1, by omega, by go_num, I12⟩
      case measure => simp [intOf]; omega
  have hkl : k < L1.length := by rw [← HLM1.out]; exact hlt
  obtain ⟨b, qo, rfl, hbl, hr⟩ := HO1.out (by omega)
  obtain ⟨d, x, r, xs, hst, hrow, hrv, hag, hnb, hwb⟩ := HI.out
  have hget : L1[k]? = some L1[k] := List.getElem?_eq_getElem hkl
  have hrg := range_below (hr k _ hget) hst.bel hbl
  have hoo := (HOK1.out L1[k] (List.getElem_mem hkl))
  obtain ⟨om, hom⟩ : ∃ om, om = L1[k] := ⟨_, rfl⟩
  rw [← hom] at hrg hoo
  have HST := Lib.hid hst
  have HROW := Lib.hid hrow
  have HRV := Lib.hid hrv
  have HAG := Lib.hid hag
  have HNB := Lib.hid hnb
  have HOO := Lib.hid hoo
  have hdp : d.pend.length ≤ 1000000 := by have := hag.len; omega
  clear hr hget hom hst hrow hrv hag hnb hoo HI 
  obtain ⟨kd, a, xb, Ak, nk, ck, lk⟩ := om
  have c0 : wr.cell? ⟨b, qo + k * 4, none⟩ = some (.int .i64 kd) := hrg 0 _ rfl
  have c1 : wr.cell? ⟨b, qo + k * 4 + 1, none⟩ = some (.int .i64 a) := hrg 1 _ rfl
  have c2 : wr.cell? ⟨b, qo + k * 4 + 2, none⟩ = some (.int .u8 (xb.toNat : Int)) := hrg 2 _ rfl
  have c3 : wr.cell? ⟨b, qo + k * 4 + 3, none⟩ = some (.slice Ak nk ck) := hrg 3 _ rfl
  clear hrg
  obtain ⟨WA, hWA⟩ : ∃ WA, WA = wr.alloc (.cells (ocs kd a xb Ak nk ck).toArray 37) := ⟨_, rfl⟩
  have hba : Below wr.heap.size wr WA := by rw [hWA]; exact (Below.refl _ _).alloc (Nat.le_refl _) _
  have SA : Hid (St w WA (wr.heap.size :: b9 :: xs) [(g, d)]) := (show St _ _ _ _ by rw [hWA]; exact HST.out.alloc _)
  have RA10 : Hid (Row WA wr.heap.size 37 (ocs kd a xb Ak nk ck)) := (show Row _ _ _ _ by rw [hWA]; exact Row.new wr _ _)
  have RA7 := Lib.hid (HROW.out.below hba HROW.out.lt)
  have RAV := Lib.hid (HRV.out.below hba)
  have HDC := Lib.hid (st_does ⟨kd, a, xb, Ak, nk, ck, lk⟩ SA.out (i := 0) rfl hdp (HOO.out.below SA.out.bel))
  have HWA := Lib.hid hWA
  have hbml : b9 < wr.heap.size := HROW.out.lt
  have hgoodd := HAG.out.good
  obtain ⟨lb, hlb⟩ : ∃ lb, lb = (d.doesM ⟨kd, a, xb, Ak, nk, ck, lk⟩).2.1 := ⟨_, rfl⟩
  obtain ⟨er, her⟩ : ∃ er, er = (d.doesM ⟨kd, a, xb, Ak, nk, ck, lk⟩).2.2 := ⟨_, rfl⟩
  have HER := Lib.hid her
  clear her
  have hlb64 : lb.length = 64 := by rw [hlb]; exact does_blk hgoodd _
  obtain ⟨hsim, hag2⟩ := HAG.out.does (by omega) ⟨kd, a, xb, Ak, nk, ck, lk⟩ HOO.out.high
  have HSIM := Lib.hid hsim
  have HAG2 := Lib.hid hag2
  have HLB := Lib.hid hlb
  have HL64 := Lib.hid hlb64
  have HXN : Hid (∀ z ∈ xs, z < wr.heap.size) := (show ∀ z ∈ _, _ from HRV.out.lt)
  clear hWA hba HST HROW HRV hgoodd hlb hlb64 hsim hag2 
  go_wp2_with fail
  refine Calls.mono (HWA.out ▸ HDC.out) ?_
  rintro e w6 ⟨rfl, hs, hkp⟩
  rw [← HLB.out]
  rw [← HER.out]
  have S6 : Hid (St w w6 (wr.heap.size :: b9 :: xs) [(g, (d.doesM ⟨kd, a, xb, Ak, nk, ck, lk⟩).1)]) := hs
  have hkp' : Keep w (wr.heap.size :: b9 :: xs) WA w6 := by rw [HWA.out]; exact hkp
  have R6_10 := Lib.hid (Row.kept RA10.out hkp' (by simp))
  have R6_7 := Lib.hid (Row.kept RA7.out hkp' (by simp))
  have RV6 := Lib.hid (RAV.out.kept hkp' (fun b hb => by simp [hb]))
  have hz6 : wr.heap.size < w6.heap.size := S6.out.lt _ (by simp)
  clear hs hkp hkp' SA RA10 RA7 RAV HDC HWA c0 c1 c2 c3 WA 
  have HWC := Lib.hid (want_any x r xs ⟨kd, a, xb, Ak, nk, ck, lk⟩ w6 RV6.out (HAG.out.rgood (by omega)) (HOO.out.below S6.out.bel))
  go_wp2_with (first
    | (with_reducible refine wpList_load_mid (op := ⟨some 49, _, _, _, _, _⟩) ?_ 31 (.tmp 9) (by rfl) b9 0 ?_ (x.cells r) _ ?_ Try.underlying31 ?_ ?_ ?_)
    | (with_reducible refine wpList_load_mid (op := ⟨some 50, _, _, _, _, _⟩) ?_ 37 (.tmp 12) (by rfl) wr.heap.size 0 ?_ (ocs kd a xb Ak nk ck) _ ?_ Try.underlying37 ?_ ?_ ?_))
  all_goals try (first | rfl | exact Row.all R6_7.out | exact Row.all R6_10.out | exact size31 | exact size37)
  refine Calls.mono HWC.out ?_
  rintro e w9 ⟨r', xs', rfl, hrv9, hxs9, hb9⟩
  rw [show (x.wantR ⟨kd, a, xb, Ak, nk, ck, lk⟩).2.1 = lb from by rw [HSIM.out, HLB.out], show (x.wantR ⟨kd, a, xb, Ak, nk, ck, lk⟩).2.2 = er from by rw [HSIM.out, HER.out]]
  have hb9' : Below w6.heap.size w6 w9 := hb9
  have hxs9' : ∀ z ∈ xs', z ∈ xs ∨ w6.heap.size ≤ z := hxs9
  obtain ⟨d', hd'⟩ : ∃ d', d' = (d.doesM ⟨kd, a, xb, Ak, nk, ck, lk⟩).1 := ⟨_, rfl⟩
  obtain ⟨x', hx'⟩ : ∃ x', x' = (x.wantR ⟨kd, a, xb, Ak, nk, ck, lk⟩).1 := ⟨_, rfl⟩
  rw [← hx'] at hrv9 ⊢
  obtain ⟨zs, hzs⟩ : ∃ zs, zs = xs' ++ xs := ⟨_, rfl⟩
  have hzl : ∀ z ∈ zs, z < w9.heap.size := fun z hz => by
    rw [hzs] at hz
    rcases List.mem_append.1 hz with h1 | h1
    · exact hrv9.lt z h1
    · have := HXN.out z h1; have := hb9'.size; omega
  have hzo : ∀ z ∈ zs, z ∈ xs ∨ w6.heap.size ≤ z := fun z hz => by
    rw [hzs] at hz
    rcases List.mem_append.1 hz with h1 | h1
    · exact hxs9' z h1
    · exact .inl h1
  have HAG3 : Hid (Agr (k + 1) d' x') := (show Agr _ _ _ by rw [hd', hx']; exact HAG2.out)
  have S9 : Hid (St w w9 (b9 :: zs) [(g, d')]) := (show St _ _ _ _ by
    rw [hd']
    refine S6.out.adds hb9' (fun z hz => ?_)
    have hgz := hb9'.size
    rcases List.mem_cons.1 hz with rfl | hz
    · exact ⟨.inl (by simp), by omega⟩
    refine ⟨?_, hzl z hz⟩
    rcases hzo z hz with h1 | h1
    · exact .inl (by simp [h1])
    · exact .inr h1)
  have R9_7 := Lib.hid (R6_7.out.below hb9' R6_7.out.lt)
  have RV9 := Lib.hid (hrv9.wider (fun b hb => by rw [hzs]; exact List.mem_append_left _ hb) hzl)
  have HN9 : Hid (b9 ∉ zs) := (show ¬ _ from fun hz => by
    rcases hzo b9 hz with h1 | h1
    · exact HNB.out h1
    · omega)
  clear hb9 hb9' hxs9 hxs9' hrv9 hd' hx' hzl hzo hzs S6 R6_7 R6_10 RV6 HWC HAG2 HSIM HLB HER HNB HXN HAG HOO  
  go_wp2_with (first
    | (with_reducible refine wpList_store_in (op := ⟨none, _, _, _, _, _⟩) ?_ 31 (.tmp 9) (.tmp 52) (by rfl) b9 0 (x'.cells r') ?_ ?_ 31 (x.cells r) ?_ ?_ (cells_one _ _) ?_ ?_))
  all_goals try (first | rfl | exact R9_7.out | exact size31 | exact size39 | (show 0 + 6 ≤ 6; decide) | (show 0 + 64 ≤ 64; decide))
  intro w10 hr hgr
  rw [splice_all _ _ (by rfl)] at hr
  have S10 := Lib.hid (S9.out.grownIn hgr (by simp) hwb)
  have R10_7 := Lib.hid hr
  have RV10 := Lib.hid (RV9.out.grown hgr HN9.out)
  clear hr hgr S9 R9_7 RV9  
  have I12 : Hid (DoesI w w10 b9 g (k + 1)) := (show DoesI _ _ _ _ _ from ⟨d', x', r', zs, S10.out, R10_7.out, RV10.out, HAG3.out, HN9.out, hwb⟩)
  clear S10
  go_wp2
  go_roundw
  case rel => exact ⟨k + 1, by omega, by go_num, I12⟩
  case measure => simp [intOf]; omega

theorem resT_DiskCopies : Try.f4.resultTypes = #[4] := by kernel_rfl
set_option maxRecDepth 100000 in
theorem lifted_DiskCopies (os : Os) (started : os.Started) (H : Type) (enc : TypeId × Value → H) :
    ReturnsInHanded {} Try.checked os 4 .any (Rows.diskCopiesSpec.pre6 enc Try.prog Try.f4 Rows.diskCopiesRow.domain false) (Rows.diskCopiesSpec.post enc Try.prog Try.f4 false true false false) := by
  refine Lift.law_lift (C := Try.checked) (s := Rows.diskCopiesSpec) (tb := 4) own laidOut started (by kernel_rfl) Try.func4
    (ChangeSpec.witness6 (enc := enc) (C := Try.checked) false ⟨#[], #[.slice none 0 0, .slice none 0 0, .slice none 0 0], []⟩ 8 (by kernel_rfl) (by kernel_rfl) (by kernel_rfl) (by kernel_rfl))
    rfl resT_DiskCopies Try.underlying4 (by
      have hr : ∀ t ∈ ([22, 22, 22] : List TypeId), Try.prog.readableRec t = true ∧ t < Try.prog.types.size := by
        intro t ht
        simp only [List.mem_cons, List.not_mem_nil, or_false] at ht
        rcases ht with rfl | rfl | rfl <;> exact ⟨by kernel_rfl, of_decide_eq_true (by kernel_rfl)⟩
      intro t ht
      exact hr t (by
        have ht' : t ∈ Try.f4.params.toList := ht
        rw [Try.params4] at ht'
        exact ht')) ?_
  intro W base args ds p hval0 hA0 hsz0
  have hval : ∀ (j : Nat) t v, Try.f4.params[j]? = some t → args[j]? = some v → Value.okWide Try.prog W .any base t v := hval0
  have hA : DataW.TrodAll enc Try.prog W 0 (fun _ => true) true Try.f4.params.toList args.toList ds p := hA0
  have hsz : (DataW.weightsEach Try.prog Try.f4.params.toList ds).all (· ≤ reachBytes) = true := hsz0
  clear hval0 hA0 hsz0
  rw [Try.params4] at hA hval hsz
  obtain ⟨v0, vs0, d0, ds0, p0, q0, hargs, rfl, rfl, h0, r0⟩ := trodAll_cons hA
  obtain ⟨v1, vs1, d1, ds1, p1, q1, rfl, rfl, rfl, h1, r1⟩ := trodAll_cons r0
  obtain ⟨v2, vs2, d2, ds2, p2, q2, rfl, rfl, rfl, h2, r2⟩ := trodAll_cons r1
  obtain ⟨rfl, rfl, rfl⟩ := trodAll_nil r2
  obtain rfl : args = #[v0, v1, v2] := by cases args; simp_all
  obtain ⟨A0, n0, c0, os0, rfl, hl0, hlc0, hn0, hm0, ho0, hk0⟩ := open_ops (hval 0 22 v0 rfl rfl) h0 (by rw [List.all_eq_true] at hsz ⊢; intro z hz; exact hsz z (DataW.weights_mem_each (j := 0) (t := 22) (d := d0) rfl rfl z hz))
  obtain ⟨A1, n1, c1, os1, rfl, hl1, hlc1, hn1, hm1, ho1, hk1⟩ := open_ops (hval 1 22 v1 rfl rfl) h1 (by rw [List.all_eq_true] at hsz ⊢; intro z hz; exact hsz z (DataW.weights_mem_each (j := 1) (t := 22) (d := d1) rfl rfl z hz))
  obtain ⟨A2, n2, c2, os2, rfl, hl2, hlc2, hn2, hm2, ho2, hk2⟩ := open_ops (hval 2 22 v2 rfl rfl) h2 (by rw [List.all_eq_true] at hsz ⊢; intro z hz; exact hsz z (DataW.weights_mem_each (j := 2) (t := 22) (d := d2) rfl rfl z hz))
  exact ⟨rfl, copies_walk A0 A1 A2 n0 c0 n1 c1 n2 c2 os0 os1 os2 W (open_opsIn hl0 hlc0 hn0 hm0 ho0 hk0) (open_opsIn hl1 hlc1 hn1 hm1 ho1 hk1) (open_opsIn hl2 hlc2 hn2 hm2 ho2 hk2)⟩

theorem proved_DiskCopies : Rows.DiskCopiesSaid :=
  OpenClaim.holds_of_wide 4 Try.f4 rfl rfl rfl rfl rfl rfl rfl ⟨rfl, rfl, rfl, rfl, rfl⟩ rfl rfl rfl rfl rfl (by kernel_rfl) Try.func4 (by kernel_rfl)
    (of_decide_eq_true (by kernel_rfl)) (by unfold Func.isWrapper; first | (rw [if_pos (by decide +kernel)]; kernel_rfl) | (rw [if_neg (by decide +kernel)]; exact ⟨rfl, rfl⟩))
    (fun os started H enc _ => lifted_DiskCopies os started H enc)
end Go.Proofs.Ytbfpadilcfelbaa.Dsk
