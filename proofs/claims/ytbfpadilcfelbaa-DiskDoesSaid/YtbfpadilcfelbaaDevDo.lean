/-
  DiskDoes: a disk does as the reference says, op by op, for every row of ops. No condition.
-/
import Derived.Test.YtbfpadilcfelbaaDevU
namespace Go.Proofs.Ytbfpadilcfelbaa.Dsk
open Go.ChangeShapes Go.WideShapes Go.ChangeAt Go.RowKit Go.Proofs.Ytbfpadilcfelbaa.Wd

theorem own : ownKnob Try.prog.godebug = none := by kernel_rfl
theorem laidOut : laidOutB Try.prog = true := by kernel_rfl
theorem Opl.more {w : World} {B B' : Nat} {A : Option Addr} {os : List OM} (h : Opl w B A os) (hB : B ≤ B') : Opl w B' A os := fun hp => by
  obtain ⟨b, o, e, hlt, hr⟩ := h hp
  exact ⟨b, o, e, by omega, hr⟩

set_option maxRecDepth 100000 in
set_option maxHeartbeats 8000000 in
theorem does_walk (S : Int) (A : Option Addr) (n c : Nat) (os : List OM) (w : World) (hl : os.length = n) (hc : n ≤ c) (hA : A = none → c = 0) (hm : c ≤ maxLen) (ho : Opl w w.heap.size A os) (hok : ∀ o ∈ os, OpOk w o) :
    Calls Try.prog 3 #[.int .i64 S, .slice A n c] w fun e w' => e = .returned (.bool true) ∧ Below w.heap.size w w' := by
  have HM := Lib.hid hm
  have HOS := Lib.hid ho
  have HOKS := Lib.hid hok
  have HLS := Lib.hid hl
  clear hm ho hok hl
  go_enter Try.func3, Try.ntmps3
  go_wp2_with fail
  refine (wakes_any w).mono ?_
  rintro e w1 ⟨rfl, hb1⟩
  have HB1 := Lib.hid hb1
  clear hb1
  by_cases hbad : S < 1 ∨ 2048 < S
  · have HN1 := Lib.hid (dnew_bad S w1 hbad)
    have HN2 := Lib.hid (new_bad S w1 hbad)
    clear hbad
    go_wp2_with fail
    refine (HN1.out).mono ?_
    rintro e w2 ⟨rfl, rfl⟩
    go_wp2_with fail
    refine (HN2.out).mono ?_
    rintro e w3 ⟨rfl, hb3⟩
    have HB3 := Lib.hid (HB1.out.trans (hb3.mono HB1.out.size))
    have HRN := Lib.hid (Row.new w3 31 rz)
    clear hb3 HN1 HN2 HB1
    go_wp2_with (first
      | (with_reducible refine wpList_store_in (op := ⟨none, _, _, _, _, _⟩) ?_ 31 (.tmp 7) (.tmp 28) (by rfl) w3.heap.size 0 rz ?_ ?_ 31 rz ?_ ?_ rz_one ?_ ?_))
    all_goals try (first | rfl | exact HRN.out | exact size31 | exact size39 | (show 0 + 6 ≤ 6; decide) | (show 0 + 64 ≤ 64; decide))
    intro w4 hr hgr
    have HB4 := Lib.hid ((HB3.out.alloc HB3.out.size (.cells rz.toArray 31)).grown hgr (by have := HB3.out.size; simp; omega) (fun j e => by have := HB3.out.size; simp at e; omega))
    clear hr hgr HRN HB3
    go_wp2
    go_ret
    exact ⟨rfl, HB4.out⟩
  obtain ⟨N, rfl⟩ : ∃ N : Nat, S = (N : Int) := ⟨S.toNat, by omega⟩
  have hN1 : 1 ≤ N := by omega
  have hN2 : N ≤ 2048 := by omega
  have HN1 := Lib.hid (dnew_good N w1 hN1 hN2)
  have HN2 := Lib.hid (fun w' => new_good N w' hN1 hN2)
  have HAG := Lib.hid (agr_new N hN1 hN2)
  clear hbad
  go_wp2_with fail
  refine (HN1.out).mono ?_
  rintro e w2 ⟨g, rfl, F, hD, hF, hb2⟩
  have S2 : Hid (St w w2 [] [(g, DM.new N)]) := (show St _ _ _ _ from ⟨Many.more (L := []) Many.nil hb2 HB1.out.size (fun k hk => by rcases hk with hk | hk; cases hk; have := HB1.out.size; omega) hD hF, (fun x hx => by cases hx), HB1.out.trans (hb2.mono HB1.out.size)⟩)
  clear hD hF hb2 HB1 HN1
  go_wp2_with fail
  refine (HN2.out w2).mono ?_
  rintro e w3 ⟨gr, rfl, hgr2, hbl, hb3⟩
  have hgr3 : gr < w3.heap.size := by
    obtain ⟨_, _, e, hlt, _⟩ := hbl (by simp; omega)
    cases e; exact hlt
  have RV3 : Hid (RVat w3 [gr] (RA.new N) ⟨some ⟨gr, 0, none⟩, N, N, none, 0, 0⟩) := (show RVat _ _ _ _ from RVat.of_live (by simp [RA.new]) rfl (Nat.le_refl _) hgr3 hbl)
  have S3 : Hid (St w w3 [gr] [(g, DM.new N)]) := (show St _ _ _ _ from S2.out.add hb3 hgr2 hgr3)
  have HRN := Lib.hid (Row.new w3 31 rz)
  clear hgr2 hbl hb3 S2 HN2
  go_wp2_with (first
    | (with_reducible refine wpList_store_in (op := ⟨none, _, _, _, _, _⟩) ?_ 31 (.tmp 7) (.tmp 28) (by rfl) w3.heap.size 0 ((RA.new N).cells ⟨some ⟨gr, 0, none⟩, N, N, none, 0, 0⟩) ?_ ?_ 31 rz ?_ ?_ (cells_one _ _) ?_ ?_))
  all_goals try (first | rfl | exact HRN.out | exact size31 | exact size39 | (show 0 + 6 ≤ 6; decide) | (show 0 + 64 ≤ 64; decide))
  intro w4 hr hgr
  rw [splice_all _ _ (by rfl)] at hr
  have I4 : Hid (DoesI w w4 w3.heap.size g 0) := (show DoesI _ _ _ _ _ from ⟨DM.new N, RA.new N, ⟨some ⟨gr, 0, none⟩, N, N, none, 0, 0⟩, [gr], (S3.out.alloc (.cells rz.toArray 31)).grownIn hgr (by simp) S3.out.bel.size, hr, (RV3.out.below ((Below.refl _ _).alloc (Nat.le_refl _) (.cells rz.toArray 31))).grown hgr (by simp; omega), HAG.out, by simp; omega, S3.out.bel.size⟩)
  have HB4 : Hid (Below w.heap.size w w4) := (show Below _ _ _ from (S3.out.bel.alloc S3.out.bel.size (.cells rz.toArray 31)).grown hgr (by have := S3.out.bel.size; simp; omega) (fun j e => by have := S3.out.bel.size; simp at e; omega))
  have hb7 : w.heap.size ≤ w3.heap.size := S3.out.bel.size
  obtain ⟨b7, hb7e⟩ : ∃ b7, b7 = w3.heap.size := ⟨_, rfl⟩
  rw [← hb7e] at I4 hb7 ⊢
  clear hr hgr HRN S3 RV3 hgr3 hb7e HAG
  go_wp2_with fail
  refine (few_any A n c w4 hc hA HM.out).mono ?_
  rintro e w5 ⟨rfl, rfl⟩
  obtain ⟨L, hL⟩ : ∃ L, L = os.take 120 := ⟨_, rfl⟩
  have hlen : L.length = min n 120 := by rw [hL, List.length_take, HLS.out, Nat.min_comm]
  have HO : Hid (Opl w w.heap.size A L) := (show Opl _ _ _ _ by rw [hL]; exact HOS.out.take 120)
  have HOK : Hid (∀ o ∈ L, OpOk w o) := (show ∀ o ∈ _, _ from fun o h => HOKS.out o (List.mem_of_mem_take (hL ▸ h)))
  have hlm : L.length ≤ 120 := by omega
  rw [← hlen]
  obtain ⟨m, hm⟩ : ∃ m, m = L.length := ⟨_, rfl⟩
  rw [← hm]
  rw [← hm] at hlm
  have HLM := Lib.hid hm
  clear hlen hm hA hc hL HOS HOKS HLS HM
  go_wp2
  go_loopw [45] (fun i wr => ∃ k : Nat, k ≤ m ∧ i = .int .i64 k ∧ Hid (DoesI w wr b7 g k)) (fun i _ => m - (intOf i).toNat)
  case atStart => exact ⟨0, by omega, rfl, I4⟩
  rename World => wr
  obtain ⟨k, hk, rfl, HI⟩ := hrel
  clear I4 HB4
  by_cases hlt : k < m
  case neg =>
    obtain rfl : k = m := by omega
    obtain ⟨d0, x0, r0, xs0, hst0, hrow0, hrv0, hag0, hnb0, _⟩ := HI.out
    have HST0 := Lib.hid hst0
    clear hst0 hrow0 hrv0 hag0 hnb0 HLM HO HOK
    go_wp2_with fail
    refine (st_look (i := 0) HST0.out rfl (fun F hF => len_any g d0 F wr hF.1)).mono ?_
    rintro e w20 ⟨rfl, rfl⟩
    clear HST0
    go_wp2_with fail
    · go_loopw [80] (fun i wr => ∃ j : Nat, j ≤ 12 ∧ i = .int .i64 j ∧ Hid (DoesI w wr b7 g (k + j))) (fun i _ => 12 - (intOf i).toNat)
      case atStart => exact ⟨0, by omega, rfl, HI⟩
      clear HI w20
      rename World => wr
      obtain ⟨j, hj, rfl, HI⟩ := hrel
      by_cases hltj : j < 12
      case neg =>
        obtain rfl : j = 12 := by omega
        have HB : Hid (Below w.heap.size w wr) := (show Below _ _ _ by
          obtain ⟨_, _, _, _, h1, _⟩ := HI.out
          exact h1.bel)
        clear HI
        go_wp2
        go_ret
        exact ⟨rfl, HB.out⟩
      have hj12 : (j : Int) < 12 := by omega
      obtain ⟨d, x, r, xs, hst, hrow, hrv, hag, hnb, _⟩ := HI.out
      have HST := Lib.hid hst
      have HROW := Lib.hid hrow
      have HRV := Lib.hid hrv
      have HAG := Lib.hid hag
      have HNB := Lib.hid hnb
      have hb7l : b7 < wr.heap.size := hrow.lt
      obtain ⟨lb, hlb⟩ : ∃ lb, lb = (d.readM (j : Int)).2.1 := ⟨_, rfl⟩
      obtain ⟨er, her⟩ : ∃ er, er = (d.readM (j : Int)).2.2 := ⟨_, rfl⟩
      have hlb64 : lb.length = 64 := by rw [hlb]; exact readM_blk d _ hag.good
      obtain ⟨hsim, hag2⟩ := hag.reads (by omega) (j : Int) (by omega)
      have HSIM := Lib.hid hsim
      have HAG2 := Lib.hid hag2
      have HLB := Lib.hid hlb
      have HER := Lib.hid her
      have HL64 := Lib.hid hlb64
      have HXN : Hid (∀ z ∈ xs, z < wr.heap.size) := (show ∀ z ∈ _, _ from hrv.lt)
      clear hst hrow hrv hag hnb HI hlb her hlb64 hsim hag2
      go_wp2_with fail
      refine (st_read (i := 0) (j : Int) HST.out rfl).mono ?_
      rintro e w6 ⟨rfl, hs, hkp⟩
      rw [← HLB.out]
      rw [← HER.out]
      have S6 : Hid (St w w6 (b7 :: xs) [(g, (d.readM (j : Int)).1)]) := hs
      have R6_7 := Lib.hid (Row.kept HROW.out hkp (by simp))
      have RV6 := Lib.hid (HRV.out.kept hkp (fun b hb => by simp [hb]))
      have HRN := Lib.hid (Row.new w6 39 (bv nought))
      have hz6 : b7 < w6.heap.size := S6.out.lt _ (by simp)
      have hz6x : ∀ z ∈ xs, z < w6.heap.size := fun z hz => S6.out.lt _ (by simp [hz])
      clear hs hkp HST HROW HRV HXN hb7l
      go_wp2_with (first
        | (with_reducible refine wpList_store_in (op := ⟨none, _, _, _, _, _⟩) ?_ 39 (.tmp 15) (.tmp 87) (by rfl) w6.heap.size 0 (bv lb) ?_ ?_ 39 (bv nought) ?_ ?_ bv_one ?_ ?_))
      all_goals try (first | rfl | exact HRN.out | (rw [bv_length, HL64.out]; exact size39) | (rw [bv_length, bv_length, HL64.out]; decide))
      intro w7 hr7 hg7
      rw [splice_all _ _ (by rw [bv_length, bv_length, HL64.out]; rfl)] at hr7
      have hb7' : Below w6.heap.size w6 w7 := ((Below.refl _ _).alloc (Nat.le_refl _) _).grown hg7 (by simp) (fun j e => Nat.le_of_eq (Option.some.inj e))
      have S7 := Lib.hid (S6.out.below hb7')
      have R7_7 := Lib.hid (R6_7.out.below hb7' R6_7.out.lt)
      have R7_11 := Lib.hid hr7
      have RV7 := Lib.hid (RV6.out.below hb7')
      have hz7 : w6.heap.size < w7.heap.size := hr7.lt
      clear hr7 hg7 hb7' S6 R6_7 RV6 HRN
      obtain ⟨W8, hW8⟩ : ∃ W8, W8 = w7.alloc (.cells (bv nought).toArray 39) := ⟨_, rfl⟩
      have hb8 : Below w7.heap.size w7 W8 := by rw [hW8]; exact (Below.refl _ _).alloc (Nat.le_refl _) _
      have S8 : Hid (St w W8 (w7.heap.size :: b7 :: xs) [(g, (d.readM (j : Int)).1)]) := (show St _ _ _ _ by rw [hW8]; exact S7.out.alloc _)
      have R8_7 := Lib.hid (R7_7.out.below hb8 R7_7.out.lt)
      have R8_11 := Lib.hid (R7_11.out.below hb8 R7_11.out.lt)
      have R8_13 : Hid (Row W8 w7.heap.size 39 (bv nought)) := (show Row _ _ _ _ by rw [hW8]; exact Row.new w7 _ _)
      have RV8 := Lib.hid (RV7.out.below hb8)
      have hz8 : w7.heap.size < W8.heap.size := R8_13.out.lt
      have HWC := Lib.hid (rread_any x r xs (j : Int) W8 RV8.out (HAG.out.rgood (by omega)))
      have HW8 := Lib.hid hW8
      clear hW8 hb8 S7 R7_7 R7_11 RV7
      go_wp2_with (first
        | (with_reducible refine wpList_load_mid (op := ⟨some 90, _, _, _, _, _⟩) ?_ 31 (.tmp 7) (by rfl) b7 0 ?_ (x.cells r) _ ?_ Try.underlying31 ?_ ?_ ?_))
      all_goals try (first | rfl | (exact (show World.rangeAt (w7.alloc (.cells (bv nought).toArray 39)) b7 0 (x.cells r) by rw [← HW8.out]; exact Row.all R8_7.out)) | exact size31)
      refine Calls.mono (HW8.out ▸ HWC.out) ?_
      rintro e w9 ⟨rfl, hb9⟩
      rw [show (x.readR (j : Int)).2.1 = lb from by rw [HSIM.out, HLB.out], show (x.readR (j : Int)).2.2 = er from by rw [HSIM.out, HER.out]]
      have hb9' : Below W8.heap.size W8 w9 := by rw [HW8.out]; exact hb9
      have hrv9 : RVat w9 xs (x.readR (j : Int)).1 r := (RV8.out.below hb9').turn (read_safe x _).1 (read_safe x _).2
      obtain ⟨d', hd'⟩ : ∃ d', d' = (d.readM (j : Int)).1 := ⟨_, rfl⟩
      obtain ⟨x', hx'⟩ : ∃ x', x' = (x.readR (j : Int)).1 := ⟨_, rfl⟩
      rw [← hx'] at hrv9 ⊢
      have HAG3 : Hid (Agr (k + j + 1) d' x') := (show Agr _ _ _ by rw [hd', hx']; exact HAG2.out)
      have S9 : Hid (St w w9 (w7.heap.size :: b7 :: xs) [(g, d')]) := (show St _ _ _ _ by
        rw [hd']
        exact S8.out.below hb9')
      have R9_7 := Lib.hid (R8_7.out.below hb9' R8_7.out.lt)
      have R9_11 := Lib.hid (R8_11.out.below hb9' R8_11.out.lt)
      have R9_13 := Lib.hid (R8_13.out.below hb9' R8_13.out.lt)
      have RV9 := Lib.hid hrv9
      have HN9 : Hid (b7 ∉ xs ∧ w7.heap.size ∉ xs) := (show _ ∧ _ from ⟨HNB.out, fun hz => by
        have := hz6x _ hz; omega⟩)
      clear hb9 hb9' hrv9 hd' hx' S8 R8_7 R8_11 R8_13 RV8 HWC HW8 HAG2 HSIM HLB HER HNB HAG hz8 hz6x W8
      go_wp2_with (first
        | (with_reducible refine wpList_store_in (op := ⟨none, _, _, _, _, _⟩) ?_ 31 (.tmp 7) (.tmp 93) (by rfl) b7 0 (x'.cells r) ?_ ?_ 31 (x.cells r) ?_ ?_ (cells_one _ _) ?_ ?_))
      all_goals try (first | rfl | exact R9_7.out | exact size31 | exact size39 | (show 0 + 6 ≤ 6; decide) | (show 0 + 64 ≤ 64; decide))
      intro w10 hr hgr
      rw [splice_all _ _ (by rfl)] at hr
      have S10 := Lib.hid (S9.out.grownIn hgr (by simp) hb7)
      have R10_7 := Lib.hid hr
      have R10_11 := Lib.hid (R9_11.out.grown hgr (by simp; omega))
      have R10_13 := Lib.hid (R9_13.out.grown hgr (by simp; omega))
      have RV10 := Lib.hid (RV9.out.grown hgr HN9.out.1)
      clear hr hgr S9 R9_7 R9_11 R9_13 RV9
      go_wp2_with (first
        | (with_reducible refine wpList_store_in (op := ⟨none, _, _, _, _, _⟩) ?_ 39 (.tmp 17) (.tmp 94) (by rfl) w7.heap.size 0 (bv lb) ?_ ?_ 39 (bv nought) ?_ ?_ bv_one ?_ ?_))
      all_goals try (first | rfl | exact R10_13.out | (rw [bv_length, HL64.out]; exact size39) | (rw [bv_length, bv_length, HL64.out]; decide))
      intro w11 hr hgr
      rw [splice_all _ _ (by rw [bv_length, bv_length, HL64.out]; rfl)] at hr
      have S11 := Lib.hid (S10.out.grownIn hgr (by simp) (by omega))
      have R11_7 := Lib.hid (R10_7.out.grown hgr (by simp; omega))
      have R11_11 := Lib.hid (R10_11.out.grown hgr (by simp; omega))
      have R11_13 := Lib.hid hr
      have RV11 := Lib.hid (RV10.out.grown hgr HN9.out.2)
      have HSL : Hid ((Try.prog.info? 39).map (·.size) = some lb.length) := (show _ = _ by rw [HL64.out]; exact size39)
      have I12 : Hid (DoesI w w11 b7 g (k + (j + 1))) := (show DoesI _ _ _ _ _ from ⟨d', x', r, xs, S11.out.less (fun z hz => by simp at hz ⊢; rcases hz with h | h <;> simp [h]), R11_7.out, RV11.out, HAG3.out, HN9.out.1, hb7⟩)
      clear hr hgr S10 R10_7 R10_11 R10_13 RV10 S11 R11_7 RV11 HAG3 HN9
      go_wp2_with (first
        | (with_reducible refine wpList_load_blk_w (op := ⟨some 96, _, _, _, _, _⟩) ?_ 39 (.tmp 15) ?_ w6.heap.size 0 ?_ lb _ (Row.all R11_11.out) Try.underlying39 ?_ HSL.out ?_)
        | (with_reducible refine wpList_load_blk_w (op := ⟨some 97, _, _, _, _, _⟩) ?_ 39 (.tmp 17) ?_ w7.heap.size 0 ?_ lb _ (Row.all R11_13.out) Try.underlying39 ?_ HSL.out ?_)
        | (with_reducible refine wpList_neq_blk (o := ⟨some 98, _, _, _, _, _⟩) ?_ (.tmp 96) (.tmp 97) ?_ lb lb ?_ ?_ HL64.out HL64.out ?_))
      all_goals try (first | rfl)
      go_wp2
      go_roundw
      case rel => exact ⟨j + 1, by omega, by go_num, I12⟩
      case measure => simp [intOf]; omega
    · have hJ12 : d0.sec.length ≤ 12 := by omega
      go_loopw [80] (fun i wr => ∃ j : Nat, j ≤ d0.sec.length ∧ i = .int .i64 j ∧ Hid (DoesI w wr b7 g (k + j))) (fun i _ => d0.sec.length - (intOf i).toNat)
      case atStart => exact ⟨0, by omega, rfl, HI⟩
      clear HI w20
      rename World => wr
      obtain ⟨j, hj, rfl, HI⟩ := hrel
      by_cases hltj : j < d0.sec.length
      case neg =>
        obtain rfl : j = d0.sec.length := by omega
        have HB : Hid (Below w.heap.size w wr) := (show Below _ _ _ by
          obtain ⟨_, _, _, _, h1, _⟩ := HI.out
          exact h1.bel)
        clear HI
        go_wp2
        go_ret
        exact ⟨rfl, HB.out⟩
      obtain ⟨d, x, r, xs, hst, hrow, hrv, hag, hnb, _⟩ := HI.out
      have HST := Lib.hid hst
      have HROW := Lib.hid hrow
      have HRV := Lib.hid hrv
      have HAG := Lib.hid hag
      have HNB := Lib.hid hnb
      have hb7l : b7 < wr.heap.size := hrow.lt
      obtain ⟨lb, hlb⟩ : ∃ lb, lb = (d.readM (j : Int)).2.1 := ⟨_, rfl⟩
      obtain ⟨er, her⟩ : ∃ er, er = (d.readM (j : Int)).2.2 := ⟨_, rfl⟩
      have hlb64 : lb.length = 64 := by rw [hlb]; exact readM_blk d _ hag.good
      obtain ⟨hsim, hag2⟩ := hag.reads (by omega) (j : Int) (by omega)
      have HSIM := Lib.hid hsim
      have HAG2 := Lib.hid hag2
      have HLB := Lib.hid hlb
      have HER := Lib.hid her
      have HL64 := Lib.hid hlb64
      have HXN : Hid (∀ z ∈ xs, z < wr.heap.size) := (show ∀ z ∈ _, _ from hrv.lt)
      clear hst hrow hrv hag hnb HI hlb her hlb64 hsim hag2
      go_wp2_with fail
      refine (st_read (i := 0) (j : Int) HST.out rfl).mono ?_
      rintro e w6 ⟨rfl, hs, hkp⟩
      rw [← HLB.out]
      rw [← HER.out]
      have S6 : Hid (St w w6 (b7 :: xs) [(g, (d.readM (j : Int)).1)]) := hs
      have R6_7 := Lib.hid (Row.kept HROW.out hkp (by simp))
      have RV6 := Lib.hid (HRV.out.kept hkp (fun b hb => by simp [hb]))
      have HRN := Lib.hid (Row.new w6 39 (bv nought))
      have hz6 : b7 < w6.heap.size := S6.out.lt _ (by simp)
      have hz6x : ∀ z ∈ xs, z < w6.heap.size := fun z hz => S6.out.lt _ (by simp [hz])
      clear hs hkp HST HROW HRV HXN hb7l
      go_wp2_with (first
        | (with_reducible refine wpList_store_in (op := ⟨none, _, _, _, _, _⟩) ?_ 39 (.tmp 15) (.tmp 87) (by rfl) w6.heap.size 0 (bv lb) ?_ ?_ 39 (bv nought) ?_ ?_ bv_one ?_ ?_))
      all_goals try (first | rfl | exact HRN.out | (rw [bv_length, HL64.out]; exact size39) | (rw [bv_length, bv_length, HL64.out]; decide))
      intro w7 hr7 hg7
      rw [splice_all _ _ (by rw [bv_length, bv_length, HL64.out]; rfl)] at hr7
      have hb7' : Below w6.heap.size w6 w7 := ((Below.refl _ _).alloc (Nat.le_refl _) _).grown hg7 (by simp) (fun j e => Nat.le_of_eq (Option.some.inj e))
      have S7 := Lib.hid (S6.out.below hb7')
      have R7_7 := Lib.hid (R6_7.out.below hb7' R6_7.out.lt)
      have R7_11 := Lib.hid hr7
      have RV7 := Lib.hid (RV6.out.below hb7')
      have hz7 : w6.heap.size < w7.heap.size := hr7.lt
      clear hr7 hg7 hb7' S6 R6_7 RV6 HRN
      obtain ⟨W8, hW8⟩ : ∃ W8, W8 = w7.alloc (.cells (bv nought).toArray 39) := ⟨_, rfl⟩
      have hb8 : Below w7.heap.size w7 W8 := by rw [hW8]; exact (Below.refl _ _).alloc (Nat.le_refl _) _
      have S8 : Hid (St w W8 (w7.heap.size :: b7 :: xs) [(g, (d.readM (j : Int)).1)]) := (show St _ _ _ _ by rw [hW8]; exact S7.out.alloc _)
      have R8_7 := Lib.hid (R7_7.out.below hb8 R7_7.out.lt)
      have R8_11 := Lib.hid (R7_11.out.below hb8 R7_11.out.lt)
      have R8_13 : Hid (Row W8 w7.heap.size 39 (bv nought)) := (show Row _ _ _ _ by rw [hW8]; exact Row.new w7 _ _)
      have RV8 := Lib.hid (RV7.out.below hb8)
      have hz8 : w7.heap.size < W8.heap.size := R8_13.out.lt
      have HWC := Lib.hid (rread_any x r xs (j : Int) W8 RV8.out (HAG.out.rgood (by omega)))
      have HW8 := Lib.hid hW8
      clear hW8 hb8 S7 R7_7 R7_11 RV7
      go_wp2_with (first
        | (with_reducible refine wpList_load_mid (op := ⟨some 90, _, _, _, _, _⟩) ?_ 31 (.tmp 7) (by rfl) b7 0 ?_ (x.cells r) _ ?_ Try.underlying31 ?_ ?_ ?_))
      all_goals try (first | rfl | (exact (show World.rangeAt (w7.alloc (.cells (bv nought).toArray 39)) b7 0 (x.cells r) by rw [← HW8.out]; exact Row.all R8_7.out)) | exact size31)
      refine Calls.mono (HW8.out ▸ HWC.out) ?_
      rintro e w9 ⟨rfl, hb9⟩
      rw [show (x.readR (j : Int)).2.1 = lb from by rw [HSIM.out, HLB.out], show (x.readR (j : Int)).2.2 = er from by rw [HSIM.out, HER.out]]
      have hb9' : Below W8.heap.size W8 w9 := by rw [HW8.out]; exact hb9
      have hrv9 : RVat w9 xs (x.readR (j : Int)).1 r := (RV8.out.below hb9').turn (read_safe x _).1 (read_safe x _).2
      obtain ⟨d', hd'⟩ : ∃ d', d' = (d.readM (j : Int)).1 := ⟨_, rfl⟩
      obtain ⟨x', hx'⟩ : ∃ x', x' = (x.readR (j : Int)).1 := ⟨_, rfl⟩
      rw [← hx'] at hrv9 ⊢
      have HAG3 : Hid (Agr (k + j + 1) d' x') := (show Agr _ _ _ by rw [hd', hx']; exact HAG2.out)
      have S9 : Hid (St w w9 (w7.heap.size :: b7 :: xs) [(g, d')]) := (show St _ _ _ _ by
        rw [hd']
        exact S8.out.below hb9')
      have R9_7 := Lib.hid (R8_7.out.below hb9' R8_7.out.lt)
      have R9_11 := Lib.hid (R8_11.out.below hb9' R8_11.out.lt)
      have R9_13 := Lib.hid (R8_13.out.below hb9' R8_13.out.lt)
      have RV9 := Lib.hid hrv9
      have HN9 : Hid (b7 ∉ xs ∧ w7.heap.size ∉ xs) := (show _ ∧ _ from ⟨HNB.out, fun hz => by
        have := hz6x _ hz; omega⟩)
      clear hb9 hb9' hrv9 hd' hx' S8 R8_7 R8_11 R8_13 RV8 HWC HW8 HAG2 HSIM HLB HER HNB HAG hz8 hz6x W8
      go_wp2_with (first
        | (with_reducible refine wpList_store_in (op := ⟨none, _, _, _, _, _⟩) ?_ 31 (.tmp 7) (.tmp 93) (by rfl) b7 0 (x'.cells r) ?_ ?_ 31 (x.cells r) ?_ ?_ (cells_one _ _) ?_ ?_))
      all_goals try (first | rfl | exact R9_7.out | exact size31 | exact size39 | (show 0 + 6 ≤ 6; decide) | (show 0 + 64 ≤ 64; decide))
      intro w10 hr hgr
      rw [splice_all _ _ (by rfl)] at hr
      have S10 := Lib.hid (S9.out.grownIn hgr (by simp) hb7)
      have R10_7 := Lib.hid hr
      have R10_11 := Lib.hid (R9_11.out.grown hgr (by simp; omega))
      have R10_13 := Lib.hid (R9_13.out.grown hgr (by simp; omega))
      have RV10 := Lib.hid (RV9.out.grown hgr HN9.out.1)
      clear hr hgr S9 R9_7 R9_11 R9_13 RV9
      go_wp2_with (first
        | (with_reducible refine wpList_store_in (op := ⟨none, _, _, _, _, _⟩) ?_ 39 (.tmp 17) (.tmp 94) (by rfl) w7.heap.size 0 (bv lb) ?_ ?_ 39 (bv nought) ?_ ?_ bv_one ?_ ?_))
      all_goals try (first | rfl | exact R10_13.out | (rw [bv_length, HL64.out]; exact size39) | (rw [bv_length, bv_length, HL64.out]; decide))
      intro w11 hr hgr
      rw [splice_all _ _ (by rw [bv_length, bv_length, HL64.out]; rfl)] at hr
      have S11 := Lib.hid (S10.out.grownIn hgr (by simp) (by omega))
      have R11_7 := Lib.hid (R10_7.out.grown hgr (by simp; omega))
      have R11_11 := Lib.hid (R10_11.out.grown hgr (by simp; omega))
      have R11_13 := Lib.hid hr
      have RV11 := Lib.hid (RV10.out.grown hgr HN9.out.2)
      have HSL : Hid ((Try.prog.info? 39).map (·.size) = some lb.length) := (show _ = _ by rw [HL64.out]; exact size39)
      have I12 : Hid (DoesI w w11 b7 g (k + (j + 1))) := (show DoesI _ _ _ _ _ from ⟨d', x', r, xs, S11.out.less (fun z hz => by simp at hz ⊢; rcases hz with h | h <;> simp [h]), R11_7.out, RV11.out, HAG3.out, HN9.out.1, hb7⟩)
      clear hr hgr S10 R10_7 R10_11 R10_13 RV10 S11 R11_7 RV11 HAG3 HN9
      go_wp2_with (first
        | (with_reducible refine wpList_load_blk_w (op := ⟨some 96, _, _, _, _, _⟩) ?_ 39 (.tmp 15) ?_ w6.heap.size 0 ?_ lb _ (Row.all R11_11.out) Try.underlying39 ?_ HSL.out ?_)
        | (with_reducible refine wpList_load_blk_w (op := ⟨some 97, _, _, _, _, _⟩) ?_ 39 (.tmp 17) ?_ w7.heap.size 0 ?_ lb _ (Row.all R11_13.out) Try.underlying39 ?_ HSL.out ?_)
        | (with_reducible refine wpList_neq_blk (o := ⟨some 98, _, _, _, _, _⟩) ?_ (.tmp 96) (.tmp 97) ?_ lb lb ?_ ?_ HL64.out HL64.out ?_))
      all_goals try (first | rfl)
      go_wp2
      go_roundw
      case rel => exact ⟨j + 1, by omega, by go_num, I12⟩
      case measure => simp [intOf]; omega
  have hkl : k < L.length := by rw [← HLM.out]; exact hlt
  obtain ⟨b, qo, rfl, hbl, hr⟩ := HO.out (by omega)
  obtain ⟨d, x, r, xs, hst, hrow, hrv, hag, hnb, _⟩ := HI.out
  have hget : L[k]? = some L[k] := List.getElem?_eq_getElem hkl
  have hrg := range_below (hr k _ hget) hst.bel hbl
  have hoo := (HOK.out L[k] (List.getElem_mem hkl))
  obtain ⟨om, hom⟩ : ∃ om, om = L[k] := ⟨_, rfl⟩
  rw [← hom] at hrg hoo
  have HST := Lib.hid hst
  have HROW := Lib.hid hrow
  have HRV := Lib.hid hrv
  have HAG := Lib.hid hag
  have HNB := Lib.hid hnb
  have HOO := Lib.hid hoo
  have hdp : d.pend.length ≤ 1000000 := by have := hag.len; omega
  clear hr hget hom hst hrow hrv hag hnb hoo HI
  obtain ⟨kd, a, xb, Ak, nk, ck, lk⟩ := om
  have c0 : wr.cell? ⟨b, qo + k * 4, none⟩ = some (.int .i64 kd) := hrg 0 _ rfl
  have c1 : wr.cell? ⟨b, qo + k * 4 + 1, none⟩ = some (.int .i64 a) := hrg 1 _ rfl
  have c2 : wr.cell? ⟨b, qo + k * 4 + 2, none⟩ = some (.int .u8 (xb.toNat : Int)) := hrg 2 _ rfl
  have c3 : wr.cell? ⟨b, qo + k * 4 + 3, none⟩ = some (.slice Ak nk ck) := hrg 3 _ rfl
  clear hrg
  obtain ⟨WA, hWA⟩ : ∃ WA, WA = wr.alloc (.cells (ocs kd a xb Ak nk ck).toArray 37) := ⟨_, rfl⟩
  have hba : Below wr.heap.size wr WA := by rw [hWA]; exact (Below.refl _ _).alloc (Nat.le_refl _) _
  have SA : Hid (St w WA (wr.heap.size :: b7 :: xs) [(g, d)]) := (show St _ _ _ _ by rw [hWA]; exact HST.out.alloc _)
  have RA10 : Hid (Row WA wr.heap.size 37 (ocs kd a xb Ak nk ck)) := (show Row _ _ _ _ by rw [hWA]; exact Row.new wr _ _)
  have RA7 := Lib.hid (HROW.out.below hba HROW.out.lt)
  have RAV := Lib.hid (HRV.out.below hba)
  have HDC := Lib.hid (st_does ⟨kd, a, xb, Ak, nk, ck, lk⟩ SA.out (i := 0) rfl hdp (HOO.out.below SA.out.bel))
  have HWA := Lib.hid hWA
  have hb7l : b7 < wr.heap.size := HROW.out.lt
  have hgoodd := HAG.out.good
  obtain ⟨lb, hlb⟩ : ∃ lb, lb = (d.doesM ⟨kd, a, xb, Ak, nk, ck, lk⟩).2.1 := ⟨_, rfl⟩
  obtain ⟨er, her⟩ : ∃ er, er = (d.doesM ⟨kd, a, xb, Ak, nk, ck, lk⟩).2.2 := ⟨_, rfl⟩
  have HER := Lib.hid her
  clear her
  have hlb64 : lb.length = 64 := by rw [hlb]; exact does_blk hgoodd _
  obtain ⟨hsim, hag2⟩ := HAG.out.does (by omega) ⟨kd, a, xb, Ak, nk, ck, lk⟩ HOO.out.high
  have HSIM := Lib.hid hsim
  have HAG2 := Lib.hid hag2
  have HLB := Lib.hid hlb
  have HL64 := Lib.hid hlb64
  have HXN : Hid (∀ z ∈ xs, z < wr.heap.size) := (show ∀ z ∈ _, _ from HRV.out.lt)
  clear hWA hba HST HROW HRV hgoodd hlb hlb64 hsim hag2
  go_wp2_with fail
  refine Calls.mono (HWA.out ▸ HDC.out) ?_
  rintro e w6 ⟨rfl, hs, hkp⟩
  rw [← HLB.out]
  rw [← HER.out]
  have S6 : Hid (St w w6 (wr.heap.size :: b7 :: xs) [(g, (d.doesM ⟨kd, a, xb, Ak, nk, ck, lk⟩).1)]) := hs
  have hkp' : Keep w (wr.heap.size :: b7 :: xs) WA w6 := by rw [HWA.out]; exact hkp
  have R6_10 := Lib.hid (Row.kept RA10.out hkp' (by simp))
  have R6_7 := Lib.hid (Row.kept RA7.out hkp' (by simp))
  have RV6 := Lib.hid (RAV.out.kept hkp' (fun b hb => by simp [hb]))
  have HRN := Lib.hid (Row.new w6 39 (bv nought))
  have hz6 : wr.heap.size < w6.heap.size := S6.out.lt _ (by simp)
  clear hs hkp hkp' SA RA10 RA7 RAV HDC HWA c0 c1 c2 c3 WA
  go_wp2_with (first
    | (with_reducible refine wpList_store_in (op := ⟨none, _, _, _, _, _⟩) ?_ 39 (.tmp 11) (.tmp 53) (by rfl) w6.heap.size 0 (bv lb) ?_ ?_ 39 (bv nought) ?_ ?_ bv_one ?_ ?_))
  all_goals try (first | rfl | exact HRN.out | (rw [bv_length, HL64.out]; exact size39) | (rw [bv_length, bv_length, HL64.out]; decide))
  intro w7 hr7 hg7
  rw [splice_all _ _ (by rw [bv_length, bv_length, HL64.out]; rfl)] at hr7
  have hb7' : Below w6.heap.size w6 w7 := ((Below.refl _ _).alloc (Nat.le_refl _) _).grown hg7 (by simp) (fun j e => Nat.le_of_eq (Option.some.inj e))
  have S7 := Lib.hid (S6.out.below hb7')
  have R7_10 := Lib.hid (R6_10.out.below hb7' R6_10.out.lt)
  have R7_7 := Lib.hid (R6_7.out.below hb7' R6_7.out.lt)
  have R7_11 := Lib.hid hr7
  have RV7 := Lib.hid (RV6.out.below hb7')
  have hz7 : w6.heap.size < w7.heap.size := hr7.lt
  clear hr7 hg7 hb7' S6 R6_10 R6_7 RV6 HRN
  obtain ⟨W8, hW8⟩ : ∃ W8, W8 = w7.alloc (.cells (bv nought).toArray 39) := ⟨_, rfl⟩
  have hb8 : Below w7.heap.size w7 W8 := by rw [hW8]; exact (Below.refl _ _).alloc (Nat.le_refl _) _
  have S8 : Hid (St w W8 (w7.heap.size :: wr.heap.size :: b7 :: xs) [(g, (d.doesM ⟨kd, a, xb, Ak, nk, ck, lk⟩).1)]) := (show St _ _ _ _ by rw [hW8]; exact S7.out.alloc _)
  have R8_10 := Lib.hid (R7_10.out.below hb8 R7_10.out.lt)
  have R8_7 := Lib.hid (R7_7.out.below hb8 R7_7.out.lt)
  have R8_11 := Lib.hid (R7_11.out.below hb8 R7_11.out.lt)
  have R8_13 : Hid (Row W8 w7.heap.size 39 (bv nought)) := (show Row _ _ _ _ by rw [hW8]; exact Row.new w7 _ _)
  have RV8 := Lib.hid (RV7.out.below hb8)
  have hz8 : w7.heap.size < W8.heap.size := R8_13.out.lt
  have HWC := Lib.hid (want_any x r xs ⟨kd, a, xb, Ak, nk, ck, lk⟩ W8 RV8.out (HAG.out.rgood (by omega)) (HOO.out.below S8.out.bel))
  have HW8 := Lib.hid hW8
  clear hW8 hb8 S7 R7_10 R7_7 R7_11 RV7
  go_wp2_with (first
    | (with_reducible refine wpList_load_mid (op := ⟨some 56, _, _, _, _, _⟩) ?_ 31 (.tmp 7) (by rfl) b7 0 ?_ (x.cells r) _ ?_ Try.underlying31 ?_ ?_ ?_)
    | (with_reducible refine wpList_load_mid (op := ⟨some 57, _, _, _, _, _⟩) ?_ 37 (.tmp 10) (by rfl) wr.heap.size 0 ?_ (ocs kd a xb Ak nk ck) _ ?_ Try.underlying37 ?_ ?_ ?_))
  all_goals try (first | rfl | (exact (show World.rangeAt (w7.alloc (.cells (bv nought).toArray 39)) b7 0 (x.cells r) by rw [← HW8.out]; exact Row.all R8_7.out)) | (exact (show World.rangeAt (w7.alloc (.cells (bv nought).toArray 39)) wr.heap.size 0 (ocs kd a xb Ak nk ck) by rw [← HW8.out]; exact Row.all R8_10.out)) | exact size31 | exact size37)
  refine Calls.mono (HW8.out ▸ HWC.out) ?_
  rintro e w9 ⟨r', xs', rfl, hrv9, hxs9, hb9⟩
  rw [show (x.wantR ⟨kd, a, xb, Ak, nk, ck, lk⟩).2.1 = lb from by rw [HSIM.out, HLB.out], show (x.wantR ⟨kd, a, xb, Ak, nk, ck, lk⟩).2.2 = er from by rw [HSIM.out, HER.out]]
  have hb9' : Below W8.heap.size W8 w9 := by rw [HW8.out]; exact hb9
  have hxs9' : ∀ z ∈ xs', z ∈ xs ∨ W8.heap.size ≤ z := by rw [HW8.out]; exact hxs9
  obtain ⟨d', hd'⟩ : ∃ d', d' = (d.doesM ⟨kd, a, xb, Ak, nk, ck, lk⟩).1 := ⟨_, rfl⟩
  obtain ⟨x', hx'⟩ : ∃ x', x' = (x.wantR ⟨kd, a, xb, Ak, nk, ck, lk⟩).1 := ⟨_, rfl⟩
  rw [← hx'] at hrv9 ⊢
  have HAG3 : Hid (Agr (k + 1) d' x') := (show Agr _ _ _ by rw [hd', hx']; exact HAG2.out)
  have S9 : Hid (St w w9 (w7.heap.size :: b7 :: xs') [(g, d')]) := (show St _ _ _ _ by
    rw [hd']
    refine S8.out.adds hb9' (fun z hz => ?_)
    rcases List.mem_cons.1 hz with rfl | hz
    · exact ⟨.inl (by simp), Nat.lt_of_lt_of_le hz8 hb9'.size⟩
    rcases List.mem_cons.1 hz with rfl | hz
    · exact ⟨.inl (by simp), Nat.lt_of_lt_of_le (by omega) hb9'.size⟩
    · refine ⟨?_, hrv9.lt z hz⟩
      rcases hxs9' z hz with h1 | h1
      · exact .inl (by simp [h1])
      · exact .inr h1)
  have R9_7 := Lib.hid (R8_7.out.below hb9' R8_7.out.lt)
  have R9_11 := Lib.hid (R8_11.out.below hb9' R8_11.out.lt)
  have R9_13 := Lib.hid (R8_13.out.below hb9' R8_13.out.lt)
  have RV9 := Lib.hid hrv9
  have HN9 : Hid (b7 ∉ xs' ∧ w7.heap.size ∉ xs') := (show _ ∧ _ from ⟨fun hz => by
    rcases hxs9' b7 hz with h1 | h1
    · exact HNB.out h1
    · omega, fun hz => by
    rcases hxs9' _ hz with h1 | h1
    · have := HXN.out _ h1; omega
    · omega⟩)
  clear hb9 hb9' hxs9 hxs9' hrv9 hd' hx' S8 R8_10 R8_7 R8_11 R8_13 RV8 HWC HW8 HAG2 HSIM HLB HER HNB HXN HAG HOO hz8 W8
  go_wp2_with (first
    | (with_reducible refine wpList_store_in (op := ⟨none, _, _, _, _, _⟩) ?_ 31 (.tmp 7) (.tmp 59) (by rfl) b7 0 (x'.cells r') ?_ ?_ 31 (x.cells r) ?_ ?_ (cells_one _ _) ?_ ?_))
  all_goals try (first | rfl | exact R9_7.out | exact size31 | exact size39 | (show 0 + 6 ≤ 6; decide) | (show 0 + 64 ≤ 64; decide))
  intro w10 hr hgr
  rw [splice_all _ _ (by rfl)] at hr
  have S10 := Lib.hid (S9.out.grownIn hgr (by simp) hb7)
  have R10_7 := Lib.hid hr
  have R10_11 := Lib.hid (R9_11.out.grown hgr (by simp; omega))
  have R10_13 := Lib.hid (R9_13.out.grown hgr (by simp; omega))
  have RV10 := Lib.hid (RV9.out.grown hgr HN9.out.1)
  clear hr hgr S9 R9_7 R9_11 R9_13 RV9
  go_wp2_with (first
    | (with_reducible refine wpList_store_in (op := ⟨none, _, _, _, _, _⟩) ?_ 39 (.tmp 13) (.tmp 60) (by rfl) w7.heap.size 0 (bv lb) ?_ ?_ 39 (bv nought) ?_ ?_ bv_one ?_ ?_))
  all_goals try (first | rfl | exact R10_13.out | (rw [bv_length, HL64.out]; exact size39) | (rw [bv_length, bv_length, HL64.out]; decide))
  intro w11 hr hgr
  rw [splice_all _ _ (by rw [bv_length, bv_length, HL64.out]; rfl)] at hr
  have S11 := Lib.hid (S10.out.grownIn hgr (by simp) (by omega))
  have R11_7 := Lib.hid (R10_7.out.grown hgr (by simp; omega))
  have R11_11 := Lib.hid (R10_11.out.grown hgr (by simp; omega))
  have R11_13 := Lib.hid hr
  have RV11 := Lib.hid (RV10.out.grown hgr HN9.out.2)
  have HAC := Lib.hid (st_agree S11.out (i := 0) rfl RV11.out HAG3.out (by omega))
  have HSL : Hid ((Try.prog.info? 39).map (·.size) = some lb.length) := (show _ = _ by rw [HL64.out]; exact size39)
  clear hr hgr S10 R10_7 R10_11 R10_13 RV10
  go_wp2_with (first
    | (with_reducible refine wpList_load_blk_w (op := ⟨some 66, _, _, _, _, _⟩) ?_ 39 (.tmp 11) ?_ w6.heap.size 0 ?_ lb _ (Row.all R11_11.out) Try.underlying39 ?_ HSL.out ?_)
    | (with_reducible refine wpList_load_blk_w (op := ⟨some 67, _, _, _, _, _⟩) ?_ 39 (.tmp 13) ?_ w7.heap.size 0 ?_ lb _ (Row.all R11_13.out) Try.underlying39 ?_ HSL.out ?_)
    | (with_reducible refine wpList_neq_blk (o := ⟨some 68, _, _, _, _, _⟩) ?_ (.tmp 66) (.tmp 67) ?_ lb lb ?_ ?_ HL64.out HL64.out ?_)
    | (with_reducible refine wpList_load_mid_w (op := ⟨some 72, _, _, _, _, _⟩) ?_ 31 (.tmp 7) ?_ b7 0 ?_ (x'.cells r') _ (Row.all R11_7.out) Try.underlying31 ?_ ?_ ?_))
  all_goals try (first | rfl | exact size31)
  refine (HAC.out).mono ?_
  rintro e w12 ⟨rfl, hb12⟩
  have I12 : Hid (DoesI w w12 b7 g (k + 1)) := (show DoesI _ _ _ _ _ from ⟨d', x', r', xs', (S11.out.below hb12).less (fun z hz => by simp at hz ⊢; rcases hz with h | h <;> simp [h]), R11_7.out.below hb12 R11_7.out.lt, RV11.out.below hb12, HAG3.out, HN9.out.1, hb7⟩)
  clear hb12 S11 R11_7 R11_11 R11_13 RV11 HAC HAG3 HN9
  go_wp2
  go_roundw
  case rel => exact ⟨k + 1, by omega, by go_num, I12⟩
  case measure => simp [intOf]; omega

theorem resT_DiskDoes : Try.f3.resultTypes = #[4] := by kernel_rfl
set_option maxRecDepth 100000 in
theorem lifted_DiskDoes (os : Os) (started : os.Started) (H : Type) (enc : TypeId × Value → H) :
    ReturnsInHanded {} Try.checked os 3 .any (Rows.diskDoesSpec.pre6 enc Try.prog Try.f3 Rows.diskDoesRow.domain false) (Rows.diskDoesSpec.post enc Try.prog Try.f3 false true false false) := by
  refine Lift.law_lift (C := Try.checked) (s := Rows.diskDoesSpec) (tb := 4) own laidOut started (by kernel_rfl) Try.func3
    (ChangeSpec.witness6 (enc := enc) (C := Try.checked) false ⟨#[], #[.int .i64 0, .slice none 0 0], []⟩ 8 (by kernel_rfl) (by kernel_rfl) (by kernel_rfl) (by kernel_rfl))
    rfl resT_DiskDoes Try.underlying4 (by
      have hr : ∀ t ∈ ([3, 22] : List TypeId), Try.prog.readableRec t = true ∧ t < Try.prog.types.size := by
        intro t ht
        simp only [List.mem_cons, List.not_mem_nil, or_false] at ht
        rcases ht with rfl | rfl <;> exact ⟨by kernel_rfl, of_decide_eq_true (by kernel_rfl)⟩
      intro t ht
      exact hr t (by
        have ht' : t ∈ Try.f3.params.toList := ht
        rw [Try.params3] at ht'
        exact ht')) ?_
  intro W base args ds p hval0 hA0 hsz0
  have hval : ∀ (j : Nat) t v, Try.f3.params[j]? = some t → args[j]? = some v → Value.okWide Try.prog W .any base t v := hval0
  have hA : DataW.TrodAll enc Try.prog W 0 (fun _ => true) true Try.f3.params.toList args.toList ds p := hA0
  have hsz : (DataW.weightsEach Try.prog Try.f3.params.toList ds).all (· ≤ reachBytes) = true := hsz0
  clear hval0 hA0 hsz0
  rw [Try.params3] at hA hval hsz
  obtain ⟨v0, vs0, d0, ds0, p0, q0, hargs, rfl, rfl, h0, r0⟩ := trodAll_cons hA
  obtain ⟨v1, vs1, d1, ds1, p1, q1, rfl, rfl, rfl, h1, r1⟩ := trodAll_cons r0
  obtain ⟨rfl, rfl, rfl⟩ := trodAll_nil r1
  obtain rfl : args = #[v0, v1] := by cases args; simp_all
  obtain ⟨a0, rfl, rfl, rfl, w0⟩ := open_int Try.underlying3 (hval 0 3 v0 rfl rfl) h0
  obtain ⟨A1, n1, c1, os1, rfl, hl1, hlc1, hn1, hm1, ho1, hk1⟩ := open_ops (hval 1 22 v1 rfl rfl) h1 (by rw [List.all_eq_true] at hsz ⊢; intro z hz; exact hsz z (DataW.weights_mem_each (j := 1) (t := 22) (d := d1) rfl rfl z hz))
  exact ⟨rfl, does_walk a0 A1 n1 c1 os1 W hl1 hlc1 hn1 hm1 ho1 hk1⟩

theorem proved_DiskDoes : Rows.DiskDoesSaid :=
  OpenClaim.holds_of_wide 3 Try.f3 rfl rfl rfl rfl rfl rfl rfl ⟨rfl, rfl, rfl, rfl, rfl⟩ rfl rfl rfl rfl rfl (by kernel_rfl) Try.func3 (by kernel_rfl)
    (of_decide_eq_true (by kernel_rfl)) (by unfold Func.isWrapper; first | (rw [if_pos (by decide +kernel)]; kernel_rfl) | (rw [if_neg (by decide +kernel)]; exact ⟨rfl, rfl⟩))
    (fun os started H enc _ => lifted_DiskDoes os started H enc)
end Go.Proofs.Ytbfpadilcfelbaa.Dsk
