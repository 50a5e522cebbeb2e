/-
  DiskLast: without a crash each sector holds what was written last. No condition.
-/
import Derived.Test.YtnaajeklhbjeoaaDevR
namespace Go.Proofs.Ytnaajeklhbjeoaa.Dsk
open Go.ChangeShapes Go.WideShapes Go.ChangeAt Go.RowKit Go.Proofs.Ytnaajeklhbjeoaa.Wd

theorem own : ownKnob Try.prog.godebug = none := by kernel_rfl
theorem laidOut : laidOutB Try.prog = true := by kernel_rfl
def six : List (List UInt8) := List.replicate 6 nought
theorem zero62 (u : World) : (zeroValue 62).run Try.prog u = .ok (.agg (bv six.flatten).toArray) u := by kernel_rfl
theorem wpList_alloc_to {P : Program} {ops : Array Oper} {rest : List Oper} {o : Oper} {a : Act} {w : World} {Q : Exit → Act → World → Prop} (hgd : o.guard = none) (t : TypeId) (ho : o.op = .alloc t) (cs : List Value)
    (hz : (zeroValue t).run P w = .ok (.agg cs.toArray) w) (h : wpList P ops Q rest (a.put o.dst (.pointer (some ⟨w.heap.size, 0, none⟩))) (w.alloc (.cells cs.toArray t))) : wpList P ops Q (o :: rest) a w :=
  wpList_plain hgd fun _ hK => by
    unfold Oper.wp execOp
    simp [ho, Instr.alloc, hz, newVar, newRow, Value.cells]
    exact hK _ _ h
def lastF (l : List (List UInt8)) (os : List OM) : List (List UInt8) := os.foldl (fun l o => if kindM o.k = 1 ∧ 0 ≤ o.a ∧ o.a < 6 then l.set o.a.toNat (blockM o.x) else l) l
theorem lastF_snoc (l : List (List UInt8)) (os : List OM) (o : OM) : lastF l (os ++ [o]) = if kindM o.k = 1 ∧ 0 ≤ o.a ∧ o.a < 6 then (lastF l os).set o.a.toNat (blockM o.x) else lastF l os := by simp [lastF]
theorem lastF_good (os : List OM) : (lastF six os).length = 6 ∧ ∀ b ∈ lastF six os, b.length = 64 := by
  suffices h : ∀ l : List (List UInt8), (l.length = 6 ∧ ∀ b ∈ l, b.length = 64) → ((lastF l os).length = 6 ∧ ∀ b ∈ lastF l os, b.length = 64) by
    exact h six ⟨rfl, fun b hb => by rw [List.eq_of_mem_replicate hb]; rfl⟩
  induction os with
  | nil => intro l h; exact h
  | cons o os ih =>
    intro l h
    refine ih _ ?_
    dsimp only
    split
    · refine ⟨by rw [List.length_set]; exact h.1, fun b hb => ?_⟩
      rcases List.mem_or_eq_of_mem_set hb with hb | rfl
      · exact h.2 b hb
      · exact blockM_len _
    · exact h

set_option maxRecDepth 100000 in
set_option maxHeartbeats 4000000 in
theorem last_walk (A : Option Addr) (n c : Nat) (os : List OM) (w : World) (hl : os.length = n) (hc : n ≤ c) (hA : A = none → c = 0) (hm : c ≤ maxLen) (ho : Opl w w.heap.size A os) (hok : ∀ o ∈ os, OpOk w o) :
    Calls Try.prog 9 #[.slice A n c] w fun e w' => e = .returned (.bool true) ∧ Below w.heap.size w w' := by
  have HM := Lib.hid hm
  have HOS := Lib.hid ho
  have HOKS := Lib.hid hok
  have HLS := Lib.hid hl
  clear hm ho hok hl
  go_enter Try.func9, Try.ntmps9
  go_wp2_with fail
  refine (wakes_any w).mono ?_
  rintro e w0 ⟨rfl, hb0⟩
  have HB0 := Lib.hid hb0
  clear hb0
  go_wp2_with fail
  have ho0 : Opl w0 w0.heap.size A os := fun hp => by
    obtain ⟨b, o, e, hlt, hr⟩ := HOS.out hp
    exact ⟨b, o, e, Nat.lt_of_lt_of_le hlt HB0.out.size, fun i m hm => range_below (hr i m hm) HB0.out hlt⟩
  refine (worn_any A n c os w0 HLS.out hc hA HM.out ho0 (fun o h => (HOKS.out o h).below HB0.out)).mono ?_
  rintro e w1 ⟨g, rfl, F, hD, hF, hb1⟩
  have HD1 := Lib.hid hD
  have HFL := Lib.hid hD.2
  have HFG : Hid (∀ k, F k → w.heap.size ≤ k) := (show ∀ k, _ → _ from fun k hk => Nat.le_trans HB0.out.size (hF k hk))
  have HB1 := Lib.hid (HB0.out.trans (hb1.mono HB0.out.size))
  have HZ := Lib.hid (zero62 w1)
  clear ho0 hD hF hb1 HB0
  go_wp2_with (first
    | (with_reducible refine wpList_alloc_to (o := ⟨some 4, _, _, _, _, _⟩) ?_ 62 ?_ (bv six.flatten) HZ.out ?_))
  all_goals try rfl
  have hr2 := Row.new w1 62 (bv six.flatten)
  have hs2 : (w1.alloc (.cells (bv six.flatten).toArray 62)).heap.size = w1.heap.size + 1 := by simp
  have hb2 : Below w1.heap.size w1 (w1.alloc (.cells (bv six.flatten).toArray 62)) := (Below.refl _ _).alloc (Nat.le_refl _) _
  generalize w1.alloc (.cells (bv six.flatten).toArray 62) = w2 at hr2 hs2 hb2 ⊢
  have HD2 := Lib.hid (HD1.out.below hb2)
  have HB2 := Lib.hid (HB1.out.trans (hb2.mono HB1.out.size))
  have R2 := Lib.hid hr2
  have hs1 : w.heap.size ≤ w1.heap.size := HB1.out.size
  clear hr2 hb2 HD1
  go_wp2_with fail
  refine (few_any A n c w2 hc hA HM.out).mono ?_
  rintro e w3 ⟨rfl, rfl⟩
  obtain ⟨L, hL⟩ : ∃ L, L = os.take 120 := ⟨_, rfl⟩
  have hlen : L.length = min n 120 := by rw [hL, List.length_take, HLS.out, Nat.min_comm]
  have HO : Hid (Opl w w.heap.size A L) := (show Opl _ _ _ _ by rw [hL]; exact HOS.out.take 120)
  have HOK : Hid (∀ o ∈ L, OpOk w o) := (show ∀ o ∈ _, _ from fun o h => HOKS.out o (List.mem_of_mem_take (hL ▸ h)))
  have HWL : Hid (Calm (wornM os) ∧ (wornM os).sec = lastF six L) := (show _ ∧ _ from by rw [hL]; exact worn_last os)
  have hlm : L.length ≤ 120 := by omega
  rw [← hlen]
  obtain ⟨m, hm⟩ : ∃ m, m = L.length := ⟨_, rfl⟩
  rw [← hm]
  rw [← hm] at hlm
  have HLM := Lib.hid hm
  obtain ⟨d, hd⟩ : ∃ d, d = wornM os := ⟨_, rfl⟩
  rw [← hd] at HD2 HWL
  clear hlen hm hA hc hL HOS HOKS HLS HM hd HZ
  go_wp2
  go_loopw [18] (fun i wr => ∃ k : Nat, k ≤ m ∧ i = .int .i64 k ∧ Row wr w1.heap.size 62 (bv (lastF six (L.take k)).flatten) ∧ Hid (Off (fun j => j = w1.heap.size) w3 wr)) (fun i _ => m - (intOf i).toNat)
  case atStart => exact ⟨0, by omega, rfl, R2.out, (show Off _ _ _ from Off.refl _ _)⟩
  case round =>
    obtain ⟨k, hk, rfl, hrow, HOFF⟩ := hrel
    by_cases hlt : k < m
    · have hkl : k < L.length := by rw [← HLM.out]; exact hlt
      obtain ⟨b, q, rfl, hbl, hr⟩ := HO.out (by omega)
      have hget : L[k]? = some L[k] := List.getElem?_eq_getElem hkl
      have hbr : Below w.heap.size w wr := HB2.out.trans (HOFF.out.below (fun j hj => by omega) HB2.out.size)
      have hrg := range_below (hr k _ hget) hbr hbl
      have hstep : L.take (k + 1) = L.take k ++ [L[k]] := List.take_succ_eq_append_getElem hkl
      obtain ⟨om, hom⟩ : ∃ om, om = L[k] := ⟨_, rfl⟩
      rw [← hom] at hrg hstep
      have hsn := lastF_snoc six (L.take k) om
      rw [← hstep] at hsn
      have hgd := lastF_good (L.take k)
      obtain ⟨l, hll⟩ : ∃ l, l = lastF six (L.take k) := ⟨_, rfl⟩
      rw [← hll] at hrow hsn hgd
      have HSN := Lib.hid hsn
      have HL6 := Lib.hid hgd.1
      have HL64 := Lib.hid hgd.2
      have hs3 : w1.heap.size < wr.heap.size := hrow.lt
      have HROW := Lib.hid hrow
      have HBR := Lib.hid hbr
      clear hr hget hom hstep hsn hgd hll hrow hbr
      obtain ⟨kd, a, x, Ak, nk, ck, lk⟩ := om
      have c0 : wr.cell? ⟨b, q + k * 4, none⟩ = some (.int .i64 kd) := hrg 0 _ rfl
      have c1 : wr.cell? ⟨b, q + k * 4 + 1, none⟩ = some (.int .i64 a) := hrg 1 _ rfl
      have c2 : wr.cell? ⟨b, q + k * 4 + 2, none⟩ = some (.int .u8 (x.toNat : Int)) := hrg 2 _ rfl
      have c3 : wr.cell? ⟨b, q + k * 4 + 3, none⟩ = some (.slice Ak nk ck) := hrg 3 _ rfl
      clear hrg
      go_wp2_with fail
      refine (kind_any kd a _ (x.toNat : Int) rfl Ak nk ck _).mono ?_
      rintro e w4 ⟨rfl, hb3⟩
      have r3 := Row.below (Row.new wr 37 (ocs kd a x Ak nk ck)) hb3 (by simp)
      have q1 : w4.cell? ⟨wr.heap.size, 1, none⟩ = some (.int .i64 a) := r3.cell 1
      have q2 : w4.cell? ⟨wr.heap.size, 2, none⟩ = some (.int .u8 (x.toNat : Int)) := r3.cell 2
      have hb03 : Below wr.heap.size wr w4 := ((Below.refl _ _).alloc (Nat.le_refl _) _).trans (hb3.mono (by simp))
      have HROW4 := Lib.hid (HROW.out.below hb03 hs3)
      have HOFF4 := Lib.hid (HOFF.out.trans (Ext.refl _ _ _) (Off.of_below hb03))
      have hs4 : w1.heap.size < w4.heap.size := HROW4.out.lt
      clear hb3 r3 hb03 HROW c0 c1 c2 c3 HOFF
      by_cases hput : kindM kd = 1 ∧ 0 ≤ a ∧ a < 6
      · obtain ⟨hk1, ha0, ha6⟩ := hput
        have HSN2 : Hid (lastF six (L.take (k + 1)) = l.set a.toNat (blockM x)) := (show _ = _ from by rw [HSN.out]; exact if_pos ⟨hk1, ha0, ha6⟩)
        obtain ⟨an, rfl⟩ := Int.eq_ofNat_of_zero_le ha0
        have hfit : an * 64 + (bv (blockM x)).length ≤ (bv l.flatten).length := by
          rw [bv_length, bv_length, blockM_len, flat_len l HL64.out, HL6.out]
          omega
        have HFIT := Lib.hid hfit
        have HSB : Hid ((Try.prog.info? 39).map (·.size) = some (bv (blockM x)).length) := (show _ = _ by rw [bv_length, blockM_len]; exact size39)
        have hk1' : (kindM kd == 1) = true := by simpa using hk1
        rw [hk1]
        clear hfit HSN hk1'
        go_wp2_with fail
        refine wp_region_held_drew (S := fun w' : World => w'.cell? ⟨wr.heap.size, 1, none⟩ = some (.int .i64 (an : Int)) ∧ w'.cell? ⟨wr.heap.size, 2, none⟩ = some (.int .u8 (x.toNat : Int))) (by kernel_rfl) ⟨q1, q2⟩ (fun hHeld => ?_)
        refine wpAnyH_take (i := 0) (oi := ⟨some 35, _, _, _, _, _⟩) (v := ?v0) rfl (by kernel_rfl) (by kernel_rfl) (by kernel_rfl) (fun _ _ _ h => h) (Or.inl ⟨by rfl, ?y0⟩) hHeld ?r0
        case y0 =>
          rintro w' ⟨z1, z2⟩
          go_simp
          try with_reducible rfl
        try simp only [Act.put, List.setIfInBounds_toArray, List.set_cons_zero, List.set_cons_succ]
        refine wpAnyH_take (i := 1) (oi := ⟨some 36, _, _, _, _, _⟩) (v := ?v1) rfl (by kernel_rfl) (by kernel_rfl) (by kernel_rfl) (fun _ _ _ h => h) (Or.inl ⟨by rfl, ?y1⟩) hHeld ?r1
        case y1 =>
          rintro w' ⟨z1, z2⟩
          go_simp
          try with_reducible rfl
        try simp only [Act.put, List.setIfInBounds_toArray, List.set_cons_zero, List.set_cons_succ]
        refine wpAnyH_take (i := 2) (oi := ⟨some 37, _, _, _, _, _⟩) (v := ?v2) rfl (by kernel_rfl) (by kernel_rfl) (by kernel_rfl) (fun _ _ _ h => h) (Or.inl ⟨by rfl, ?y2⟩) hHeld ?r2
        case y2 =>
          rintro w' ⟨z1, z2⟩
          go_simp
          try with_reducible rfl
        try simp only [Act.put, List.setIfInBounds_toArray, List.set_cons_zero, List.set_cons_succ]
        refine wpAnyH_take (i := 3) (oi := ⟨some 38, _, _, _, _, _⟩) (v := ?v3) rfl (by kernel_rfl) (by kernel_rfl) (by kernel_rfl) (fun _ _ _ h => h) (Or.inl ⟨by rfl, ?y3⟩) hHeld ?r3
        case y3 =>
          rintro w' ⟨z1, z2⟩
          go_simp
          try with_reducible rfl
        try simp only [Act.put, List.setIfInBounds_toArray, List.set_cons_zero, List.set_cons_succ]
        refine wpAnyH_ready (rs := [4]) (by kernel_rfl) (by simp) ?_
        refine AllReadyH.cons rfl (fun K hK => ?_) AllReadyH.nil
        go_simp
        refine (block_any x _).mono ?_
        rintro e w5 ⟨rfl, hb5⟩
        have hb5' : Below w4.heap.size w4 w5 := ⟨hb5.os, hb5.tape, hb5.output, hb5.size, hb5.block⟩
        have hs5 : wr.heap.size < w4.heap.size := World.block_lt_of_cell? w4 _ q1
        have d1 : w5.cell? ⟨wr.heap.size, 1, none⟩ = some (.int .i64 (an : Int)) := (hb5'.cell (p := ⟨wr.heap.size, 1, none⟩) hs5).trans q1
        have d2 : w5.cell? ⟨wr.heap.size, 2, none⟩ = some (.int .u8 (x.toNat : Int)) := (hb5'.cell (p := ⟨wr.heap.size, 2, none⟩) hs5).trans q2
        have HROW5 := Lib.hid (HROW4.out.below hb5' hs4)
        have HOFF5 := Lib.hid (HOFF4.out.trans (Ext.refl _ _ _) (Off.of_below hb5'))
        refine hK _ _ ⟨d1, d2⟩ (fun _ => ?_)
        clear hK K hb5 hb5' q1 q2 HROW4 HOFF4 hHeld
        try simp only [Act.put, List.setIfInBounds_toArray, List.set_cons_zero, List.set_cons_succ]
        refine wpAnyH_take (i := 5) (oi := ⟨some 40, _, _, _, _, _⟩) (v := ?v5) rfl (by kernel_rfl) (by kernel_rfl) (by kernel_rfl) (fun _ _ _ h => h) (Or.inl ⟨by rfl, ?y5⟩) ⟨d1, d2⟩ ?r5
        case y5 =>
          rintro w' ⟨z1, z2⟩
          go_simp
          try with_reducible rfl
        try simp only [Act.put, List.setIfInBounds_toArray, List.set_cons_zero, List.set_cons_succ]
        refine wpAnyH_ready (rs := [6]) (by kernel_rfl) (by simp) ?_
        refine AllReadyH.cons rfl (fun K hK => ?_) AllReadyH.nil
        rw [if_pos (by rfl)]
        refine wp_store_mid 39 (.tmp 40) (.tmp 39) rfl w1.heap.size (an * 64) (bv (blockM x)).toArray ?_ rfl ?_ ?_ (all_oneCell_toArray bv_one) ?_
        · first | rfl | (simp [Act.eval]; done)
        · rw [List.size_toArray]; exact Row.there HROW5.out HFIT.out
        · rw [List.size_toArray]; exact HSB.out
        rw [List.toList_toArray]
        have hr6 := Row.setCells (bv (blockM x)) (an * 64) (bv l.flatten) w5 HROW5.out HFIT.out
        rw [flat_set l an (blockM x) HL64.out (blockM_len x) (by rw [HL6.out]; omega)] at hr6
        have hg6 := grown_setCells w1.heap.size (bv (blockM x)) (an * 64) w5
        generalize w5.setCells w1.heap.size (an * 64) (bv (blockM x)) = w6 at hr6 hg6 ⊢
        have hne : some wr.heap.size ≠ some w1.heap.size := fun e => by have := Option.some.inj e; omega
        refine hK _ _ ⟨hg6.cell d1 hne, hg6.cell d2 hne⟩ (fun _ => wpAnyH_done (by kernel_rfl) ?_ _)
        have HR6 : Hid (Row w6 w1.heap.size 62 (bv (lastF six (L.take (k + 1))).flatten)) := (show Row _ _ _ _ by rw [HSN2.out]; exact hr6)
        have HOFF6 := Lib.hid (HOFF5.out.grown hg6 (fun j e => .inl (Option.some.inj e).symm))
        clear hK K hr6 hg6 HROW5 HOFF5 d1 d2
        go_wp2
        go_roundw
        case rel => exact ⟨k + 1, by omega, by go_num, HR6.out, HOFF6⟩
        case measure => simp [intOf]; omega
      · have HSN2 : Hid (lastF six (L.take (k + 1)) = l) := (show _ = _ from by rw [HSN.out]; exact if_neg hput)
        have HR6 : Hid (Row w4 w1.heap.size 62 (bv (lastF six (L.take (k + 1))).flatten)) := (show Row _ _ _ _ by rw [HSN2.out]; exact HROW4.out)
        clear HROW4 HSN HSN2
        by_cases hk1 : kindM kd = 1
        · by_cases ha0 : 0 ≤ a
          · have ha6 : 6 ≤ a := by omega
            clear hput
            rw [hk1]
            go_wp2
            go_roundw
            case rel => exact ⟨k + 1, by omega, by go_num, HR6.out, HOFF4⟩
            case measure => simp [intOf]; omega
          · have ha1 : a < 0 := by omega
            clear hput
            rw [hk1]
            go_wp2
            go_roundw
            case rel => exact ⟨k + 1, by omega, by go_num, HR6.out, HOFF4⟩
            case measure => simp [intOf]; omega
        · clear hput
          go_wp2
          go_roundw
          case rel => exact ⟨k + 1, by omega, by go_num, HR6.out, HOFF4⟩
          case measure => simp [intOf]; omega
    · obtain rfl : k = m := by omega
      rw [List.take_of_length_le (by rw [← HLM.out]; exact Nat.le_refl _)] at hrow
      have hgd := lastF_good L
      have hwl := HWL.out
      obtain ⟨l, hll⟩ : ∃ l, l = lastF six L := ⟨_, rfl⟩
      rw [← hll] at hrow hgd hwl
      have hD := HD2.out.off (F' := fun j => j = w1.heap.size) (fun j hj e => by have := HFL.out j hj; omega) HOFF.out
      have hheld := calm_held hwl.1
      have HROW := Lib.hid hrow
      have HL6 := Lib.hid hgd.1
      have HL64 := Lib.hid hgd.2
      have HBR : Hid (Below w.heap.size w wr) := (show Below _ _ _ from HB2.out.trans (HOFF.out.below (fun j hj => by omega) HB2.out.size))
      have HH : Hid (d.heldM.2 = l) := (show _ = _ from hheld.2.trans hwl.2)
      have HS6 : Hid (d.sec.length = 6) := (show _ = _ by rw [hwl.2]; exact hgd.1)
      have hs3 : w1.heap.size < wr.heap.size := hrow.lt
      have HDR := Lib.hid hD
      have HNF : Hid (¬ F w1.heap.size) := (show ¬ _ from fun hf => by have := HFL.out _ hf; omega)
      clear hrow hgd hwl hll hD hheld
      go_wp2_with fail
      refine (held_any g d F wr HDR.out).mono ?_
      rintro e w4 ⟨v, rfl, hown, hD4, ho4⟩
      rw [HH.out, HS6.out] at hown
      obtain ⟨Ah, ch, rfl, hnc, hcm, hAn, hblks, hbase⟩ := own_blks hown HL6.out HL64.out
      have HROW4 : Hid (Row w4 w1.heap.size 62 (bv l.flatten)) := (show Row _ _ _ _ from (ho4.block _ hs3 HNF.out).trans HROW.out)
      have HB4 := Lib.hid (HBR.out.trans (ho4.below HFG.out HBR.out.size))
      have HBK := Lib.hid hblks
      have hs4 : w1.heap.size < w4.heap.size := HROW4.out.lt
      have hs5 : w.heap.size ≤ w4.heap.size := HB4.out.size
      clear hown hblks hbase hD4 ho4 HDR HROW HBR
      go_wp2
      go_loopw [45] (fun i wr => ∃ k : Nat, k ≤ 6 ∧ i = .int .i64 k ∧ Hid (Below w4.heap.size w4 wr)) (fun i _ => 6 - (intOf i).toNat)
      case atStart => exact ⟨0, by omega, rfl, (show Below _ _ _ from Below.refl _ _)⟩
      case round =>
        obtain ⟨k, hk6, rfl, HBW⟩ := hrel
        rename World => wq
        by_cases hlt : k < 6
        · obtain ⟨gh, oh, rfl, hgh, hrh⟩ := HBK.out (by rw [HL6.out]; omega)
          have hx := hrh k (by rw [HL6.out]; exact hlt)
          have hkl : k < l.length := by rw [HL6.out]; exact hlt
          have e1 : l.getD k [] = l[k] := by simp [List.getD_eq_getElem?_getD, hkl]
          obtain ⟨lk, hlk⟩ : ∃ lk, lk = l[k] := ⟨_, rfl⟩
          rw [e1, ← hlk] at hx
          have hrgh := range_below hx.2 HBW.out hgh
          have hroww := HROW4.out.below HBW.out hs4
          have hrgl : wq.rangeAt w1.heap.size (k * 64) (bv lk) := by
            refine Row.range hroww fun j v hj => ?_
            have hj64 : j < 64 := by have := (List.getElem?_eq_some_iff.1 hj).1; rwa [bv_length, hx.1] at this
            have hfg := flat_get l k j HL64.out hkl hj64
            rw [e1, ← hlk] at hfg
            simp only [bv, List.getElem?_map] at hj ⊢
            rw [hfg]; exact hj
          have HRH := Lib.hid hrgh
          have HRL := Lib.hid hrgl
          have HSZ : Hid ((Try.prog.info? 39).map (·.size) = some lk.length) := (show _ = _ by rw [hx.1]; exact size39)
          have HSB : Hid ((Try.prog.info? 39).map (·.size) = some (bv lk).length) := (show _ = _ by rw [bv_length]; exact HSZ.out)
          have HLK := Lib.hid hx.1
          have HFT : Hid (0 + (bv lk).length ≤ (bv nought).length) := (show _ ≤ _ from Nat.le_of_eq ((Nat.zero_add _).trans ((bv_length _).trans (hx.1.trans rfl))))
          have HRN := Lib.hid (Row.new wq 39 (bv nought))
          have hsq : w1.heap.size < wq.heap.size := hroww.lt
          clear hx e1 hlk hrgh hroww hrgl
          go_wp2_with (first
            | (with_reducible refine wpList_load_blk (op := ⟨some 49, _, _, _, _, _⟩) ?_ 39 (.tmp 48) ?_ gh (oh + k * 64) ?_ lk _ HRH.out Try.underlying39 ?_ HSZ.out ?_)
            | (with_reducible refine wpList_store_in (op := ⟨none, _, _, _, _, _⟩) ?_ 39 (.tmp 8) (.tmp 49) ?_ wq.heap.size 0 (bv lk) ?_ ?_ 39 (bv nought) ?_ HFT.out bv_one HSB.out ?_))
          all_goals try (first | rfl | exact HRN.out)
          intro w7 hr7 hg7
          rw [splice_all (bv nought) (bv lk) (Eq.symm ((bv_length lk).trans (HLK.out.trans rfl)))] at hr7
          have hrg8 := Row.range hr7 (o := 0) (vs := bv lk) fun j v hj => by simpa using hj
          have hbw7 : Below wq.heap.size wq w7 := ((Below.refl _ _).alloc (Nat.le_refl _) _).grown hg7 (by simp) (fun j e => Nat.le_of_eq (Option.some.inj e))
          have hrgl7 := range_below HRL.out hbw7 hsq
          have HBW7 := Lib.hid (HBW.out.trans (hbw7.mono HBW.out.size))
          have hk6i : (k : Int) < 6 := by omega
          clear hr7 hg7 hbw7 HRH HRL HBW HRN
          go_wp2_with fail
          refine wp_region_held_drew (S := fun w' : World => w'.rangeAt wq.heap.size 0 (bv lk) ∧ w'.rangeAt w1.heap.size (k * 64) (bv lk)) (by kernel_rfl) ⟨hrg8, hrgl7⟩ (fun hHeld => ?_)
          refine wpAnyH_take (i := 0) (oi := ⟨some 50, _, _, _, _, _⟩) rfl (by kernel_rfl) (by kernel_rfl) (by kernel_rfl) (fun _ _ _ h => h) (yieldsIf_load_mid (by rfl) 39 (.tmp 8) rfl wq.heap.size 0 ?x0s (bv lk) _ (fun _ hS => hS.1) Try.underlying39 rfl HSB.out) hHeld ?r0s
          case x0s => first | rfl | (simp [Act.eval, go_sem]; done)
          try simp only [Act.put, List.setIfInBounds_toArray, List.set_cons_zero, List.set_cons_succ]
          refine wpAnyH_take (i := 1) (oi := ⟨some 51, _, _, _, _, _⟩) (v := ?v1s) rfl (by kernel_rfl) (by kernel_rfl) (by kernel_rfl) (fun _ _ _ h => h) (Or.inl ⟨by rfl, ?y1s⟩) hHeld ?r1s
          case y1s =>
            rintro w' ⟨z1, z2⟩
            go_simp
            try with_reducible rfl
          try simp only [Act.put, List.setIfInBounds_toArray, List.set_cons_zero, List.set_cons_succ]
          refine wpAnyH_take (i := 2) (oi := ⟨some 52, _, _, _, _, _⟩) (v := ?v2s) rfl (by kernel_rfl) (by kernel_rfl) (by kernel_rfl) (fun _ _ _ h => h) (Or.inl ⟨by rfl, ?y2s⟩) hHeld ?r2s
          case y2s =>
            rintro w' ⟨z1, z2⟩
            go_simp
            try with_reducible rfl
          try simp only [Act.put, List.setIfInBounds_toArray, List.set_cons_zero, List.set_cons_succ]
          refine wpAnyH_take (i := 3) (oi := ⟨some 53, _, _, _, _, _⟩) rfl (by kernel_rfl) (by kernel_rfl) (by kernel_rfl) (fun _ _ _ h => h) (yieldsIf_load_mid (by rfl) 39 (.tmp 52) rfl w1.heap.size (k * 64) ?x3s (bv lk) _ (fun _ hS => hS.2) Try.underlying39 rfl HSB.out) hHeld ?r3s
          case x3s => first | rfl | (simp [Act.eval, go_sem]; done)
          try simp only [Act.put, List.setIfInBounds_toArray, List.set_cons_zero, List.set_cons_succ]
          refine wpAnyH_take (i := 4) (oi := ⟨some 54, _, _, _, _, _⟩) rfl (by kernel_rfl) (by kernel_rfl) (by kernel_rfl) (fun _ _ _ h => h) (yieldsIf_neq_blk (by rfl) (.tmp 50) (.tmp 53) rfl lk lk rfl rfl HLK.out HLK.out) hHeld ?r4s
          try simp only [Act.put, List.setIfInBounds_toArray, List.set_cons_zero, List.set_cons_succ]
          refine wpAnyH_done (by kernel_rfl) ?_ _
          have HBD : Hid (Below w4.heap.size w4 w7.drew) := (show Below _ _ _ from ⟨HBW7.out.os, HBW7.out.tape, HBW7.out.output, HBW7.out.size, HBW7.out.block⟩)
          clear hrg8 hrgl7 hHeld
          go_wp2
          go_roundw
          case rel => exact ⟨k + 1, by omega, by go_num, HBD⟩
          case measure => simp [intOf]; omega
        · obtain rfl : k = 6 := by omega
          have HBE := Lib.hid (HB4.out.trans (HBW.out.mono hs5))
          go_wp2
          go_ret
          exact ⟨rfl, HBE.out⟩

theorem resT_DiskLast : Try.f9.resultTypes = #[4] := by kernel_rfl
set_option maxRecDepth 100000 in
theorem lifted_DiskLast (os : Os) (started : os.Started) (H : Type) (enc : TypeId × Value → H) :
    ReturnsInHanded {} Try.checked os 9 .any (Rows.diskLastSpec.pre6 enc Try.prog Try.f9 Rows.diskLastRow.domain false) (Rows.diskLastSpec.post enc Try.prog Try.f9 false true false false) := by
  refine Lift.law_lift (C := Try.checked) (s := Rows.diskLastSpec) (tb := 4) own laidOut started (by kernel_rfl) Try.func9
    (ChangeSpec.witness6 (enc := enc) (C := Try.checked) false ⟨#[], #[.slice none 0 0], []⟩ 8 (by kernel_rfl) (by kernel_rfl) (by kernel_rfl) (by kernel_rfl))
    rfl resT_DiskLast Try.underlying4 (by
      have hr : ∀ t ∈ ([22] : List TypeId), Try.prog.readableRec t = true ∧ t < Try.prog.types.size := by
        intro t ht
        simp only [List.mem_cons, List.not_mem_nil, or_false] at ht
        rcases ht with rfl <;> exact ⟨by kernel_rfl, of_decide_eq_true (by kernel_rfl)⟩
      intro t ht
      exact hr t (by
        have ht' : t ∈ Try.f9.params.toList := ht
        rw [Try.params9] at ht'
        exact ht')) ?_
  intro W base args ds p hval0 hA0 hsz0
  have hval : ∀ (j : Nat) t v, Try.f9.params[j]? = some t → args[j]? = some v → Value.okWide Try.prog W .any base t v := hval0
  have hA : DataW.TrodAll enc Try.prog W 0 (fun _ => true) true Try.f9.params.toList args.toList ds p := hA0
  have hsz : (DataW.weightsEach Try.prog Try.f9.params.toList ds).all (· ≤ reachBytes) = true := hsz0
  clear hval0 hA0 hsz0
  rw [Try.params9] at hA hval hsz
  obtain ⟨v0, vs0, d0, ds0, p0, q0, hargs, rfl, rfl, h0, r0⟩ := trodAll_cons hA
  obtain ⟨rfl, rfl, rfl⟩ := trodAll_nil r0
  obtain rfl : args = #[v0] := by cases args; simp_all
  obtain ⟨A0, n0, c0, os0, rfl, hl0, hlc0, hn0, hm0, ho0, hk0⟩ := open_ops (hval 0 22 v0 rfl rfl) h0 (by rw [List.all_eq_true] at hsz ⊢; intro z hz; exact hsz z (DataW.weights_mem_each (j := 0) (t := 22) (d := d0) rfl rfl z hz))
  exact ⟨rfl, last_walk A0 n0 c0 os0 W hl0 hlc0 hn0 hm0 ho0 hk0⟩

theorem proved_DiskLast : Rows.DiskLastSaid :=
  OpenClaim.holds_of_wide 9 Try.f9 rfl rfl rfl rfl rfl rfl rfl ⟨rfl, rfl, rfl, rfl, rfl⟩ rfl rfl rfl rfl rfl (by kernel_rfl) Try.func9 (by kernel_rfl)
    (of_decide_eq_true (by kernel_rfl)) (by unfold Func.isWrapper; first | (rw [if_pos (by decide +kernel)]; kernel_rfl) | (rw [if_neg (by decide +kernel)]; exact ⟨rfl, rfl⟩))
    (fun os started H enc _ => lifted_DiskLast os started H enc)
end Go.Proofs.Ytnaajeklhbjeoaa.Dsk
