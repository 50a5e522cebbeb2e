/-
  DiskSafe: nothing that was synced is lost by a crash, all that is kept lives, and each sector holds something that it held. No condition.
-/
import Derived.Test.YtbfpadilcfelbaaDevS1
import Derived.Deep.QuietTactic
import Derived.BigQuiet
namespace Go.Proofs.Ytbfpadilcfelbaa.Dsk
open Go.ChangeShapes Go.WideShapes Go.ChangeAt Go.RowKit Go.Proofs.Ytbfpadilcfelbaa.Wd

theorem own : ownKnob Try.prog.godebug = none := by kernel_rfl
theorem laidOut : laidOutB Try.prog = true := by kernel_rfl
theorem make_bools (n : Nat) (hn : n ≤ 1000000) (u : World) : (Instr.makeSlice 35 (.int .i64 (n : Int)) (.int .i64 (n : Int))).run Try.prog u =
    .ok (.slice (some ⟨u.heap.size, 0, none⟩) n n) (u.alloc (.cells (madeCells #[.bool false] n) 4)) := by
  obtain ⟨i0, hi, hz0, hz1, hz2⟩ := info_parts info4
  have h := run_make (P := Try.prog) u 35 4 i0 (.bool false) Try.underlying35 hi hz0 .i64 .i64 (n : Int) (n : Int) (by omega) (Int.le_refl _) (by rw [hz2]; omega) (by omega)
  rw [hz1, Int.toNat_natCast, Nat.mul_one] at h
  exact h
theorem bools_rep (n : Nat) (b : Bool) : bools (List.replicate n b) = List.replicate n (Value.bool b) := by simp [bools]
theorem fill_set (z m : Nat) (h : z < m) : (List.replicate z (Value.bool true) ++ List.replicate (m - z) (Value.bool false)).set z (Value.bool true) = List.replicate (z + 1) (Value.bool true) ++ List.replicate (m - (z + 1)) (Value.bool false) := by
  rw [List.set_append_right _ _ (by simp), List.length_replicate, Nat.sub_self, show m - z = m - (z + 1) + 1 from by omega, List.replicate_succ, List.set_cons_zero, List.replicate_succ']
  simp
theorem one_set (j : Nat) : (List.replicate (j + 1) (Value.bool false)).set j (Value.bool true) = bools (oneM j) := by
  rw [List.replicate_succ', List.set_append_right _ _ (by simp), List.length_replicate, Nat.sub_self, List.set_cons_zero]
  simp [bools, oneM]
theorem Opl.more {w : World} {B B' : Nat} {A : Option Addr} {os : List OM} (h : Opl w B A os) (hB : B ≤ B') : Opl w B' A os := fun hp => by
  obtain ⟨b, o, e, hlt, hr⟩ := h hp
  exact ⟨b, o, e, by omega, hr⟩
theorem Vs.more {w : World} {B B' : Nat} {A : Option Addr} {vs : List Value} (h : Vs w B A vs) (hB : B ≤ B') : Vs w B' A vs := fun hp => by
  obtain ⟨b, o, e, hlt, hr⟩ := h hp
  exact ⟨b, o, e, by omega, hr⟩
theorem yieldsIf_eql_blk {ops : Array Oper} {S : World → Prop} {o : Oper} {a : Act} (hw : Region.wanted o (yielded ops a.tmps) = true) (x y : Operand) (ho : o.op = .binOp .eql 39 x y 39) (l m : List UInt8) (hx : a.eval x = blk l) (hy : a.eval y = blk m) (hl : l.length = 64) (hm : m.length = 64) :
    YieldsIf Try.prog ops S o (.bool (decide (l = m))) a :=
  Or.inl ⟨hw, fun w _ => by
    have hr := run_eql_blk w x y l m hl hm
    rw [Sem.run_bind] at hr
    unfold execOp
    simp only [ho, hx, hy, Sem.run_bind]
    revert hr
    generalize (eqGuard .eql 39 x y (blk l) (blk m)).run Try.prog w = r
    intro hr
    cases r with
    | halt e u => simp [Result.andThen] at hr
    | ok z u =>
      simp only [Result.andThen_ok] at hr ⊢
      rw [hr]
      rfl⟩
/-- what the last loops keep -/
structure Room (w0 w : World) (xg xw xp : Nat) (L : List (Nat × DM)) (d : DM) (got was : List (List UInt8)) : Prop where
  st : St w0 w [xg, xw, xp] L
  p : Row w xp 3 (pints d)
  was : Blks w w.heap.size (some ⟨xw, 0, none⟩) was
  got : Blks w w.heap.size (some ⟨xg, 0, none⟩) got
theorem Room.to {w0 w w' : World} {xg xw xp : Nat} {L : List (Nat × DM)} {d : DM} {got was : List (List UInt8)} (h : Room w0 w xg xw xp L d got was) (hs : St w0 w' [xg, xw, xp] L) (hk : Keep w0 [xg, xw, xp] w w') : Room w0 w' xg xw xp L d got was :=
  ⟨hs, Row.kept h.p hk (by simp), h.was.kept hk (by simp), h.got.kept hk (by simp)⟩
theorem Room.drew {w0 w : World} {xg xw xp : Nat} {L : List (Nat × DM)} {d : DM} {got was : List (List UInt8)} (h : Room w0 w xg xw xp L d got was) : Room w0 w.drew xg xw xp L d got was := by
  have hb : Below w.heap.size w w.drew := ⟨rfl, rfl, rfl, Nat.le_refl _, fun _ _ => rfl⟩
  exact h.to (h.st.below hb) (Keep.of_below hb h.st.xlt)
/-- worn's disk, its sectors read -/
structure Rd (d : DM) : Prop where
  calm : Calm d
  good : Good d
  inv : Inv d
  six : d.sec.length = 6
  few : d.pend.length ≤ 120
theorem worn_rd (os : List OM) : Rd (wornM os) := by
  obtain ⟨h1, h2⟩ := worn_last os
  obtain ⟨h3, h4⟩ := worn_inv os
  refine ⟨h1, h3, h4, ?_, ?_⟩
  · rw [h2]
    have : ∀ (l : List OM) (s : List (List UInt8)), (l.foldl (fun l o => if kindM o.k = 1 ∧ 0 ≤ o.a ∧ o.a < 6 then l.set o.a.toNat (blockM o.x) else l) s).length = s.length := by
      intro l
      induction l with
      | nil => intro s; rfl
      | cons o l ih => intro s; rw [List.foldl_cons, ih]; split <;> simp
    unfold lastM
    rw [this]; rfl
  · have := wornF_pend (os.take 120) (DM.new 6)
    have h5 : (wornF (DM.new 6) (os.take 120)).pend.length ≤ 0 + (os.take 120).length := this
    rw [List.length_take] at h5
    show (wornF (DM.new 6) (os.take 120)).pend.length ≤ 120
    omega
theorem Rd.held {d : DM} (h : Rd d) : Rd d.heldM.1 ∧ d.heldM.2 = d.sec ∧ d.heldM.1.sec = d.sec ∧ d.heldM.1.pend = d.pend := by
  obtain ⟨h1, h2⟩ := calm_held h.calm
  have hs : d.heldM.1.sec = d.sec := readsM_sec d _
  have hp : d.heldM.1.pend = d.pend := readsM_pend d _
  refine ⟨⟨h1, ?_, h.inv.as hs hp, by rw [hs]; exact h.six, by rw [hp]; exact h.few⟩, h2, hs, hp⟩
  have key : ∀ k, k ≤ d.sec.length → Good (d.readsM k).1 := by
    intro k
    induction k with
    | zero => intro _; exact h.good
    | succ k ih =>
      intro hk
      have hc := (calm_reads h.calm k (by omega)).1
      rw [readsM_succ]
      have e := calm_good hc (ih (by omega)) ⟨0, (k : Int), 0, none, 0, 0, []⟩ (by show kindM 0 < 3; decide +kernel)
      rw [does_0 _ _ (by show kindM 0 = 0; decide +kernel)] at e
      exact e
  exact key d.sec.length (Nat.le_refl _)

section
variable {H : Type} {enc : TypeId × Value → H}
theorem open_bsv {W : World} {v : Value} {d : DataW H} {ps : List MemPlace} {base : Nat} (hval : Value.okWide Try.prog W .any base 35 v) (h : DataW.Trod enc Try.prog W 0 (fun _ => true) true 35 v d ps) (hw : (d.weights Try.prog 35).all (· ≤ reachBytes) = true) :
    ∃ A n c l, v = .slice A n c ∧ l.length = n ∧ n ≤ c ∧ (A = none → c = 0) ∧ c ≤ 140737488351232 ∧ Vs W W.heap.size A (bools l) := by
  obtain ⟨a0, len0, cap0, rfl⟩ := okWide_slice Try.underlying35 hval
  obtain ⟨fuel, hf⟩ := h
  have hf' : DataW.trod enc Try.prog W 0 (fun _ => true) true fuel 35 [.slice a0 len0 cap0] = some (d, ps) := hf
  obtain ⟨A, n, c, l, hcs, hl, hnc, hA, hv, hr⟩ := open_bs hf'
  simp only [List.cons.injEq, and_true] at hcs
  exact ⟨A, n, c, l, hcs, hl, hnc, hA, hr hw, hv⟩
end

set_option maxRecDepth 100000 in
set_option maxHeartbeats 8000000 in
theorem safe_walk (A A1 : Option Addr) (n c n1 c1 : Nat) (os : List OM) (kp : List Bool) (w : World) (hl : os.length = n) (hc : n ≤ c) (hA : A = none → c = 0) (hm : c ≤ maxLen) (ho : Opl w w.heap.size A os) (hok : ∀ o ∈ os, OpOk w o)
    (hl1 : kp.length = n1) (hv1 : Vs w w.heap.size A1 (bools kp)) :
    Calls Try.prog 5 #[.slice A n c, .slice A1 n1 c1] w fun e w' => e = .returned (.bool true) ∧ Below w.heap.size w w' := by
  have HM := Lib.hid hm
  have HOS := Lib.hid ho
  have HOKS := Lib.hid hok
  have HLS := Lib.hid hl
  have HK1 := Lib.hid hl1
  have HV1 := Lib.hid hv1
  clear hm ho hok hl hl1 hv1
  go_enter Try.func5, Try.ntmps5
  go_wp2_with fail
  refine (wakes_any w).mono ?_
  rintro e w0 ⟨rfl, hb0⟩
  have HB0 := Lib.hid hb0
  clear hb0
  go_wp2_with fail
  refine (worn_any A n c os w0 HLS.out hc hA HM.out ((HOS.out.below HB0.out).more HB0.out.size) (fun o h => (HOKS.out o h).below HB0.out)).mono ?_
  rintro e w1 ⟨g, rfl, F, hD, hF, hb1⟩
  have S1 : Hid (St w w1 [] [(g, wornM os)]) := (show St _ _ _ _ from ⟨Many.more (L := []) Many.nil hb1 HB0.out.size (fun k hk => by rcases hk with hk | hk; cases hk; have := HB0.out.size; omega) hD hF, (fun x hx => by cases hx), HB0.out.trans (hb1.mono HB0.out.size)⟩)
  have R0 := Lib.hid (worn_rd os)
  clear hD hF hb1 HB0 HOS HOKS HLS HM
  generalize wornM os = d0 at S1 R0
  obtain ⟨h1, h2, h3, h4⟩ := R0.out.held
  obtain ⟨d1, hd1⟩ : ∃ d1, d1 = d0.heldM.1 := ⟨_, rfl⟩
  rw [← hd1] at h1 h3 h4
  have R1 := Lib.hid h1
  have HH0 : Hid (d0.heldM = (d1, d1.sec)) := (show _ = _ by rw [h3, ← h2, hd1])
  have six0 : d0.sec.length = 6 := R0.out.six
  clear h1 h2 h3 h4 hd1
  go_wp2_with fail
  refine (st_held (i := 0) S1.out rfl).mono ?_
  rintro e w2 ⟨xn, cn, rfl, hbn, hs, hkp⟩
  rw [HH0.out] at hbn hs
  rw [six0]
  have S2 : Hid (St w w2 [xn] [(g, d1)]) := hs
  have NOW2 := Lib.hid hbn
  clear hbn hs hkp S1 HH0 R0 six0
  go_wp2_with fail
  refine (st_copy (i := 0) S2.out rfl (by have := R1.out.few; omega)).mono ?_
  rintro e w3 ⟨ga, rfl, hs, hkp⟩
  have S3 : Hid (St w w3 [xn] [(g, d1), (ga, d1)]) := hs
  have NOW3 := Lib.hid (NOW2.out.kept hkp (by simp))
  clear hs hkp S2 NOW2
  go_wp2_with fail
  refine (st_copy (i := 0) S3.out rfl (by have := R1.out.few; omega)).mono ?_
  rintro e w4 ⟨gs, rfl, hs, hkp⟩
  have S4 : Hid (St w w4 [xn] [(g, d1), (ga, d1), (gs, d1)]) := hs
  have NOW4 := Lib.hid (NOW3.out.kept hkp (by simp))
  clear hs hkp S3 NOW3
  go_wp2_with fail
  refine (st_copy (i := 0) S4.out rfl (by have := R1.out.few; omega)).mono ?_
  rintro e w5 ⟨gn, rfl, hs, hkp⟩
  have S5 : Hid (St w w5 [xn] [(g, d1), (ga, d1), (gs, d1), (gn, d1)]) := hs
  have NOW5 := Lib.hid (NOW4.out.kept hkp (by simp))
  clear hs hkp S4 NOW4
  go_wp2_with fail
  refine (st_pending (i := 0) S5.out rfl (by have := R1.out.few; omega)).mono ?_
  rintro e w6 ⟨xq, rfl, hrow, hs, hkp⟩
  have S6 : Hid (St w w6 [xn] [(g, d1), (ga, d1), (gs, d1), (gn, d1)]) := (show St _ _ _ _ from hs.less (by simp))
  have NOW6 := Lib.hid (NOW5.out.kept hkp (by simp))
  clear hs hkp hrow S5 NOW5
  obtain ⟨m, hmm⟩ : ∃ m, m = d1.pend.length := ⟨_, rfl⟩
  rw [← hmm]
  have hm120 : m ≤ 120 := by have := R1.out.few; omega
  have HMM := Lib.hid hmm
  have hmk := make_bools m (by omega)
  have S7 : Hid (St w (w6.alloc (.cells (madeCells #[.bool false] m) 4)) [w6.heap.size, xn] [(g, d1), (ga, d1), (gs, d1), (gn, d1)]) := S6.out.alloc _
  have NOW7 : Hid (Blks (w6.alloc (.cells (madeCells #[.bool false] m) 4)) (w6.alloc (.cells (madeCells #[.bool false] m) 4)).heap.size (some ⟨xn, 0, none⟩) d1.sec) := NOW6.out.kept (Keep.alloc S6.out _) (by simp)
  have ROW7 : Hid (Row (w6.alloc (.cells (madeCells #[.bool false] m) 4)) w6.heap.size 4 (List.replicate m (Value.bool false))) := Row.made w6 _ _ _
  have hwx : w.heap.size ≤ w6.heap.size := S6.out.bel.size
  have hxn : xn < w6.heap.size := S6.out.lt xn (by simp)
  clear hmm S6 NOW6
  go_wp2
  clear hmk
  go_loopw [43] (fun i wr => ∃ z : Nat, z ≤ m ∧ i = .int .i64 z ∧ Hid (Row wr w6.heap.size 4 (List.replicate z (Value.bool true) ++ List.replicate (m - z) (Value.bool false))) ∧ Hid (St w wr [w6.heap.size, xn] [(g, d1), (ga, d1), (gs, d1), (gn, d1)]) ∧ Hid (Blks wr wr.heap.size (some ⟨xn, 0, none⟩) d1.sec)) (fun i _ => m - (intOf i).toNat)
  case atStart => exact ⟨0, by omega, rfl, by simpa using ROW7, S7, NOW7⟩
  case round =>
    obtain ⟨z, hz, rfl, HR, HS, HN⟩ := hrel
    rename World => wr
    by_cases hlt : z < m
    · have hcell : wr.cell? ⟨w6.heap.size, z, none⟩ = some (Value.bool false) := by
        rw [HR.out.cell, List.getElem?_append_right (by simp), List.length_replicate, Nat.sub_self, List.getElem?_replicate, if_pos (by omega)]
      have hfr := HR.out.frozen z
      clear ROW7 S7 NOW7
      go_wp2
      go_roundw
      case rel => exact ⟨z + 1, by omega, by go_num, (show Row _ _ _ _ by rw [← fill_set z m hlt]; exact HR.out.store z _), HS.out.store (by simp) hwx _, HN.out.kept (Keep.far (w0 := w) (xs := [xn]) (by simp; omega) hwx) (by simp)⟩
      case measure => simp [intOf]; omega
    obtain rfl : z = m := by omega
    clear ROW7 S7 NOW7 hlt hz
    obtain ⟨w7, rfl⟩ : ∃ w7 : World, w7 = wr := ⟨_, rfl⟩
    have S7 := HS
    have NOW7 := HN
    have VS7 : Hid (Vs w7 w7.heap.size (some ⟨w6.heap.size, 0, none⟩) (bools (List.replicate z true))) := (show Vs _ _ _ _ by
      rw [bools_rep]
      have := Row.vs HR.out
      simpa using this)
    clear HS HN HR
    have hcr := crash_all R1.out.inv (List.replicate z true) (fun i hi => by rw [← HMM.out] at hi; simp [List.getD_eq_getElem?_getD, hi])
    obtain ⟨da, hda⟩ : ∃ da, da = d1.crashM (List.replicate z true) := ⟨_, rfl⟩
    rw [← hda] at hcr
    have HDA := Lib.hid hda
    have HCR := Lib.hid hcr
    clear hda hcr
    go_wp2_with fail
    refine (st_crash (i := 1) (some ⟨w6.heap.size, 0, none⟩) z z (List.replicate z true) S7.out rfl (by rw [← HMM.out]; omega) (by simp) VS7.out (fun _ b o s e => by cases e; exact .inl (by simp))).mono ?_
    rintro e w8 ⟨rfl, hs, hkp⟩
    rw [← HDA.out] at hs
    have S8 : Hid (St w w8 [xn] [(g, d1), (ga, da), (gs, d1), (gn, d1)]) := (show St _ _ _ _ from hs.less (by simp))
    have NOW8 := Lib.hid (NOW7.out.kept hkp (by simp))
    clear hs hkp S7 NOW7 VS7
    obtain ⟨dn, hdn⟩ : ∃ dn, dn = d1.crashM [] := ⟨_, rfl⟩
    have HDN := Lib.hid hdn
    clear hdn
    go_wp2_with fail
    refine (st_crash (i := 3) none 0 0 [] S8.out rfl (by rw [← HMM.out]; omega) rfl (fun hp => absurd hp (by simp [bools])) (fun _ b o s e => by cases e)).mono ?_
    rintro e w9 ⟨rfl, hs, hkp⟩
    rw [← HDN.out] at hs
    have S9 : Hid (St w w9 [xn] [(g, d1), (ga, da), (gs, d1), (gn, dn)]) := hs
    have NOW9 := Lib.hid (NOW8.out.kept hkp (by simp))
    clear hs hkp S8 NOW8
    have hsy := calm_sync R1.out.calm R1.out.good.pos
    obtain ⟨d2, hd2⟩ : ∃ d2, d2 = ({ d1 with pend := [] } : DM).tally := ⟨_, rfl⟩
    rw [← hd2] at hsy
    have HSY := Lib.hid hsy
    have hs2 : d2.sec = d1.sec := by rw [hd2]; rfl
    have hp2 : d2.pend = [] := by rw [hd2]; rfl
    have HS2 := Lib.hid hs2
    have HP2 := Lib.hid hp2
    clear hsy hd2 hs2 hp2
    go_wp2_with fail
    refine (st_sync (i := 0) S9.out rfl).mono ?_
    rintro e w10 ⟨rfl, hs, hkp⟩
    rw [HSY.out] at hs ⊢
    have S10 : Hid (St w w10 [xn] [(g, d2), (ga, da), (gs, d1), (gn, dn)]) := hs
    have NOW10 := Lib.hid (NOW9.out.kept hkp (by simp))
    clear hs hkp S9 NOW9
    go_wp2_with fail
    refine (st_crash (i := 0) none 0 0 [] S10.out rfl (by rw [HP2.out]; exact Nat.zero_le _) rfl (fun hp => absurd hp (by simp [bools])) (fun _ b o s e => by cases e)).mono ?_
    rintro e w11 ⟨rfl, hs, hkp⟩
    obtain ⟨d3, hd3⟩ : ∃ d3, d3 = d2.crashM [] := ⟨_, rfl⟩
    have HD3 : Hid (Calm d3 ∧ d3.sec = d1.sec) := (show _ ∧ _ from ⟨by rw [hd3]; exact (crash_calm d2 []).1, by
      rw [hd3]
      show liveM (backM d2.sec d2.pend) d2.pend [] = _
      rw [HP2.out, HS2.out]; rfl⟩)
    rw [← hd3] at hs
    have S11 : Hid (St w w11 [xn] [(g, d3), (ga, da), (gs, d1), (gn, dn)]) := hs
    have NOW11 := Lib.hid (NOW10.out.kept hkp (by simp))
    clear hs hkp S10 NOW10 hd3 HSY HS2 HP2 HDA
    obtain ⟨hc1, hc2⟩ := calm_held HCR.out.1
    rw [HCR.out.2] at hc2
    obtain ⟨da2, hda2⟩ : ∃ da2, da2 = da.heldM.1 := ⟨_, rfl⟩
    have HA2 : Hid (da.heldM = (da2, d1.sec)) := (show _ = _ by rw [hda2, ← hc2])
    have sixa : da.sec.length = 6 := by rw [HCR.out.2]; exact R1.out.six
    have SIX := Lib.hid R1.out.six
    clear hc1 hc2 hda2 HCR
    go_wp2_with fail
    refine (st_held (i := 1) S11.out rfl).mono ?_
    rintro e w12 ⟨xa, ca, rfl, hbn, hs, hkp⟩
    rw [HA2.out] at hbn hs
    rw [sixa]
    have S12 : Hid (St w w12 [xa, xn] [(g, d3), (ga, da2), (gs, d1), (gn, dn)]) := hs
    have NOW12 := Lib.hid (NOW11.out.kept hkp (by simp))
    have HX := Lib.hid hbn
    clear hbn hs hkp S11 NOW11 HA2 sixa
    go_wp2_with fail
    refine (st_same S12.out SIX.out SIX.out HX.out NOW12.out (by omega) (by omega)).mono ?_
    rintro e w13 ⟨rfl, hs, hkp⟩
    rw [decide_eq_true rfl]
    have S13 : Hid (St w w13 [xn] [(g, d3), (ga, da2), (gs, d1), (gn, dn)]) := (show St _ _ _ _ from hs.less (by simp))
    have NOW13 := Lib.hid (NOW12.out.kept hkp (by simp))
    clear hs hkp S12 NOW12 HX
    obtain ⟨hc1, hc2⟩ := calm_held HD3.out.1
    rw [HD3.out.2] at hc2
    obtain ⟨d4, hd4⟩ : ∃ d4, d4 = d3.heldM.1 := ⟨_, rfl⟩
    have HA2 : Hid (d3.heldM = (d4, d1.sec)) := (show _ = _ by rw [hd4, ← hc2])
    have sixa : d3.sec.length = 6 := by rw [HD3.out.2]; exact SIX.out
    clear hc1 hc2 hd4 HD3
    go_wp2_with fail
    refine (st_held (i := 0) S13.out rfl).mono ?_
    rintro e w14 ⟨xa, ca, rfl, hbn, hs, hkp⟩
    rw [HA2.out] at hbn hs
    rw [sixa]
    have S14 : Hid (St w w14 [xa, xn] [(g, d4), (ga, da2), (gs, d1), (gn, dn)]) := hs
    have NOW14 := Lib.hid (NOW13.out.kept hkp (by simp))
    have HX := Lib.hid hbn
    clear hbn hs hkp S13 NOW13 HA2 sixa
    go_wp2_with fail
    refine (st_same S14.out SIX.out SIX.out HX.out NOW14.out (by omega) (by omega)).mono ?_
    rintro e w15 ⟨rfl, hs, hkp⟩
    rw [decide_eq_true rfl]
    have S15 : Hid (St w w15 [] [(g, d4), (ga, da2), (gs, d1), (gn, dn)]) := (show St _ _ _ _ from hs.less (by simp))
    clear hs hkp S14 NOW14 HX
    go_wp2_with fail
    refine (st_pending (i := 2) S15.out rfl (by rw [← HMM.out]; omega)).mono ?_
    rintro e w16 ⟨xp, rfl, hrow, hs, hkp⟩
    rw [← HMM.out]
    have S16 : Hid (St w w16 [xp] [(g, d4), (ga, da2), (gs, d1), (gn, dn)]) := hs
    have P16 := Lib.hid hrow
    clear hs hkp hrow S15
    go_wp2_with fail
    refine (st_copy (i := 2) S16.out rfl (by rw [← HMM.out]; omega)).mono ?_
    rintro e w17 ⟨gt, rfl, hs, hkp⟩
    have S17 : Hid (St w w17 [xp] [(g, d4), (ga, da2), (gs, d1), (gn, dn), (gt, d1)]) := hs
    have P17 := Lib.hid (Row.kept P16.out hkp (by simp))
    clear hs hkp S16 P16
    have hcn := crash_calm d1 []
    rw [← HDN.out] at hcn
    obtain ⟨hc1, hc2⟩ := calm_held hcn.1
    obtain ⟨dn2, hdn2⟩ : ∃ dn2, dn2 = dn.heldM.1 := ⟨_, rfl⟩
    have HA2 : Hid (dn.heldM = (dn2, dn.sec)) := (show _ = _ by rw [hdn2, ← hc2])
    have sixa : dn.sec.length = 6 := by rw [hcn.2.2.2]; exact SIX.out
    have SIXN := Lib.hid sixa
    clear hc1 hc2 hdn2 hcn
    go_wp2_with fail
    refine (st_held (i := 3) S17.out rfl).mono ?_
    rintro e w18 ⟨xw, cw, rfl, hbn, hs, hkp⟩
    rw [HA2.out] at hbn hs
    rw [sixa]
    have S18 : Hid (St w w18 [xw, xp] [(g, d4), (ga, da2), (gs, d1), (gn, dn2), (gt, d1)]) := hs
    have P18 := Lib.hid (Row.kept P17.out hkp (by simp))
    have W18 := Lib.hid hbn
    clear hbn hs hkp S17 P17 HA2 sixa
    obtain ⟨ds, hds⟩ : ∃ ds, ds = d1.crashM kp := ⟨_, rfl⟩
    have HDS := Lib.hid hds
    clear hds
    go_wp2_with fail
    refine (st_crash (i := 2) A1 n1 c1 kp S18.out rfl (by rw [← HMM.out]; omega) HK1.out ((HV1.out.below S18.out.bel).more S18.out.bel.size) (fun h0 b o s e => by
      obtain ⟨b', o', e', hlt, _⟩ := HV1.out (by simpa [bools] using h0)
      rw [e'] at e
      cases e
      exact .inr hlt)).mono ?_
    rintro e w19 ⟨rfl, hs, hkp⟩
    rw [← HDS.out] at hs
    have S19 : Hid (St w w19 [xw, xp] [(g, d4), (ga, da2), (gs, ds), (gn, dn2), (gt, d1)]) := hs
    have P19 := Lib.hid (Row.kept P18.out hkp (by simp))
    have W19 := Lib.hid (W18.out.kept hkp (by simp))
    clear hs hkp S18 P18 W18
    have hcs := crash_calm d1 kp
    rw [← HDS.out] at hcs
    obtain ⟨hc1, hc2⟩ := calm_held hcs.1
    obtain ⟨ds2, hds2⟩ : ∃ ds2, ds2 = ds.heldM.1 := ⟨_, rfl⟩
    have HA2 : Hid (ds.heldM = (ds2, ds.sec)) := (show _ = _ by rw [hds2, ← hc2])
    have sixa : ds.sec.length = 6 := by rw [hcs.2.2.2]; exact SIX.out
    have SIXS := Lib.hid sixa
    have HDS2 : Hid (ds2.pend = [] ∧ ds2.dead = false) := (show _ ∧ _ from ⟨by rw [hds2]; exact (readsM_pend ds _).trans hcs.2.1, by rw [hds2]; exact hc1.1⟩)
    clear hc1 hc2 hds2 hcs
    go_wp2_with fail
    refine (st_held (i := 2) S19.out rfl).mono ?_
    rintro e w20 ⟨xg, cg, rfl, hbn, hs, hkp⟩
    rw [HA2.out] at hbn hs
    rw [sixa]
    obtain ⟨L, hL⟩ : ∃ L, L = [(g, d4), (ga, da2), (gs, ds2), (gn, dn2), (gt, d1)] := ⟨_, rfl⟩
    have S20 : Hid (St w w20 [xg, xw, xp] L) := (show St _ _ _ _ by rw [hL]; exact hs)
    have L4 : Hid (L[4]? = some (gt, d1)) := (show _ = _ by rw [hL]; rfl)
    have L2 : Hid (L[2]? = some (gs, ds2)) := (show _ = _ by rw [hL]; rfl)
    have L5 : Hid (L.length = 5) := (show _ = _ by rw [hL]; rfl)
    have RM20 : Hid (Room w w20 xg xw xp L d1 ds.sec dn.sec) := (show Room _ _ _ _ _ _ _ _ _ from ⟨S20.out, Row.kept P19.out hkp (by simp), W19.out.kept hkp (by simp), hbn⟩)
    clear hbn hs hkp S19 P19 W19 HA2 sixa hL S20
    have HGS : Hid (∀ kk, kk < 6 → (ds.sec.getD kk []).length = 64 ∧ (dn.sec.getD kk []).length = 64) := (show ∀ _, _ from fun kk hkk => by
      obtain ⟨_, _, _, _, h1⟩ := RM20.out.got (by rw [SIXS.out]; omega)
      obtain ⟨_, _, _, _, h2⟩ := RM20.out.was (by rw [SIXN.out]; omega)
      exact ⟨(h1 kk (by rw [SIXS.out]; exact hkk)).1, (h2 kk (by rw [SIXN.out]; exact hkk)).1⟩)
    go_wp2
    go_loopw [99] (fun i wr => ∃ k : Nat, k ≤ 6 ∧ i = .int .i64 k ∧ Hid (Room w wr xg xw xp L d1 ds.sec dn.sec)) (fun i _ => 6 - (intOf i).toNat)
    case atStart => exact ⟨0, by omega, rfl, RM20⟩
    rename World => wr
    obtain ⟨k, hk, rfl, RM⟩ := hrel
    clear RM20
    by_cases hlt6 : k < 6
    case neg =>
      obtain rfl : k = 6 := by omega
      go_wp2_with fail
      refine (st_pending (i := 2) RM.out.st L2.out (by rw [HDS2.out.1]; exact Nat.zero_le _)).mono ?_
      rintro e w30 ⟨x30, rfl, _, hs, hkp⟩
      rw [HDS2.out.1]
      have S30 := Lib.hid hs
      clear hs hkp RM
      go_wp2_with fail
      refine (st_look (i := 2) S30.out L2.out (fun F hF => dead_any gs ds2 F w30 hF.1)).mono ?_
      rintro e w31 ⟨rfl, rfl⟩
      rw [HDS2.out.2]
      go_wp2
      go_ret
      exact ⟨rfl, S30.out.bel⟩
    have hk1 : k < ds.sec.length := by rw [SIXS.out]; exact hlt6
    have hk2 : k < dn.sec.length := by rw [SIXN.out]; exact hlt6
    obtain ⟨lg, hlg⟩ : ∃ lg, lg = ds.sec.getD k [] := ⟨_, rfl⟩
    obtain ⟨lw, hlw⟩ : ∃ lw, lw = dn.sec.getD k [] := ⟨_, rfl⟩
    have hp1 : wr.rangeAt xg (k * 64) (bv lg) := by
      obtain ⟨b, o, e, _, h1⟩ := RM.out.got (by omega)
      cases e
      rw [hlg]; simpa using (h1 k hk1).2
    have hp2 : wr.rangeAt xw (k * 64) (bv lw) := by
      obtain ⟨b, o, e, _, h1⟩ := RM.out.was (by omega)
      cases e
      rw [hlw]; simpa using (h1 k hk2).2
    have hlen1 : lg.length = 64 := by rw [hlg]; exact (HGS.out k hlt6).1
    have hlen2 : lw.length = 64 := by rw [hlw]; exact (HGS.out k hlt6).2
    have HS1 : Hid ((Try.prog.info? 39).map (·.size) = some (bv lg).length) := (show _ = _ by rw [bv_length, hlen1]; exact size39)
    have HS2 : Hid ((Try.prog.info? 39).map (·.size) = some (bv lw).length) := (show _ = _ by rw [bv_length, hlen2]; exact size39)
    have HL1 := Lib.hid hlen1
    have HL2 := Lib.hid hlen2
    have HZ0 : Hid (decide (lg = lw) = fineM d1 kp k 0) := (show _ = _ by rw [fineM_zero, hlg, hlw, HDS.out, HDN.out])
    have HLG := Lib.hid hlg
    have hki : (k : Int) < 6 := by omega
    clear hlen1 hlen2 hlg hlw
    go_wp2_with fail
    refine wp_region_held_drew (S := fun w' : World => w'.rangeAt xg (k * 64) (bv lg) ∧ w'.rangeAt xw (k * 64) (bv lw)) (by kernel_rfl) ⟨hp1, hp2⟩ (fun hHeld => ?_)
    refine wpAnyH_take (i := 0) (oi := ⟨some 102, _, _, _, _, _⟩) (v := ?v0) rfl (by kernel_rfl) (by kernel_rfl) (by kernel_rfl) (fun _ _ _ h => h) (Or.inl ⟨by rfl, ?y0⟩) hHeld ?r0
    case y0 =>
      rintro w' ⟨q0, q1⟩
      go_simp
      try with_reducible rfl
    try simp only [Act.put, List.setIfInBounds_toArray, List.set_cons_zero, List.set_cons_succ]
    refine wpAnyH_take (i := 1) (oi := ⟨some 103, _, _, _, _, _⟩) (v := ?v1) rfl (by kernel_rfl) (by kernel_rfl) (by kernel_rfl) (fun _ _ _ h => h) (Or.inl ⟨by rfl, ?y1⟩) hHeld ?r1
    case y1 =>
      rintro w' ⟨q0, q1⟩
      go_simp
      try with_reducible rfl
    try simp only [Act.put, List.setIfInBounds_toArray, List.set_cons_zero, List.set_cons_succ]
    refine wpAnyH_take (i := 2) (oi := ⟨some 104, _, _, _, _, _⟩) (v := ?v2) rfl (by kernel_rfl) (by kernel_rfl) (by kernel_rfl) (fun _ _ _ h => h) (Or.inl ⟨by rfl, ?y2⟩) hHeld ?r2
    case y2 =>
      rintro w' ⟨q0, q1⟩
      go_simp
      try with_reducible rfl
    try simp only [Act.put, List.setIfInBounds_toArray, List.set_cons_zero, List.set_cons_succ]
    refine wpAnyH_take (i := 3) (oi := ⟨some 105, _, _, _, _, _⟩) rfl (by kernel_rfl) (by kernel_rfl) (by kernel_rfl) (fun _ _ _ h => h) (yieldsIf_load_mid (by rfl) 39 (.tmp 104) rfl xg (k * 64) ?x3 (bv lg) _ (fun _ hS => hS.1) Try.underlying39 rfl HS1.out) hHeld ?r3
    case x3 => first | rfl | (simp [Act.eval, go_sem]; done)
    try simp only [Act.put, List.setIfInBounds_toArray, List.set_cons_zero, List.set_cons_succ]
    refine wpAnyH_take (i := 4) (oi := ⟨some 106, _, _, _, _, _⟩) (v := ?v4) rfl (by kernel_rfl) (by kernel_rfl) (by kernel_rfl) (fun _ _ _ h => h) (Or.inl ⟨by rfl, ?y4⟩) hHeld ?r4
    case y4 =>
      rintro w' ⟨q0, q1⟩
      go_simp
      try with_reducible rfl
    try simp only [Act.put, List.setIfInBounds_toArray, List.set_cons_zero, List.set_cons_succ]
    refine wpAnyH_take (i := 5) (oi := ⟨some 107, _, _, _, _, _⟩) (v := ?v5) rfl (by kernel_rfl) (by kernel_rfl) (by kernel_rfl) (fun _ _ _ h => h) (Or.inl ⟨by rfl, ?y5⟩) hHeld ?r5
    case y5 =>
      rintro w' ⟨q0, q1⟩
      go_simp
      try with_reducible rfl
    try simp only [Act.put, List.setIfInBounds_toArray, List.set_cons_zero, List.set_cons_succ]
    refine wpAnyH_take (i := 6) (oi := ⟨some 108, _, _, _, _, _⟩) (v := ?v6) rfl (by kernel_rfl) (by kernel_rfl) (by kernel_rfl) (fun _ _ _ h => h) (Or.inl ⟨by rfl, ?y6⟩) hHeld ?r6
    case y6 =>
      rintro w' ⟨q0, q1⟩
      go_simp
      try with_reducible rfl
    try simp only [Act.put, List.setIfInBounds_toArray, List.set_cons_zero, List.set_cons_succ]
    refine wpAnyH_take (i := 7) (oi := ⟨some 109, _, _, _, _, _⟩) rfl (by kernel_rfl) (by kernel_rfl) (by kernel_rfl) (fun _ _ _ h => h) (yieldsIf_load_mid (by rfl) 39 (.tmp 108) rfl xw (k * 64) ?x7 (bv lw) _ (fun _ hS => hS.2) Try.underlying39 rfl HS2.out) hHeld ?r7
    case x7 => first | rfl | (simp [Act.eval, go_sem]; done)
    try simp only [Act.put, List.setIfInBounds_toArray, List.set_cons_zero, List.set_cons_succ]
    refine wpAnyH_take (i := 8) (oi := ⟨some 110, _, _, _, _, _⟩) rfl (by kernel_rfl) (by kernel_rfl) (by kernel_rfl) (fun _ _ _ h => h) (yieldsIf_eql_blk (by rfl) (.tmp 105) (.tmp 109) rfl lg lw rfl rfl HL1.out HL2.out) hHeld ?r8
    try simp only [Act.put, List.setIfInBounds_toArray, List.set_cons_zero, List.set_cons_succ]
    refine wpAnyH_take (i := 9) (oi := ⟨some 17, _, _, _, _, _⟩) (v := ?v9) rfl (by kernel_rfl) (by kernel_rfl) (by kernel_rfl) (fun _ _ _ h => h) (Or.inl ⟨by rfl, ?y9⟩) hHeld ?r9
    case y9 =>
      rintro w' ⟨q0, q1⟩
      go_simp
      try with_reducible rfl
    try simp only [Act.put, List.setIfInBounds_toArray, List.set_cons_zero, List.set_cons_succ]
    refine wpAnyH_done (by kernel_rfl) ?_ _
    rw [HZ0.out]
    have RMD : Hid (Room w wr.drew xg xw xp L d1 ds.sec dn.sec) := (show Room _ _ _ _ _ _ _ _ _ from RM.out.drew)
    clear hp1 hp2 hHeld RM HZ0 HS2 HL2
    generalize wr.drew = wq at RMD ⊢
    go_wp2
    go_loopw [17, 113] (fun f i wr => ∃ j : Nat, j ≤ z ∧ i = .int .i64 j ∧ f = .bool (fineM d1 kp k j) ∧ Hid (Room w wr xg xw xp L d1 ds.sec dn.sec)) (fun _ i _ => z - (intOf i).toNat)
    case atStart => exact ⟨0, by omega, rfl, rfl, RMD⟩
    rename World => wi
    obtain ⟨j, hj, rfl, rfl, RI⟩ := hrel
    clear RMD
    by_cases hjz : j < z
    case neg =>
      obtain rfl : j = z := by omega
      have hall : fineM d1 kp k j = true := by rw [HMM.out]; exact fineM_all R1.out.good kp k (by rw [SIX.out]; exact hlt6)
      rw [hall]
      clear hall
      go_wp2
      go_roundw
      case rel => exact ⟨k + 1, by omega, by go_num, RI⟩
      case measure => simp [intOf]; omega
    have hmk := make_bools (j + 1) (by omega)
    push_cast at hmk
    have hBx : w.heap.size ≤ wi.heap.size := RI.out.st.bel.size
    have hxs : wi.heap.size ∉ [xg, xw, xp] := fun hx => by have := RI.out.st.lt _ hx; omega
    have RA : Row (wi.alloc (.cells (madeCells #[.bool false] (j + 1)) 4)) wi.heap.size 4 (List.replicate (j + 1) (Value.bool false)) := Row.made wi _ _ _
    have hcell : (wi.alloc (.cells (madeCells #[.bool false] (j + 1)) 4)).cell? ⟨wi.heap.size, j, none⟩ = some (Value.bool false) := by
      rw [RA.cell, List.getElem?_replicate, if_pos (by omega)]
    have hfr := RA.frozen j
    have harr : (madeCells #[.bool false] (j + 1)).setIfInBounds j (.bool true) = (bools (oneM j)).toArray := by
      rw [show madeCells #[Value.bool false] (j + 1) = (List.replicate (j + 1) (Value.bool false)).toArray from by rw [← toList_madeCells_one], List.setIfInBounds_toArray, one_set]
    have S3 : Hid (St w (wi.alloc (.cells ((madeCells #[.bool false] (j + 1)).setIfInBounds j (.bool true)) 4)) [wi.heap.size, xg, xw, xp] L) := RI.out.st.alloc _
    have R3 : Hid (Row (wi.alloc (.cells ((madeCells #[.bool false] (j + 1)).setIfInBounds j (.bool true)) 4)) wi.heap.size 4 (bools (oneM j))) := (show Row _ _ _ _ by rw [harr]; exact Row.new wi _ _)
    have K3 : Hid (Keep w [xg, xw, xp] wi (wi.alloc (.cells ((madeCells #[.bool false] (j + 1)).setIfInBounds j (.bool true)) 4))) := Keep.alloc RI.out.st _
    clear RA hBx hxs harr
    go_wp2_with fail
    clear hmk hcell hfr
    generalize wi.alloc (.cells ((madeCells #[.bool false] (j + 1)).setIfInBounds j (.bool true)) 4) = w3 at S3 R3 K3 ⊢
    refine (st_copy (i := 4) S3.out L4.out (by rw [← HMM.out]; omega)).mono ?_
    rintro e w4 ⟨gc, rfl, hs, hkp⟩
    have S4 := Lib.hid hs
    have R4 := Lib.hid (Row.kept R3.out hkp (by simp))
    have K4 := Lib.hid (K3.out.trans (hkp.less (by simp)))
    have HI5 : Hid (∀ p : Nat × DM, (L ++ [p])[5]? = some p ∧ ∀ q, (L ++ [p]).set 5 q = L ++ [q]) := (show ∀ _, _ from fun p => ⟨by rw [List.getElem?_append_right (by rw [L5.out]; omega), L5.out]; rfl, fun q => by rw [List.set_append_right _ _ (by rw [L5.out]; omega), L5.out]; rfl⟩)
    clear hs hkp S3 R3 K3
    go_wp2_with fail
    refine (st_crash (i := 5) (some ⟨wi.heap.size, 0, none⟩) (j + 1) (j + 1) (oneM j) S4.out (HI5.out _).1 (by rw [← HMM.out]; omega) (oneM_len j) (Row.vs R4.out) (fun _ b o s e => by cases e; exact .inl (by simp))).mono ?_
    rintro e w5 ⟨rfl, hs, hkp⟩
    rw [(HI5.out _).2] at hs
    have hcc := crash_calm d1 (oneM j)
    obtain ⟨dc, hdc⟩ : ∃ dc, dc = d1.crashM (oneM j) := ⟨_, rfl⟩
    rw [← hdc] at hs hcc
    have S5 := Lib.hid hs
    have K5 := Lib.hid (K4.out.trans (hkp.less (by simp)))
    have HDC := Lib.hid hdc
    have sixc : dc.sec.length = 6 := by rw [hcc.2.2.2]; exact SIX.out
    obtain ⟨_, hrd⟩ := calm_read hcc.1 (k : Int)
    have hrd2 := hrd (by omega) (by rw [sixc]; omega)
    obtain ⟨lb, hlb⟩ : ∃ lb, lb = (dc.readM (k : Int)).2.1 := ⟨_, rfl⟩
    have HLB : Hid (lb = (d1.crashM (oneM j)).sec.getD k []) := (show _ = _ by rw [hlb, hrd2, hdc]; simp)
    have hgdc : Good dc := hs.good (HI5.out _).1
    have hlen3 : lb.length = 64 := by rw [hlb]; exact readM_blk dc _ hgdc
    have HLBR := Lib.hid hlb
    have HL3 := Lib.hid hlen3
    have HS3 : Hid ((Try.prog.info? 39).map (·.size) = some (bv lb).length) := (show _ = _ by rw [bv_length, hlen3]; exact size39)
    have HFT : Hid (0 + (bv lb).length ≤ (bv nought).length) := (show _ ≤ _ by rw [bv_length, bv_length, hlen3]; decide)
    clear hs hkp hcc hdc hrd hrd2 hlb hgdc hlen3 S4 R4 K4 sixc
    go_wp2_with fail
    refine (st_read (i := 5) (k : Int) S5.out (HI5.out _).1).mono ?_
    rintro e w6 ⟨rfl, hs, hkp⟩
    rw [(HI5.out _).2] at hs
    rw [← HLBR.out]
    have RM6 : Hid (Room w w6 xg xw xp L d1 ds.sec dn.sec) := (show Room _ _ _ _ _ _ _ _ _ from RI.out.to (hs.drop.less (by simp)) (K5.out.trans (hkp.less (by simp))))
    clear hs hkp S5 K5 RI HI5 HLBR
    generalize (dc.readM (k : Int)).2.2 = er
    have HRN := Lib.hid (Row.new w6 39 (bv nought))
    go_wp2_with (first
      | (with_reducible refine wpList_store_in (op := ⟨none, _, _, _, _, _⟩) ?_ 39 (.tmp 21) (.tmp 131) ?_ w6.heap.size 0 (bv lb) ?_ ?_ 39 (bv nought) ?_ HFT.out bv_one HS3.out ?_))
    all_goals try (first | rfl | exact HRN.out)
    intro w7 hr7 hg7
    rw [splice_all (bv nought) (bv lb) (by rw [bv_length, bv_length, HL3.out]; rfl)] at hr7
    have hb7 : Below w6.heap.size w6 w7 := ((Below.refl _ _).alloc (Nat.le_refl _) _).grown hg7 (by simp) (fun j e => Nat.le_of_eq (Option.some.inj e))
    have RM7 : Hid (Room w w7 xg xw xp L d1 ds.sec dn.sec) := (show Room _ _ _ _ _ _ _ _ _ from RM6.out.to (RM6.out.st.below hb7) (Keep.of_below hb7 RM6.out.st.xlt))
    have HR7 := Lib.hid hr7
    have HD7 : Hid (∀ n, Room w (w7.drewN n) xg xw xp L d1 ds.sec dn.sec) := (show ∀ _, _ from fun n => RM7.out.to (RM7.out.st.below ⟨rfl, rfl, rfl, Nat.le_refl _, fun _ _ => rfl⟩) (Keep.of_below ⟨rfl, rfl, rfl, Nat.le_refl _, fun _ _ => rfl⟩ RM7.out.st.xlt))
    clear hb7 hg7 hr7 RM6 HRN
    have HFS := Lib.hid (fineM_succ d1 kp k j)
    cases hf : fineM d1 kp k j with
    | true =>
      have HFT2 : Hid (fineM d1 kp k (j + 1) = true) := (show _ = _ by rw [HFS.out, hf]; rfl)
      clear hf HFS
      go_wp2_with fail
      go_quiet (fail)
      go_wp2
      go_roundw
      case rel => exact ⟨j + 1, by omega, by go_num, by rw [HFT2.out], HD7.out _⟩
      case measure => simp [intOf]; omega
    | false =>
      obtain ⟨pj, hpj⟩ : ∃ pj : Int, pj = (d1.pend.getD j noWrite).1 := ⟨_, rfl⟩
      have hcp : w7.cell? ⟨xp, j, none⟩ = some (.int .i64 pj) := by
        have hjl : j < d1.pend.length := by rw [← HMM.out]; exact hjz
        rw [RM7.out.p.cell, hpj]
        simp [pints, List.getD_eq_getElem?_getD, hjl]
      have hji : (j : Int) < (z : Int) := by omega
      rw [hf, Bool.false_or, ← hpj] at HFS
      clear hf
      by_cases hpk : pj = (k : Int)
      case neg =>
        have hpb : (pj == (k : Int)) = false := by simpa using hpk
        have HFT2 : Hid (fineM d1 kp k (j + 1) = false) := (show _ = _ by rw [HFS.out, decide_eq_false hpk]; rfl)
        clear HFS hpj hpk
        go_wp2_with fail
        go_quiet (fail)
        go_wp2
        go_roundw
        case rel => exact ⟨j + 1, by omega, by go_num, by rw [HFT2.out], HD7.out _⟩
        case measure => simp [intOf]; omega
      rw [hpk] at hcp
      have HFT2 : Hid (fineM d1 kp k (j + 1) = decide (lg = lb)) := (show _ = _ by
        rw [HFS.out, decide_eq_true hpk, Bool.true_and, HLG.out, HLB.out, HDS.out])
      have hp1 : w7.rangeAt xg (k * 64) (bv lg) := by
        obtain ⟨b, o, e, _, h1⟩ := RM7.out.got (by omega)
        cases e
        rw [HLG.out]; simpa using (h1 k hk1).2
      have hp3 : w7.rangeAt w6.heap.size 0 (bv lb) := fun j v hj => by rw [Nat.zero_add, HR7.out.cell]; exact hj
      clear HFS hpj hpk
      go_wp2_with fail
      refine wp_region_held_drew (S := fun w' : World => w'.cell? ⟨xp, j, none⟩ = some (.int .i64 (k : Int)) ∧ w'.rangeAt xg (k * 64) (bv lg) ∧ w'.rangeAt w6.heap.size 0 (bv lb)) (by kernel_rfl) ⟨hcp, hp1, hp3⟩ (fun hHeld => ?_)
      refine wpAnyH_take (i := 0) (oi := ⟨some 133, _, _, _, _, _⟩) (v := ?v0b) rfl (by kernel_rfl) (by kernel_rfl) (by kernel_rfl) (fun _ _ _ h => h) (Or.inl ⟨by rfl, ?y0b⟩) hHeld ?r0b
      case y0b =>
        rintro w' ⟨q0, q1, q2⟩
        go_simp
        try with_reducible rfl
      try simp only [Act.put, List.setIfInBounds_toArray, List.set_cons_zero, List.set_cons_succ]
      refine wpAnyH_take (i := 1) (oi := ⟨some 134, _, _, _, _, _⟩) (v := ?v1b) rfl (by kernel_rfl) (by kernel_rfl) (by kernel_rfl) (fun _ _ _ h => h) (Or.inl ⟨by rfl, ?y1b⟩) hHeld ?r1b
      case y1b =>
        rintro w' ⟨q0, q1, q2⟩
        go_simp
        try with_reducible rfl
      try simp only [Act.put, List.setIfInBounds_toArray, List.set_cons_zero, List.set_cons_succ]
      refine wpAnyH_take (i := 2) (oi := ⟨some 135, _, _, _, _, _⟩) (v := ?v2b) rfl (by kernel_rfl) (by kernel_rfl) (by kernel_rfl) (fun _ _ _ h => h) (Or.inl ⟨by rfl, ?y2b⟩) hHeld ?r2b
      case y2b =>
        rintro w' ⟨q0, q1, q2⟩
        go_simp
        try with_reducible rfl
      try simp only [Act.put, List.setIfInBounds_toArray, List.set_cons_zero, List.set_cons_succ]
      refine wpAnyH_take (i := 3) (oi := ⟨some 136, _, _, _, _, _⟩) (v := ?v3b) rfl (by kernel_rfl) (by kernel_rfl) (by kernel_rfl) (fun _ _ _ h => h) (Or.inl ⟨by rfl, ?y3b⟩) hHeld ?r3b
      case y3b =>
        rintro w' ⟨q0, q1, q2⟩
        go_simp
        try with_reducible rfl
      try simp only [Act.put, List.setIfInBounds_toArray, List.set_cons_zero, List.set_cons_succ]
      refine wpAnyH_take (i := 4) (oi := ⟨some 137, _, _, _, _, _⟩) (v := ?v4b) rfl (by kernel_rfl) (by kernel_rfl) (by kernel_rfl) (fun _ _ _ h => h) (Or.inl ⟨by rfl, ?y4b⟩) hHeld ?r4b
      case y4b =>
        rintro w' ⟨q0, q1, q2⟩
        go_simp
        try with_reducible rfl
      try simp only [Act.put, List.setIfInBounds_toArray, List.set_cons_zero, List.set_cons_succ]
      refine wpAnyH_take (i := 5) (oi := ⟨some 138, _, _, _, _, _⟩) (v := ?v5b) rfl (by kernel_rfl) (by kernel_rfl) (by kernel_rfl) (fun _ _ _ h => h) (Or.inl ⟨by rfl, ?y5b⟩) hHeld ?r5b
      case y5b =>
        rintro w' ⟨q0, q1, q2⟩
        go_simp
        try with_reducible rfl
      try simp only [Act.put, List.setIfInBounds_toArray, List.set_cons_zero, List.set_cons_succ]
      refine wpAnyH_take (i := 6) (oi := ⟨some 139, _, _, _, _, _⟩) (v := ?v6b) rfl (by kernel_rfl) (by kernel_rfl) (by kernel_rfl) (fun _ _ _ h => h) (Or.inl ⟨by rfl, ?y6b⟩) hHeld ?r6b
      case y6b =>
        rintro w' ⟨q0, q1, q2⟩
        go_simp
        try with_reducible rfl
      try simp only [Act.put, List.setIfInBounds_toArray, List.set_cons_zero, List.set_cons_succ]
      refine wpAnyH_take (i := 7) (oi := ⟨some 140, _, _, _, _, _⟩) (v := ?v7b) rfl (by kernel_rfl) (by kernel_rfl) (by kernel_rfl) (fun _ _ _ h => h) (Or.inl ⟨by rfl, ?y7b⟩) hHeld ?r7b
      case y7b =>
        rintro w' ⟨q0, q1, q2⟩
        go_simp
        try with_reducible rfl
      try simp only [Act.put, List.setIfInBounds_toArray, List.set_cons_zero, List.set_cons_succ]
      refine wpAnyH_take (i := 8) (oi := ⟨some 141, _, _, _, _, _⟩) (v := ?v8b) rfl (by kernel_rfl) (by kernel_rfl) (by kernel_rfl) (fun _ _ _ h => h) (Or.inl ⟨by rfl, ?y8b⟩) hHeld ?r8b
      case y8b =>
        rintro w' ⟨q0, q1, q2⟩
        go_simp
        try with_reducible rfl
      try simp only [Act.put, List.setIfInBounds_toArray, List.set_cons_zero, List.set_cons_succ]
      refine wpAnyH_take (i := 9) (oi := ⟨some 142, _, _, _, _, _⟩) (v := ?v9b) rfl (by kernel_rfl) (by kernel_rfl) (by kernel_rfl) (fun _ _ _ h => h) (Or.inl ⟨by rfl, ?y9b⟩) hHeld ?r9b
      case y9b =>
        rintro w' ⟨q0, q1, q2⟩
        go_simp
        try with_reducible rfl
      try simp only [Act.put, List.setIfInBounds_toArray, List.set_cons_zero, List.set_cons_succ]
      refine wpAnyH_take (i := 10) (oi := ⟨some 143, _, _, _, _, _⟩) (v := ?v10b) rfl (by kernel_rfl) (by kernel_rfl) (by kernel_rfl) (fun _ _ _ h => h) (Or.inl ⟨by rfl, ?y10b⟩) hHeld ?r10b
      case y10b =>
        rintro w' ⟨q0, q1, q2⟩
        go_simp
        try with_reducible rfl
      try simp only [Act.put, List.setIfInBounds_toArray, List.set_cons_zero, List.set_cons_succ]
      refine wpAnyH_take (i := 11) (oi := ⟨some 144, _, _, _, _, _⟩) (v := ?v11b) rfl (by kernel_rfl) (by kernel_rfl) (by kernel_rfl) (fun _ _ _ h => h) (Or.inl ⟨by rfl, ?y11b⟩) hHeld ?r11b
      case y11b =>
        rintro w' ⟨q0, q1, q2⟩
        go_simp
        try with_reducible rfl
      try simp only [Act.put, List.setIfInBounds_toArray, List.set_cons_zero, List.set_cons_succ]
      refine wpAnyH_take (i := 12) (oi := ⟨some 145, _, _, _, _, _⟩) rfl (by kernel_rfl) (by kernel_rfl) (by kernel_rfl) (fun _ _ _ h => h) (yieldsIf_load_mid (by rfl) 39 (.tmp 144) rfl xg (k * 64) ?x12b (bv lg) _ (fun _ hS => hS.2.1) Try.underlying39 rfl HS1.out) hHeld ?r12b
      case x12b => first | rfl | (simp [Act.eval, go_sem]; done)
      try simp only [Act.put, List.setIfInBounds_toArray, List.set_cons_zero, List.set_cons_succ]
      refine wpAnyH_take (i := 13) (oi := ⟨some 146, _, _, _, _, _⟩) rfl (by kernel_rfl) (by kernel_rfl) (by kernel_rfl) (fun _ _ _ h => h) (yieldsIf_load_mid (by rfl) 39 (.tmp 21) rfl w6.heap.size 0 ?x13b (bv lb) _ (fun _ hS => hS.2.2) Try.underlying39 rfl HS3.out) hHeld ?r13b
      case x13b => first | rfl | (simp [Act.eval, go_sem]; done)
      try simp only [Act.put, List.setIfInBounds_toArray, List.set_cons_zero, List.set_cons_succ]
      refine wpAnyH_take (i := 14) (oi := ⟨some 147, _, _, _, _, _⟩) rfl (by kernel_rfl) (by kernel_rfl) (by kernel_rfl) (fun _ _ _ h => h) (yieldsIf_eql_blk (by rfl) (.tmp 145) (.tmp 146) rfl lg lb rfl rfl HL1.out HL3.out) hHeld ?r14
      try simp only [Act.put, List.setIfInBounds_toArray, List.set_cons_zero, List.set_cons_succ]
      refine wpAnyH_take (i := 15) (oi := ⟨some 148, _, _, _, _, _⟩) (v := ?v15b) rfl (by kernel_rfl) (by kernel_rfl) (by kernel_rfl) (fun _ _ _ h => h) (Or.inl ⟨by rfl, ?y15b⟩) hHeld ?r15b
      case y15b =>
        rintro w' ⟨q0, q1, q2⟩
        go_simp
        try with_reducible rfl
      try simp only [Act.put, List.setIfInBounds_toArray, List.set_cons_zero, List.set_cons_succ]
      refine wpAnyH_take (i := 16) (oi := ⟨some 149, _, _, _, _, _⟩) (v := ?v16b) rfl (by kernel_rfl) (by kernel_rfl) (by kernel_rfl) (fun _ _ _ h => h) (Or.inl ⟨by rfl, ?y16b⟩) hHeld ?r16b
      case y16b =>
        rintro w' ⟨q0, q1, q2⟩
        go_simp
        try with_reducible rfl
      try simp only [Act.put, List.setIfInBounds_toArray, List.set_cons_zero, List.set_cons_succ]
      refine wpAnyH_take (i := 17) (oi := ⟨some 17, _, _, _, _, _⟩) (v := ?v17b) rfl (by kernel_rfl) (by kernel_rfl) (by kernel_rfl) (fun _ _ _ h => h) (Or.inl ⟨by rfl, ?y17b⟩) hHeld ?r17b
      case y17b =>
        rintro w' ⟨q0, q1, q2⟩
        go_simp
        try with_reducible rfl
      try simp only [Act.put, List.setIfInBounds_toArray, List.set_cons_zero, List.set_cons_succ]
      refine wpAnyH_done (by kernel_rfl) ?_ _
      rw [← HFT2.out]
      have RMD : Hid (Room w w7.drew xg xw xp L d1 ds.sec dn.sec) := (show Room _ _ _ _ _ _ _ _ _ from RM7.out.drew)
      clear hp1 hp3 hcp hHeld HFT2 RM7 HD7
      go_wp2
      go_roundw
      case rel => exact ⟨j + 1, by omega, by go_num, rfl, RMD⟩
      case measure => simp [intOf]; omega

theorem resT_DiskSafe : Try.f5.resultTypes = #[4] := by kernel_rfl
set_option maxRecDepth 100000 in
theorem lifted_DiskSafe (os : Os) (started : os.Started) (H : Type) (enc : TypeId × Value → H) :
    ReturnsInHanded {} Try.checked os 5 .any (Rows.diskSafeSpec.pre6 enc Try.prog Try.f5 Rows.diskSafeRow.domain false) (Rows.diskSafeSpec.post enc Try.prog Try.f5 false true false false) := by
  refine Lift.law_lift (C := Try.checked) (s := Rows.diskSafeSpec) (tb := 4) own laidOut started (by kernel_rfl) Try.func5
    (ChangeSpec.witness6 (enc := enc) (C := Try.checked) false ⟨#[], #[.slice none 0 0, .slice none 0 0], []⟩ 8 (by kernel_rfl) (by kernel_rfl) (by kernel_rfl) (by kernel_rfl))
    rfl resT_DiskSafe Try.underlying4 (by
      have hr : ∀ t ∈ ([22, 35] : List TypeId), Try.prog.readableRec t = true ∧ t < Try.prog.types.size := by
        intro t ht
        simp only [List.mem_cons, List.not_mem_nil, or_false] at ht
        rcases ht with rfl | rfl <;> exact ⟨by kernel_rfl, of_decide_eq_true (by kernel_rfl)⟩
      intro t ht
      exact hr t (by
        have ht' : t ∈ Try.f5.params.toList := ht
        rw [Try.params5] at ht'
        exact ht')) ?_
  intro W base args ds p hval0 hA0 hsz0
  have hval : ∀ (j : Nat) t v, Try.f5.params[j]? = some t → args[j]? = some v → Value.okWide Try.prog W .any base t v := hval0
  have hA : DataW.TrodAll enc Try.prog W 0 (fun _ => true) true Try.f5.params.toList args.toList ds p := hA0
  have hsz : (DataW.weightsEach Try.prog Try.f5.params.toList ds).all (· ≤ reachBytes) = true := hsz0
  clear hval0 hA0 hsz0
  rw [Try.params5] at hA hval hsz
  obtain ⟨v0, vs0, d0, ds0, p0, q0, hargs, rfl, rfl, h0, r0⟩ := trodAll_cons hA
  obtain ⟨v1, vs1, d1, ds1, p1, q1, rfl, rfl, rfl, h1, r1⟩ := trodAll_cons r0
  obtain ⟨rfl, rfl, rfl⟩ := trodAll_nil r1
  obtain rfl : args = #[v0, v1] := by cases args; simp_all
  obtain ⟨A0, n0, c0, os0, rfl, hl0, hlc0, hn0, hm0, ho0, hk0⟩ := open_ops (hval 0 22 v0 rfl rfl) h0 (by rw [List.all_eq_true] at hsz ⊢; intro z hz; exact hsz z (DataW.weights_mem_each (j := 0) (t := 22) (d := d0) rfl rfl z hz))
  obtain ⟨A1, n1, c1, l1, rfl, hl1, hlc1, hn1, hb1, hr1⟩ := open_bsv (hval 1 35 v1 rfl rfl) h1 (by rw [List.all_eq_true] at hsz ⊢; intro z hz; exact hsz z (DataW.weights_mem_each (j := 1) (t := 35) (d := d1) rfl rfl z hz))
  exact ⟨rfl, safe_walk A0 A1 n0 c0 n1 c1 os0 l1 W hl0 hlc0 hn0 hm0 ho0 hk0 hl1 hr1⟩

theorem proved_DiskSafe : Rows.DiskSafeSaid :=
  OpenClaim.holds_of_wide 5 Try.f5 rfl rfl rfl rfl rfl rfl rfl ⟨rfl, rfl, rfl, rfl, rfl⟩ rfl rfl rfl rfl rfl (by kernel_rfl) Try.func5 (by kernel_rfl)
    (of_decide_eq_true (by kernel_rfl)) (by unfold Func.isWrapper; first | (rw [if_pos (by decide +kernel)]; kernel_rfl) | (rw [if_neg (by decide +kernel)]; exact ⟨rfl, rfl⟩))
    (fun os started H enc _ => lifted_DiskSafe os started H enc)
end Go.Proofs.Ytbfpadilcfelbaa.Dsk
