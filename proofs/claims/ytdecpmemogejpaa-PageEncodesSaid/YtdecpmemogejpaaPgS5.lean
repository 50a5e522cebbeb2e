/-
  PageEncodes: which pages may be, their bytes and sectors; for every row of pages. No condition.
-/
import Derived.Test.YtdecpmemogejpaaPgV
import Derived.Test.YtdecpmemogejpaaPgO
import Derived.Test.YtdecpmemogejpaaPgX
import Derived.Test.YtdecpmemogejpaaPgH
import Derived.Test.YtdecpmemogejpaaPgI
import Derived.Test.YtdecpmemogejpaaDevE
import Derived.Deep.Cut
import Derived.Deep.CutRange
import Derived.Great.BuildSlice
import Derived.Deep.SlicePairs
namespace Go.Proofs.Ytdecpmemogejpaa.PgEncodes
set_option maxRecDepth 100000
open Go.RowKit Go.Proofs.Ytdecpmemogejpaa.Wd Go.Proofs.Ytdecpmemogejpaa.Oct Go.Proofs.Ytdecpmemogejpaa.Dsk Go.Proofs.Ytdecpmemogejpaa.Rec Go.Proofs.Ytdecpmemogejpaa.Pg Go.ChangeShapes Go.WideShapes Go.ChangeAt

theorem own : ownKnob Try.prog.godebug = none := by kernel_rfl
theorem laidOut : laidOutB Try.prog = true := by kernel_rfl
theorem same_self (n : Int) (l : Nat) (f : Nat → List UInt8) : sameM n l f n l f = true := by simp [sameM, eq4]
theorem PO.grown {w w' : World} {base g : Nat} {sl : Nat → List UInt8} {s : PS} {cs : List Value} (h : PO w base sl s) (hg : w.grownBy w' (some g)) (hr : Row w g 46 cs) : PO w' base sl s := fun j hj => (h j hj).kept hg (own_ne (h j hj) hr (by decide))
/-- both pages of a round, cut short, in memory of their own -/
def Two (w : World) (num : Int) (lsn : Nat) (f : Nat → List UInt8) (t5 t6 : Value) (wx : World) : Prop :=
  ∃ P5 P6 s3 s4, t5 = .pointer (some ⟨P5, 0, none⟩) ∧ t6 = .pointer (some ⟨P6, 0, none⟩) ∧ Row wx P5 46 (pcs num lsn s3) ∧ Row wx P6 46 (pcs num lsn s4) ∧ PgAt wx wx.heap.size (shortS f) s3 ∧ PgAt wx wx.heap.size (shortS f) s4 ∧ Below w.heap.size w wx ∧ P5 ≠ P6

structure Tw (w : World) (Z P5 P6 : Nat) (num : Int) (lsn : Nat) (F : Nat → List UInt8) (s3 s4 : PS) (W : World) : Prop where
  r5 : Row W P5 46 (pcs num lsn s3)
  r6 : Row W P6 46 (pcs num lsn s4)
  p3 : PgAt W Z F s3
  p4 : PgAt W Z F s4
  le : Z ≤ W.heap.size
  l5 : P5 < Z
  l6 : P6 < Z
  hb : Below w.heap.size w W
  wz : w.heap.size ≤ Z
theorem Tw.then {w W W' : World} {Z P5 P6 : Nat} {num : Int} {lsn : Nat} {F : Nat → List UInt8} {s3 s4 : PS} (h : Tw w Z P5 P6 num lsn F s3 s4 W) (hb : Below Z W W') : Tw w Z P5 P6 num lsn F s3 s4 W' :=
  ⟨h.r5.below hb h.l5, h.r6.below hb h.l6, h.p3.below hb, h.p4.below hb, Nat.le_trans h.le hb.size, h.l5, h.l6, h.hb.trans (hb.mono h.wz), h.wz⟩
theorem owns_below {W W' : World} {base : Nat} {e : TypeId} {size n : Nat} {v : Value} {xs : List Value} (h : W.ownsRow base e size v n xs) (hb : Below W.heap.size W W') : W'.ownsRow base e size v n xs := by
  refine ⟨h.1, ?_⟩
  rcases h.2 with hn | ⟨g, cap, cur, rfl, hb2, hg, rest⟩
  · exact .inl hn
  · exact .inr ⟨g, cap, cur, rfl, hb2, (hb.block g (Array.getElem?_eq_some_iff.1 hg).1).trans hg, rest⟩
theorem owns_part {W : World} {base g n cap : Nat} {b : List UInt8} (h : W.ownsRow base 58 64 (.slice (some ⟨g, 0, none⟩) n cap) n (bv b)) (o m : Nat) : W.rangeAt g o (bv ((b.drop o).take m)) := fun j u hu => by
  have hj : (bv b)[o + j]? = some u := by
    simp only [bv, List.getElem?_map, List.getElem?_take, List.getElem?_drop] at hu ⊢
    split at hu
    · exact hu
    · simp at hu
  have := World.ownsRow.cells h rfl (o + j) u hj
  rw [Addr.add_lit, Nat.zero_add] at this
  exact this
/-- a round's page, its bytes, both rows of sectors -/
structure Sx (w : World) (Z P5 P6 : Nat) (num : Int) (lsn : Nat) (F : Nat → List UInt8) (s3 s4 : PS) (pb : List UInt8) (g cap gs caps gr capr : Nat) (W : World) : Prop where
  tw : Tw w Z P5 P6 num lsn F s3 s4 W
  ob : Pg.Own W Z (.slice (some ⟨g, 0, none⟩) 256 cap) pb
  os : W.ownsRow Z 58 64 (.slice (some ⟨gs, 0, none⟩) 4 caps) 4 (bv pb)
  rr : W.ownsRow Z 58 64 (.slice (some ⟨gr, 0, none⟩) 4 capr) 4 (bv pb)
theorem Sx.then {w W W' : World} {Z P5 P6 : Nat} {num : Int} {lsn : Nat} {F : Nat → List UInt8} {s3 s4 : PS} {pb : List UInt8} {g cap gs caps gr capr : Nat} (h : Sx w Z P5 P6 num lsn F s3 s4 pb g cap gs caps gr capr W) (hb : Below W.heap.size W W') : Sx w Z P5 P6 num lsn F s3 s4 pb g cap gs caps gr capr W' :=
  ⟨h.tw.then (hb.mono h.tw.le), h.ob.below hb, owns_below h.os hb, owns_below h.rr hb⟩
theorem wp_neq_blk {w : World} {o : Oper} {a : Act} {K : Act → World → Prop} {Q : Exit → Act → World → Prop} (x y : Operand) (ho : o.op = .binOp .neq 58 x y 58) (l m : List UInt8) (hx : a.eval x = blk l) (hy : a.eval y = blk m) (hl : l.length = 64) (hm : m.length = 64)
    (h : K (a.put o.dst (.bool (!decide (l = m)))) w) : o.wp Try.prog a w K Q := by
  have hr := run_neq_blk w x y l m hl hm
  rw [Sem.run_bind] at hr
  unfold Oper.wp execOp
  simp only [ho, hx, hy, Sem.run_bind]
  revert hr
  generalize (eqGuard .neq 58 x y (blk l) (blk m)).run Try.prog w = r
  intro hr
  cases r with
  | halt e u => simp [Result.andThen] at hr
  | ok z u =>
    simp only [Result.andThen_ok] at hr ⊢
    rw [hr]
    exact h
theorem okN_same {W : World} {Z : Nat} {F : Nat → List UInt8} {s3 s4 : PS} {num : Int} (h3 : PgAt W Z F s3) (h4 : PgAt W Z F s4) : okN num s4.n = okN num s3.n := by
  unfold okN
  simp only [← h3.lens 0 (by omega), ← h3.lens 1 (by omega), ← h3.lens 2 (by omega), ← h3.lens 3 (by omega), ← h4.lens 0 (by omega), ← h4.lens 1 (by omega), ← h4.lens 2 (by omega), ← h4.lens 3 (by omega)]

set_option maxHeartbeats 16000000 in
theorem enc_walk (A : Option Addr) (n c : Nat) (os : List PX) (w : World) (hl : os.length = n) (hnc : n ≤ c) (hc : c ≤ maxLen) (hos : Lift.Many PX.cells 6 w w.heap.size A os) (hok : ∀ o ∈ os, PgOk w o) :
    Calls Try.prog 6 #[.slice A n c] w fun e w' => e = .returned (.bool true) ∧ Below w.heap.size w w' := by
  have mixed : Try.prog.follows .mixedOrders = true := by kernel_rfl
  unfold maxLen at hc
  have HL := Lib.hid hl
  have HOS := Lib.hid hos
  have HOK := Lib.hid hok
  clear hl hos hok
  go_enter Try.func6, Try.ntmps6
  go_wp2_with fail
  refine (wakes_any _).mono ?_
  rintro e w2 ⟨rfl, hb2⟩
  have HB2 := Lib.hid hb2
  clear hb2
  go_wp2_with fail
  go_loopw [19] (fun t19 wr => ∃ i : Nat, i ≤ n ∧ t19 = .int .i64 (i : Int) ∧ Hid (Below w.heap.size w wr)) (fun t19 _ => n - (intOf t19).toNat)
  case atStart => exact ⟨0, by omega, rfl, HB2⟩
  case round =>
    obtain ⟨i, hin, rfl, HE⟩ := hrel
    clear HB2
    by_cases hlt : i < n
    case neg =>
      have h1 : ¬ (i : Int) < (n : Int) := by omega
      go_wp2
      go_ret
      exact ⟨rfl, HE.out⟩
    obtain ⟨wo, hwo⟩ : ∃ wo : World, wo = wr := ⟨_, rfl⟩
    rw [← hwo] at HE ⊢
    clear hwo
    have h1 : (i : Int) < (n : Int) := by omega
    obtain ⟨x, hx⟩ : ∃ x, os[i]? = some x := ⟨_, List.getElem?_eq_getElem (by rw [HL.out]; exact hlt)⟩
    have HXO := Lib.hid (HOK.out x (List.mem_of_getElem? hx))
    obtain ⟨b, o, rfl, hblt, hcx⟩ := HOS.out (by rw [HL.out]; omega)
    have HC : Hid (wo.rangeAt b (o + i * 6) x.cells) := fun j v hj => (HE.out.cell (p := ⟨b, o + i * 6 + j, none⟩) hblt).trans (hcx i x hx j v hj)
    clear hx hcx
    obtain ⟨num, lsn, f, s⟩ := x
    unfold PX.cells pcs at HC
    dsimp only at HC
    have hx0 : wo.cell? ⟨b, o + i * 6, none⟩ = some (.int .i64 num) := HC.out 0 _ rfl
    have hx1 : wo.cell? ⟨b, o + i * 6 + 1, none⟩ = some (.int .u64 (lsn : Int)) := HC.out 1 _ rfl
    have hx2 : wo.cell? ⟨b, o + i * 6 + 2, none⟩ = some (.slice (s.A 0) (s.n 0) (s.c 0)) := HC.out 2 _ rfl
    have hx3 : wo.cell? ⟨b, o + i * 6 + 3, none⟩ = some (.slice (s.A 1) (s.n 1) (s.c 1)) := HC.out 3 _ rfl
    have hx4 : wo.cell? ⟨b, o + i * 6 + 4, none⟩ = some (.slice (s.A 2) (s.n 2) (s.c 2)) := HC.out 4 _ rfl
    have hx5 : wo.cell? ⟨b, o + i * 6 + 5, none⟩ = some (.slice (s.A 3) (s.n 3) (s.c 3)) := HC.out 5 _ rfl
    have hi3 : 0 ≤ (i : Int) := by omega
    go_upto_region 6 with fail
    have HBX := Lib.hid (boxed wo num lsn s)
    unfold pcs at HBX
    generalize wo.alloc (.cells #[.int .i64 num, .int .u64 (lsn : Int), .slice (s.A 0) (s.n 0) (s.c 0), .slice (s.A 1) (s.n 1) (s.c 1), .slice (s.A 2) (s.n 2) (s.c 2), .slice (s.A 3) (s.n 3) (s.c 3)] 46) = w6 at HBX ⊢
    have HB6 := Lib.hid (HE.out.trans (HBX.out.hb.mono HE.out.size))
    have RX6 : Hid (Row w6 wo.heap.size 46 (pcs num lsn s)) := HBX.out.row
    have HX : Hid (PgAt w w.heap.size f s) := HXO.out.at_
    have HWO : Hid (w.heap.size ≤ wo.heap.size) := HE.out.size
    clear HC hx0 hx1 hx2 hx3 hx4 hx5 HXO HE HBX hi3
    generalize wo.heap.size = P4 at RX6 HWO ⊢
    by_cases h12 : i = 12
    · have h12b : ((i : Int) == 12) = true := by simp [h12]
      clear h12
      go_wp2
      go_ret
      exact ⟨rfl, HB6.out⟩
    have h12b : ((i : Int) == 12) = false := by simp; omega
    clear h12
    go_upto_region 7 with fail
    go_cut [5, 6] from 26 to 29 (fun t5 t6 wx => Two w num lsn f t5 t6 wx)
    case first =>
      refine wp_region_held_drew (S := fun w' => Row w' P4 46 (pcs num lsn s)) (by kernel_rfl) RX6.out (fun hHeld => ?_)
      have HBd := Lib.hid (HB6.out.trans (⟨rfl, rfl, rfl, Nat.le_refl _, fun _ _ => rfl⟩ : Below w.heap.size w6 w6.drew))
      have RXd : Hid (Row w6.drew P4 46 (pcs num lsn s)) := hHeld
      clear HB6 RX6
      generalize w6.drew = w7 at HBd RXd hHeld ⊢
      refine wpAnyH_take (i := 0) (oi := ⟨some 26, _, _, _, _, _⟩) rfl (by kernel_rfl) (by kernel_rfl) (by kernel_rfl) (fun _ _ _ h => h) (yieldsIf_load_mid (by rfl) 46 (.tmp 4) rfl P4 0 ?x0 (pcs num lsn s) _ (fun _ h => Row.all h) Try.underlying46 rfl page_info) hHeld ?r0
      case x0 => first | rfl | (simp [Act.eval, go_sem]; done)
      try simp only [Act.put, List.setIfInBounds_toArray, List.set_cons_zero, List.set_cons_succ]
      refine wpAnyH_take (i := 2) (oi := ⟨some 28, _, _, _, _, _⟩) rfl (by kernel_rfl) (by kernel_rfl) (by kernel_rfl) (fun _ _ _ h => h) (yieldsIf_load_mid (by rfl) 46 (.tmp 4) rfl P4 0 ?x2 (pcs num lsn s) _ (fun _ h => Row.all h) Try.underlying46 rfl page_info) hHeld ?r2
      case x2 => first | rfl | (simp [Act.eval, go_sem]; done)
      try simp only [Act.put, List.setIfInBounds_toArray, List.set_cons_zero, List.set_cons_succ]
      clear hHeld
      refine wpAnyH_ready (rs := [1, 4, 5]) (by kernel_rfl) (by simp) ?_
      refine (AllReadyH.cons rfl (fun K hK => ?_) (AllReadyH.cons rfl (fun K hK => ?_) (AllReadyH.cons rfl (fun K hK => ?_) AllReadyH.nil)))
      · skip
        go_simp
        refine (short_any num lsn f s w.heap.size w7 (HX.out.below HBd.out) HBd.out.size).mono ?_
        rintro e wa1_1 ⟨s3, rfl, hpo, hb⟩
        have HB_1_1 := Lib.hid (HBd.out.trans (hb.mono HBd.out.size))
        have RX_1_1 := Lib.hid (RXd.out.below hb RXd.out.lt)
        have P3_1_1 := Lib.hid (hpo.mono HBd.out.size)
        clear hpo hb
        refine hK _ _ RX_1_1.out (fun _ => ?_)
        clear hK K
        try simp only [Act.put, List.setIfInBounds_toArray, List.set_cons_zero, List.set_cons_succ]
        refine wpAnyH_ready (rs := [3, 4, 5]) (by kernel_rfl) (by simp) ?_
        refine (AllReadyH.cons rfl (fun K hK => ?_) (AllReadyH.cons rfl (fun K hK => ?_) (AllReadyH.cons rfl (fun K hK => ?_) AllReadyH.nil)))
        · skip
          go_simp
          refine (short_any num lsn f s w.heap.size wa1_1 (HX.out.below HB_1_1.out) HB_1_1.out.size).mono ?_
          rintro e wa2_3 ⟨s4, rfl, hpo, hb⟩
          have HB_2_3 := Lib.hid (HB_1_1.out.trans (hb.mono HB_1_1.out.size))
          have RX_2_3 := Lib.hid (RX_1_1.out.below hb RX_1_1.out.lt)
          have P4_2_3 := Lib.hid (hpo.mono HB_1_1.out.size)
          have P3_2_3 := Lib.hid (P3_1_1.out.below hb)
          clear hpo hb
          refine hK _ _ RX_2_3.out (fun _ => ?_)
          clear hK K
          try simp only [Act.put, List.setIfInBounds_toArray, List.set_cons_zero, List.set_cons_succ]
          refine wpAnyH_ready (rs := [4, 5]) (by kernel_rfl) (by simp) ?_
          refine (AllReadyH.cons rfl (fun K hK => ?_) (AllReadyH.cons rfl (fun K hK => ?_) AllReadyH.nil))
          · skip
            go_simp
            have R5_3_4 := Lib.hid (Row.new wa2_3 46 zcs)
            have hb : Below wa2_3.heap.size wa2_3 (wa2_3.alloc (.cells zcs.toArray 46)) := (Below.refl _ _).alloc (Nat.le_refl _) _
            have HB_3_4 := Lib.hid (HB_2_3.out.trans (hb.mono HB_2_3.out.size))
            have RX_3_4 := Lib.hid (RX_2_3.out.below hb RX_2_3.out.lt)
            have P3_3_4 := Lib.hid (P3_2_3.out.below hb)
            have P4_3_4 := Lib.hid (P4_2_3.out.below hb)
            have HPLR5 : Hid (P4 < wa2_3.heap.size ∧ w.heap.size ≤ wa2_3.heap.size) := ⟨RX_2_3.out.lt, HB_2_3.out.size⟩
            clear hb
            obtain ⟨wa3_4, hw2⟩ : ∃ wa3_4, wa3_4 = wa2_3.alloc (.cells zcs.toArray 46) := ⟨_, rfl⟩
            obtain ⟨q3_4, hq⟩ : ∃ q3_4, q3_4 = wa2_3.heap.size := ⟨_, rfl⟩
            change K _ (wa2_3.alloc (.cells zcs.toArray 46))
            rw [← hw2] at R5_3_4 P3_3_4 P4_3_4 HB_3_4 RX_3_4 ⊢
            rw [← hq] at HPLR5 R5_3_4 ⊢
            clear hw2 hq
            refine hK _ _ RX_3_4.out (fun _ => ?_)
            clear hK K
            try simp only [Act.put, List.setIfInBounds_toArray, List.set_cons_zero, List.set_cons_succ]
            refine wpAnyH_ready (rs := [5]) (by kernel_rfl) (by simp) ?_
            refine (AllReadyH.cons rfl (fun K hK => ?_) AllReadyH.nil)
            go_simp
            have R6_4_5 := Lib.hid (Row.new wa3_4 46 zcs)
            have hb : Below wa3_4.heap.size wa3_4 (wa3_4.alloc (.cells zcs.toArray 46)) := (Below.refl _ _).alloc (Nat.le_refl _) _
            have HB_4_5 := Lib.hid (HB_3_4.out.trans (hb.mono HB_3_4.out.size))
            have RX_4_5 := Lib.hid (RX_3_4.out.below hb RX_3_4.out.lt)
            have R5_4_5 := Lib.hid (R5_3_4.out.below hb R5_3_4.out.lt)
            have P3_4_5 := Lib.hid (P3_3_4.out.below hb)
            have P4_4_5 := Lib.hid (P4_3_4.out.below hb)
            have NE_4 : Hid (q3_4 ≠ wa3_4.heap.size) := (show _ ≠ _ from by have := R5_3_4.out.lt; omega)
            have HPLR6 : Hid (P4 < wa3_4.heap.size ∧ w.heap.size ≤ wa3_4.heap.size) := ⟨RX_3_4.out.lt, HB_3_4.out.size⟩
            clear hb
            obtain ⟨wa4_5, hw2⟩ : ∃ wa4_5, wa4_5 = wa3_4.alloc (.cells zcs.toArray 46) := ⟨_, rfl⟩
            obtain ⟨q4_5, hq⟩ : ∃ q4_5, q4_5 = wa3_4.heap.size := ⟨_, rfl⟩
            change K _ (wa3_4.alloc (.cells zcs.toArray 46))
            rw [← hw2] at R5_4_5 R6_4_5 P3_4_5 P4_4_5 HB_4_5 RX_4_5 ⊢
            rw [← hq] at HPLR6 R6_4_5 NE_4 ⊢
            clear hw2 hq
            refine hK _ _ RX_4_5.out (fun _ => ?_)
            clear hK K
            try simp only [Act.put, List.setIfInBounds_toArray, List.set_cons_zero, List.set_cons_succ]
            refine wpAnyH_ready (rs := [6]) (by kernel_rfl) (by simp) ?_
            refine (AllReadyH.cons rfl (fun K hK => ?_) AllReadyH.nil)
            refine wp_store_whole 46 (.tmp 5) (.tmp 27) rfl q3_4 (pcs num lsn s3) rfl rfl 46 zcs R5_4_5.out rfl pcs_one page_info ?_
            intro wa5_6 hr hg
            have R5_5_6 := Lib.hid hr
            have R6_5_6 := Lib.hid (R6_4_5.out.grown hg (fun e => NE_4.out (by have := Option.some.inj e; omega)))
            have RX_5_6 := Lib.hid (RX_4_5.out.grown hg (fun e => by have e1 := Option.some.inj e; have := HPLR5.out.1; omega))
            have P3_5_6 := Lib.hid (PO.grown P3_4_5.out hg R5_4_5.out)
            have P4_5_6 := Lib.hid (PO.grown P4_4_5.out hg R5_4_5.out)
            have HB_5_6 := Lib.hid (HB_4_5.out.grown hg HB_4_5.out.size (fun k hk => by have e1 := Option.some.inj hk; have := HPLR5.out.2; omega))
            clear hr hg
            refine hK _ _ RX_5_6.out (fun _ => ?_)
            clear hK K
            try simp only [Act.put, List.setIfInBounds_toArray, List.set_cons_zero, List.set_cons_succ]
            refine wpAnyH_ready (rs := [7]) (by kernel_rfl) (by simp) ?_
            refine (AllReadyH.cons rfl (fun K hK => ?_) AllReadyH.nil)
            refine wp_store_whole 46 (.tmp 6) (.tmp 29) rfl q4_5 (pcs num lsn s4) rfl rfl 46 zcs R6_5_6.out rfl pcs_one page_info ?_
            intro wa6_7 hr hg
            have R6_6_7 := Lib.hid hr
            have R5_6_7 := Lib.hid (R5_5_6.out.grown hg (fun e => NE_4.out (by have := Option.some.inj e; omega)))
            have RX_6_7 := Lib.hid (RX_5_6.out.grown hg (fun e => by have e1 := Option.some.inj e; have := HPLR6.out.1; omega))
            have P3_6_7 := Lib.hid (PO.grown P3_5_6.out hg R6_5_6.out)
            have P4_6_7 := Lib.hid (PO.grown P4_5_6.out hg R6_5_6.out)
            have HB_6_7 := Lib.hid (HB_5_6.out.grown hg HB_5_6.out.size (fun k hk => by have e1 := Option.some.inj hk; have := HPLR6.out.2; omega))
            clear hr hg
            refine hK _ _ RX_6_7.out (fun _ => ?_)
            clear hK K
            try simp only [Act.put, List.setIfInBounds_toArray, List.set_cons_zero, List.set_cons_succ]
            refine wpAnyH_done (by kernel_rfl) ?_ _
            go_wp2_with fail
            go_meet
            exact ⟨_, _, s3, s4, rfl, rfl, R5_6_7.out, R6_6_7.out, P3_6_7.out.at_, P4_6_7.out.at_, HB_6_7.out, NE_4.out⟩
          · skip
            go_simp
            have R6_3_5 := Lib.hid (Row.new wa2_3 46 zcs)
            have hb : Below wa2_3.heap.size wa2_3 (wa2_3.alloc (.cells zcs.toArray 46)) := (Below.refl _ _).alloc (Nat.le_refl _) _
            have HB_3_5 := Lib.hid (HB_2_3.out.trans (hb.mono HB_2_3.out.size))
            have RX_3_5 := Lib.hid (RX_2_3.out.below hb RX_2_3.out.lt)
            have P3_3_5 := Lib.hid (P3_2_3.out.below hb)
            have P4_3_5 := Lib.hid (P4_2_3.out.below hb)
            have HPLR6 : Hid (P4 < wa2_3.heap.size ∧ w.heap.size ≤ wa2_3.heap.size) := ⟨RX_2_3.out.lt, HB_2_3.out.size⟩
            clear hb
            obtain ⟨wa3_5, hw2⟩ : ∃ wa3_5, wa3_5 = wa2_3.alloc (.cells zcs.toArray 46) := ⟨_, rfl⟩
            obtain ⟨q3_5, hq⟩ : ∃ q3_5, q3_5 = wa2_3.heap.size := ⟨_, rfl⟩
            change K _ (wa2_3.alloc (.cells zcs.toArray 46))
            rw [← hw2] at R6_3_5 P3_3_5 P4_3_5 HB_3_5 RX_3_5 ⊢
            rw [← hq] at HPLR6 R6_3_5 ⊢
            clear hw2 hq
            refine hK _ _ RX_3_5.out (fun _ => ?_)
            clear hK K
            try simp only [Act.put, List.setIfInBounds_toArray, List.set_cons_zero, List.set_cons_succ]
            refine wpAnyH_ready (rs := [4]) (by kernel_rfl) (by simp) ?_
            refine (AllReadyH.cons rfl (fun K hK => ?_) AllReadyH.nil)
            go_simp
            have R5_7_4 := Lib.hid (Row.new wa3_5 46 zcs)
            have hb : Below wa3_5.heap.size wa3_5 (wa3_5.alloc (.cells zcs.toArray 46)) := (Below.refl _ _).alloc (Nat.le_refl _) _
            have HB_7_4 := Lib.hid (HB_3_5.out.trans (hb.mono HB_3_5.out.size))
            have RX_7_4 := Lib.hid (RX_3_5.out.below hb RX_3_5.out.lt)
            have R6_7_4 := Lib.hid (R6_3_5.out.below hb R6_3_5.out.lt)
            have P3_7_4 := Lib.hid (P3_3_5.out.below hb)
            have P4_7_4 := Lib.hid (P4_3_5.out.below hb)
            have NE_7 : Hid (wa3_5.heap.size ≠ q3_5) := (show _ ≠ _ from by have := R6_3_5.out.lt; omega)
            have HPLR5 : Hid (P4 < wa3_5.heap.size ∧ w.heap.size ≤ wa3_5.heap.size) := ⟨RX_3_5.out.lt, HB_3_5.out.size⟩
            clear hb
            obtain ⟨wa7_4, hw2⟩ : ∃ wa7_4, wa7_4 = wa3_5.alloc (.cells zcs.toArray 46) := ⟨_, rfl⟩
            obtain ⟨q7_4, hq⟩ : ∃ q7_4, q7_4 = wa3_5.heap.size := ⟨_, rfl⟩
            change K _ (wa3_5.alloc (.cells zcs.toArray 46))
            rw [← hw2] at R5_7_4 R6_7_4 P3_7_4 P4_7_4 HB_7_4 RX_7_4 ⊢
            rw [← hq] at HPLR5 R5_7_4 NE_7 ⊢
            clear hw2 hq
            refine hK _ _ RX_7_4.out (fun _ => ?_)
            clear hK K
            try simp only [Act.put, List.setIfInBounds_toArray, List.set_cons_zero, List.set_cons_succ]
            refine wpAnyH_ready (rs := [6]) (by kernel_rfl) (by simp) ?_
            refine (AllReadyH.cons rfl (fun K hK => ?_) AllReadyH.nil)
            refine wp_store_whole 46 (.tmp 5) (.tmp 27) rfl q7_4 (pcs num lsn s3) rfl rfl 46 zcs R5_7_4.out rfl pcs_one page_info ?_
            intro wa8_6 hr hg
            have R5_8_6 := Lib.hid hr
            have R6_8_6 := Lib.hid (R6_7_4.out.grown hg (fun e => NE_7.out (by have := Option.some.inj e; omega)))
            have RX_8_6 := Lib.hid (RX_7_4.out.grown hg (fun e => by have e1 := Option.some.inj e; have := HPLR5.out.1; omega))
            have P3_8_6 := Lib.hid (PO.grown P3_7_4.out hg R5_7_4.out)
            have P4_8_6 := Lib.hid (PO.grown P4_7_4.out hg R5_7_4.out)
            have HB_8_6 := Lib.hid (HB_7_4.out.grown hg HB_7_4.out.size (fun k hk => by have e1 := Option.some.inj hk; have := HPLR5.out.2; omega))
            clear hr hg
            refine hK _ _ RX_8_6.out (fun _ => ?_)
            clear hK K
            try simp only [Act.put, List.setIfInBounds_toArray, List.set_cons_zero, List.set_cons_succ]
            refine wpAnyH_ready (rs := [7]) (by kernel_rfl) (by simp) ?_
            refine (AllReadyH.cons rfl (fun K hK => ?_) AllReadyH.nil)
            refine wp_store_whole 46 (.tmp 6) (.tmp 29) rfl q3_5 (pcs num lsn s4) rfl rfl 46 zcs R6_8_6.out rfl pcs_one page_info ?_
            intro wa9_7 hr hg
            have R6_9_7 := Lib.hid hr
            have R5_9_7 := Lib.hid (R5_8_6.out.grown hg (fun e => NE_7.out (by have := Option.some.inj e; omega)))
            have RX_9_7 := Lib.hid (RX_8_6.out.grown hg (fun e => by have e1 := Option.some.inj e; have := HPLR6.out.1; omega))
            have P3_9_7 := Lib.hid (PO.grown P3_8_6.out hg R6_8_6.out)
            have P4_9_7 := Lib.hid (PO.grown P4_8_6.out hg R6_8_6.out)
            have HB_9_7 := Lib.hid (HB_8_6.out.grown hg HB_8_6.out.size (fun k hk => by have e1 := Option.some.inj hk; have := HPLR6.out.2; omega))
            clear hr hg
            refine hK _ _ RX_9_7.out (fun _ => ?_)
            clear hK K
            try simp only [Act.put, List.setIfInBounds_toArray, List.set_cons_zero, List.set_cons_succ]
            refine wpAnyH_done (by kernel_rfl) ?_ _
            go_wp2_with fail
            go_meet
            exact ⟨_, _, s3, s4, rfl, rfl, R5_9_7.out, R6_9_7.out, P3_9_7.out.at_, P4_9_7.out.at_, HB_9_7.out, NE_7.out⟩
        · skip
          go_simp
          have R5_2_4 := Lib.hid (Row.new wa1_1 46 zcs)
          have hb : Below wa1_1.heap.size wa1_1 (wa1_1.alloc (.cells zcs.toArray 46)) := (Below.refl _ _).alloc (Nat.le_refl _) _
          have HB_2_4 := Lib.hid (HB_1_1.out.trans (hb.mono HB_1_1.out.size))
          have RX_2_4 := Lib.hid (RX_1_1.out.below hb RX_1_1.out.lt)
          have P3_2_4 := Lib.hid (P3_1_1.out.below hb)
          have HPLR5 : Hid (P4 < wa1_1.heap.size ∧ w.heap.size ≤ wa1_1.heap.size) := ⟨RX_1_1.out.lt, HB_1_1.out.size⟩
          clear hb
          obtain ⟨wa2_4, hw2⟩ : ∃ wa2_4, wa2_4 = wa1_1.alloc (.cells zcs.toArray 46) := ⟨_, rfl⟩
          obtain ⟨q2_4, hq⟩ : ∃ q2_4, q2_4 = wa1_1.heap.size := ⟨_, rfl⟩
          change K _ (wa1_1.alloc (.cells zcs.toArray 46))
          rw [← hw2] at R5_2_4 P3_2_4 HB_2_4 RX_2_4 ⊢
          rw [← hq] at HPLR5 R5_2_4 ⊢
          clear hw2 hq
          refine hK _ _ RX_2_4.out (fun _ => ?_)
          clear hK K
          try simp only [Act.put, List.setIfInBounds_toArray, List.set_cons_zero, List.set_cons_succ]
          refine wpAnyH_ready (rs := [3, 5]) (by kernel_rfl) (by simp) ?_
          refine (AllReadyH.cons rfl (fun K hK => ?_) (AllReadyH.cons rfl (fun K hK => ?_) AllReadyH.nil))
          · skip
            go_simp
            refine (short_any num lsn f s w.heap.size wa2_4 (HX.out.below HB_2_4.out) HB_2_4.out.size).mono ?_
            rintro e wa10_3 ⟨s4, rfl, hpo, hb⟩
            have HB_10_3 := Lib.hid (HB_2_4.out.trans (hb.mono HB_2_4.out.size))
            have RX_10_3 := Lib.hid (RX_2_4.out.below hb RX_2_4.out.lt)
            have P4_10_3 := Lib.hid (hpo.mono HB_2_4.out.size)
            have R5_10_3 := Lib.hid (R5_2_4.out.below hb R5_2_4.out.lt)
            have P3_10_3 := Lib.hid (P3_2_4.out.below hb)
            clear hpo hb
            refine hK _ _ RX_10_3.out (fun _ => ?_)
            clear hK K
            try simp only [Act.put, List.setIfInBounds_toArray, List.set_cons_zero, List.set_cons_succ]
            refine wpAnyH_ready (rs := [5]) (by kernel_rfl) (by simp) ?_
            refine (AllReadyH.cons rfl (fun K hK => ?_) AllReadyH.nil)
            go_simp
            have R6_11_5 := Lib.hid (Row.new wa10_3 46 zcs)
            have hb : Below wa10_3.heap.size wa10_3 (wa10_3.alloc (.cells zcs.toArray 46)) := (Below.refl _ _).alloc (Nat.le_refl _) _
            have HB_11_5 := Lib.hid (HB_10_3.out.trans (hb.mono HB_10_3.out.size))
            have RX_11_5 := Lib.hid (RX_10_3.out.below hb RX_10_3.out.lt)
            have R5_11_5 := Lib.hid (R5_10_3.out.below hb R5_10_3.out.lt)
            have P3_11_5 := Lib.hid (P3_10_3.out.below hb)
            have P4_11_5 := Lib.hid (P4_10_3.out.below hb)
            have NE_11 : Hid (q2_4 ≠ wa10_3.heap.size) := (show _ ≠ _ from by have := R5_10_3.out.lt; omega)
            have HPLR6 : Hid (P4 < wa10_3.heap.size ∧ w.heap.size ≤ wa10_3.heap.size) := ⟨RX_10_3.out.lt, HB_10_3.out.size⟩
            clear hb
            obtain ⟨wa11_5, hw2⟩ : ∃ wa11_5, wa11_5 = wa10_3.alloc (.cells zcs.toArray 46) := ⟨_, rfl⟩
            obtain ⟨q11_5, hq⟩ : ∃ q11_5, q11_5 = wa10_3.heap.size := ⟨_, rfl⟩
            change K _ (wa10_3.alloc (.cells zcs.toArray 46))
            rw [← hw2] at R5_11_5 R6_11_5 P3_11_5 P4_11_5 HB_11_5 RX_11_5 ⊢
            rw [← hq] at HPLR6 R6_11_5 NE_11 ⊢
            clear hw2 hq
            refine hK _ _ RX_11_5.out (fun _ => ?_)
            clear hK K
            try simp only [Act.put, List.setIfInBounds_toArray, List.set_cons_zero, List.set_cons_succ]
            refine wpAnyH_ready (rs := [6]) (by kernel_rfl) (by simp) ?_
            refine (AllReadyH.cons rfl (fun K hK => ?_) AllReadyH.nil)
            refine wp_store_whole 46 (.tmp 5) (.tmp 27) rfl q2_4 (pcs num lsn s3) rfl rfl 46 zcs R5_11_5.out rfl pcs_one page_info ?_
            intro wa12_6 hr hg
            have R5_12_6 := Lib.hid hr
            have R6_12_6 := Lib.hid (R6_11_5.out.grown hg (fun e => NE_11.out (by have := Option.some.inj e; omega)))
            have RX_12_6 := Lib.hid (RX_11_5.out.grown hg (fun e => by have e1 := Option.some.inj e; have := HPLR5.out.1; omega))
            have P3_12_6 := Lib.hid (PO.grown P3_11_5.out hg R5_11_5.out)
            have P4_12_6 := Lib.hid (PO.grown P4_11_5.out hg R5_11_5.out)
            have HB_12_6 := Lib.hid (HB_11_5.out.grown hg HB_11_5.out.size (fun k hk => by have e1 := Option.some.inj hk; have := HPLR5.out.2; omega))
            clear hr hg
            refine hK _ _ RX_12_6.out (fun _ => ?_)
            clear hK K
            try simp only [Act.put, List.setIfInBounds_toArray, List.set_cons_zero, List.set_cons_succ]
            refine wpAnyH_ready (rs := [7]) (by kernel_rfl) (by simp) ?_
            refine (AllReadyH.cons rfl (fun K hK => ?_) AllReadyH.nil)
            refine wp_store_whole 46 (.tmp 6) (.tmp 29) rfl q11_5 (pcs num lsn s4) rfl rfl 46 zcs R6_12_6.out rfl pcs_one page_info ?_
            intro wa13_7 hr hg
            have R6_13_7 := Lib.hid hr
            have R5_13_7 := Lib.hid (R5_12_6.out.grown hg (fun e => NE_11.out (by have := Option.some.inj e; omega)))
            have RX_13_7 := Lib.hid (RX_12_6.out.grown hg (fun e => by have e1 := Option.some.inj e; have := HPLR6.out.1; omega))
            have P3_13_7 := Lib.hid (PO.grown P3_12_6.out hg R6_12_6.out)
            have P4_13_7 := Lib.hid (PO.grown P4_12_6.out hg R6_12_6.out)
            have HB_13_7 := Lib.hid (HB_12_6.out.grown hg HB_12_6.out.size (fun k hk => by have e1 := Option.some.inj hk; have := HPLR6.out.2; omega))
            clear hr hg
            refine hK _ _ RX_13_7.out (fun _ => ?_)
            clear hK K
            try simp only [Act.put, List.setIfInBounds_toArray, List.set_cons_zero, List.set_cons_succ]
            refine wpAnyH_done (by kernel_rfl) ?_ _
            go_wp2_with fail
            go_meet
            exact ⟨_, _, s3, s4, rfl, rfl, R5_13_7.out, R6_13_7.out, P3_13_7.out.at_, P4_13_7.out.at_, HB_13_7.out, NE_11.out⟩
          · skip
            go_simp
            have R6_10_5 := Lib.hid (Row.new wa2_4 46 zcs)
            have hb : Below wa2_4.heap.size wa2_4 (wa2_4.alloc (.cells zcs.toArray 46)) := (Below.refl _ _).alloc (Nat.le_refl _) _
            have HB_10_5 := Lib.hid (HB_2_4.out.trans (hb.mono HB_2_4.out.size))
            have RX_10_5 := Lib.hid (RX_2_4.out.below hb RX_2_4.out.lt)
            have R5_10_5 := Lib.hid (R5_2_4.out.below hb R5_2_4.out.lt)
            have P3_10_5 := Lib.hid (P3_2_4.out.below hb)
            have NE_10 : Hid (q2_4 ≠ wa2_4.heap.size) := (show _ ≠ _ from by have := R5_2_4.out.lt; omega)
            have HPLR6 : Hid (P4 < wa2_4.heap.size ∧ w.heap.size ≤ wa2_4.heap.size) := ⟨RX_2_4.out.lt, HB_2_4.out.size⟩
            clear hb
            obtain ⟨wa10_5, hw2⟩ : ∃ wa10_5, wa10_5 = wa2_4.alloc (.cells zcs.toArray 46) := ⟨_, rfl⟩
            obtain ⟨q10_5, hq⟩ : ∃ q10_5, q10_5 = wa2_4.heap.size := ⟨_, rfl⟩
            change K _ (wa2_4.alloc (.cells zcs.toArray 46))
            rw [← hw2] at R5_10_5 R6_10_5 P3_10_5 HB_10_5 RX_10_5 ⊢
            rw [← hq] at HPLR6 R6_10_5 NE_10 ⊢
            clear hw2 hq
            refine hK _ _ RX_10_5.out (fun _ => ?_)
            clear hK K
            try simp only [Act.put, List.setIfInBounds_toArray, List.set_cons_zero, List.set_cons_succ]
            refine wpAnyH_ready (rs := [3]) (by kernel_rfl) (by simp) ?_
            refine (AllReadyH.cons rfl (fun K hK => ?_) AllReadyH.nil)
            go_simp
            refine (short_any num lsn f s w.heap.size wa10_5 (HX.out.below HB_10_5.out) HB_10_5.out.size).mono ?_
            rintro e wa14_3 ⟨s4, rfl, hpo, hb⟩
            have HB_14_3 := Lib.hid (HB_10_5.out.trans (hb.mono HB_10_5.out.size))
            have RX_14_3 := Lib.hid (RX_10_5.out.below hb RX_10_5.out.lt)
            have P4_14_3 := Lib.hid (hpo.mono HB_10_5.out.size)
            have R5_14_3 := Lib.hid (R5_10_5.out.below hb R5_10_5.out.lt)
            have R6_14_3 := Lib.hid (R6_10_5.out.below hb R6_10_5.out.lt)
            have P3_14_3 := Lib.hid (P3_10_5.out.below hb)
            clear hpo hb
            refine hK _ _ RX_14_3.out (fun _ => ?_)
            clear hK K
            try simp only [Act.put, List.setIfInBounds_toArray, List.set_cons_zero, List.set_cons_succ]
            refine wpAnyH_ready (rs := [6]) (by kernel_rfl) (by simp) ?_
            refine (AllReadyH.cons rfl (fun K hK => ?_) AllReadyH.nil)
            refine wp_store_whole 46 (.tmp 5) (.tmp 27) rfl q2_4 (pcs num lsn s3) rfl rfl 46 zcs R5_14_3.out rfl pcs_one page_info ?_
            intro wa15_6 hr hg
            have R5_15_6 := Lib.hid hr
            have R6_15_6 := Lib.hid (R6_14_3.out.grown hg (fun e => NE_10.out (by have := Option.some.inj e; omega)))
            have RX_15_6 := Lib.hid (RX_14_3.out.grown hg (fun e => by have e1 := Option.some.inj e; have := HPLR5.out.1; omega))
            have P3_15_6 := Lib.hid (PO.grown P3_14_3.out hg R5_14_3.out)
            have P4_15_6 := Lib.hid (PO.grown P4_14_3.out hg R5_14_3.out)
            have HB_15_6 := Lib.hid (HB_14_3.out.grown hg HB_14_3.out.size (fun k hk => by have e1 := Option.some.inj hk; have := HPLR5.out.2; omega))
            clear hr hg
            refine hK _ _ RX_15_6.out (fun _ => ?_)
            clear hK K
            try simp only [Act.put, List.setIfInBounds_toArray, List.set_cons_zero, List.set_cons_succ]
            refine wpAnyH_ready (rs := [7]) (by kernel_rfl) (by simp) ?_
            refine (AllReadyH.cons rfl (fun K hK => ?_) AllReadyH.nil)
            refine wp_store_whole 46 (.tmp 6) (.tmp 29) rfl q10_5 (pcs num lsn s4) rfl rfl 46 zcs R6_15_6.out rfl pcs_one page_info ?_
            intro wa16_7 hr hg
            have R6_16_7 := Lib.hid hr
            have R5_16_7 := Lib.hid (R5_15_6.out.grown hg (fun e => NE_10.out (by have := Option.some.inj e; omega)))
            have RX_16_7 := Lib.hid (RX_15_6.out.grown hg (fun e => by have e1 := Option.some.inj e; have := HPLR6.out.1; omega))
            have P3_16_7 := Lib.hid (PO.grown P3_15_6.out hg R6_15_6.out)
            have P4_16_7 := Lib.hid (PO.grown P4_15_6.out hg R6_15_6.out)
            have HB_16_7 := Lib.hid (HB_15_6.out.grown hg HB_15_6.out.size (fun k hk => by have e1 := Option.some.inj hk; have := HPLR6.out.2; omega))
            clear hr hg
            refine hK _ _ RX_16_7.out (fun _ => ?_)
            clear hK K
            try simp only [Act.put, List.setIfInBounds_toArray, List.set_cons_zero, List.set_cons_succ]
            refine wpAnyH_done (by kernel_rfl) ?_ _
            go_wp2_with fail
            go_meet
            exact ⟨_, _, s3, s4, rfl, rfl, R5_16_7.out, R6_16_7.out, P3_16_7.out.at_, P4_16_7.out.at_, HB_16_7.out, NE_10.out⟩
        · skip
          go_simp
          have R6_2_5 := Lib.hid (Row.new wa1_1 46 zcs)
          have hb : Below wa1_1.heap.size wa1_1 (wa1_1.alloc (.cells zcs.toArray 46)) := (Below.refl _ _).alloc (Nat.le_refl _) _
          have HB_2_5 := Lib.hid (HB_1_1.out.trans (hb.mono HB_1_1.out.size))
          have RX_2_5 := Lib.hid (RX_1_1.out.below hb RX_1_1.out.lt)
          have P3_2_5 := Lib.hid (P3_1_1.out.below hb)
          have HPLR6 : Hid (P4 < wa1_1.heap.size ∧ w.heap.size ≤ wa1_1.heap.size) := ⟨RX_1_1.out.lt, HB_1_1.out.size⟩
          clear hb
          obtain ⟨wa2_5, hw2⟩ : ∃ wa2_5, wa2_5 = wa1_1.alloc (.cells zcs.toArray 46) := ⟨_, rfl⟩
          obtain ⟨q2_5, hq⟩ : ∃ q2_5, q2_5 = wa1_1.heap.size := ⟨_, rfl⟩
          change K _ (wa1_1.alloc (.cells zcs.toArray 46))
          rw [← hw2] at R6_2_5 P3_2_5 HB_2_5 RX_2_5 ⊢
          rw [← hq] at HPLR6 R6_2_5 ⊢
          clear hw2 hq
          refine hK _ _ RX_2_5.out (fun _ => ?_)
          clear hK K
          try simp only [Act.put, List.setIfInBounds_toArray, List.set_cons_zero, List.set_cons_succ]
          refine wpAnyH_ready (rs := [3, 4]) (by kernel_rfl) (by simp) ?_
          refine (AllReadyH.cons rfl (fun K hK => ?_) (AllReadyH.cons rfl (fun K hK => ?_) AllReadyH.nil))
          · skip
            go_simp
            refine (short_any num lsn f s w.heap.size wa2_5 (HX.out.below HB_2_5.out) HB_2_5.out.size).mono ?_
            rintro e wa17_3 ⟨s4, rfl, hpo, hb⟩
            have HB_17_3 := Lib.hid (HB_2_5.out.trans (hb.mono HB_2_5.out.size))
            have RX_17_3 := Lib.hid (RX_2_5.out.below hb RX_2_5.out.lt)
            have P4_17_3 := Lib.hid (hpo.mono HB_2_5.out.size)
            have R6_17_3 := Lib.hid (R6_2_5.out.below hb R6_2_5.out.lt)
            have P3_17_3 := Lib.hid (P3_2_5.out.below hb)
            clear hpo hb
            refine hK _ _ RX_17_3.out (fun _ => ?_)
            clear hK K
            try simp only [Act.put, List.setIfInBounds_toArray, List.set_cons_zero, List.set_cons_succ]
            refine wpAnyH_ready (rs := [4]) (by kernel_rfl) (by simp) ?_
            refine (AllReadyH.cons rfl (fun K hK => ?_) AllReadyH.nil)
            go_simp
            have R5_18_4 := Lib.hid (Row.new wa17_3 46 zcs)
            have hb : Below wa17_3.heap.size wa17_3 (wa17_3.alloc (.cells zcs.toArray 46)) := (Below.refl _ _).alloc (Nat.le_refl _) _
            have HB_18_4 := Lib.hid (HB_17_3.out.trans (hb.mono HB_17_3.out.size))
            have RX_18_4 := Lib.hid (RX_17_3.out.below hb RX_17_3.out.lt)
            have R6_18_4 := Lib.hid (R6_17_3.out.below hb R6_17_3.out.lt)
            have P3_18_4 := Lib.hid (P3_17_3.out.below hb)
            have P4_18_4 := Lib.hid (P4_17_3.out.below hb)
            have NE_18 : Hid (wa17_3.heap.size ≠ q2_5) := (show _ ≠ _ from by have := R6_17_3.out.lt; omega)
            have HPLR5 : Hid (P4 < wa17_3.heap.size ∧ w.heap.size ≤ wa17_3.heap.size) := ⟨RX_17_3.out.lt, HB_17_3.out.size⟩
            clear hb
            obtain ⟨wa18_4, hw2⟩ : ∃ wa18_4, wa18_4 = wa17_3.alloc (.cells zcs.toArray 46) := ⟨_, rfl⟩
            obtain ⟨q18_4, hq⟩ : ∃ q18_4, q18_4 = wa17_3.heap.size := ⟨_, rfl⟩
            change K _ (wa17_3.alloc (.cells zcs.toArray 46))
            rw [← hw2] at R5_18_4 R6_18_4 P3_18_4 P4_18_4 HB_18_4 RX_18_4 ⊢
            rw [← hq] at HPLR5 R5_18_4 NE_18 ⊢
            clear hw2 hq
            refine hK _ _ RX_18_4.out (fun _ => ?_)
            clear hK K
            try simp only [Act.put, List.setIfInBounds_toArray, List.set_cons_zero, List.set_cons_succ]
            refine wpAnyH_ready (rs := [6]) (by kernel_rfl) (by simp) ?_
            refine (AllReadyH.cons rfl (fun K hK => ?_) AllReadyH.nil)
            refine wp_store_whole 46 (.tmp 5) (.tmp 27) rfl q18_4 (pcs num lsn s3) rfl rfl 46 zcs R5_18_4.out rfl pcs_one page_info ?_
            intro wa19_6 hr hg
            have R5_19_6 := Lib.hid hr
            have R6_19_6 := Lib.hid (R6_18_4.out.grown hg (fun e => NE_18.out (by have := Option.some.inj e; omega)))
            have RX_19_6 := Lib.hid (RX_18_4.out.grown hg (fun e => by have e1 := Option.some.inj e; have := HPLR5.out.1; omega))
            have P3_19_6 := Lib.hid (PO.grown P3_18_4.out hg R5_18_4.out)
            have P4_19_6 := Lib.hid (PO.grown P4_18_4.out hg R5_18_4.out)
            have HB_19_6 := Lib.hid (HB_18_4.out.grown hg HB_18_4.out.size (fun k hk => by have e1 := Option.some.inj hk; have := HPLR5.out.2; omega))
            clear hr hg
            refine hK _ _ RX_19_6.out (fun _ => ?_)
            clear hK K
            try simp only [Act.put, List.setIfInBounds_toArray, List.set_cons_zero, List.set_cons_succ]
            refine wpAnyH_ready (rs := [7]) (by kernel_rfl) (by simp) ?_
            refine (AllReadyH.cons rfl (fun K hK => ?_) AllReadyH.nil)
            refine wp_store_whole 46 (.tmp 6) (.tmp 29) rfl q2_5 (pcs num lsn s4) rfl rfl 46 zcs R6_19_6.out rfl pcs_one page_info ?_
            intro wa20_7 hr hg
            have R6_20_7 := Lib.hid hr
            have R5_20_7 := Lib.hid (R5_19_6.out.grown hg (fun e => NE_18.out (by have := Option.some.inj e; omega)))
            have RX_20_7 := Lib.hid (RX_19_6.out.grown hg (fun e => by have e1 := Option.some.inj e; have := HPLR6.out.1; omega))
            have P3_20_7 := Lib.hid (PO.grown P3_19_6.out hg R6_19_6.out)
            have P4_20_7 := Lib.hid (PO.grown P4_19_6.out hg R6_19_6.out)
            have HB_20_7 := Lib.hid (HB_19_6.out.grown hg HB_19_6.out.size (fun k hk => by have e1 := Option.some.inj hk; have := HPLR6.out.2; omega))
            clear hr hg
            refine hK _ _ RX_20_7.out (fun _ => ?_)
            clear hK K
            try simp only [Act.put, List.setIfInBounds_toArray, List.set_cons_zero, List.set_cons_succ]
            refine wpAnyH_done (by kernel_rfl) ?_ _
            go_wp2_with fail
            go_meet
            exact ⟨_, _, s3, s4, rfl, rfl, R5_20_7.out, R6_20_7.out, P3_20_7.out.at_, P4_20_7.out.at_, HB_20_7.out, NE_18.out⟩
          · skip
            go_simp
            have R5_17_4 := Lib.hid (Row.new wa2_5 46 zcs)
            have hb : Below wa2_5.heap.size wa2_5 (wa2_5.alloc (.cells zcs.toArray 46)) := (Below.refl _ _).alloc (Nat.le_refl _) _
            have HB_17_4 := Lib.hid (HB_2_5.out.trans (hb.mono HB_2_5.out.size))
            have RX_17_4 := Lib.hid (RX_2_5.out.below hb RX_2_5.out.lt)
            have R6_17_4 := Lib.hid (R6_2_5.out.below hb R6_2_5.out.lt)
            have P3_17_4 := Lib.hid (P3_2_5.out.below hb)
            have NE_17 : Hid (wa2_5.heap.size ≠ q2_5) := (show _ ≠ _ from by have := R6_2_5.out.lt; omega)
            have HPLR5 : Hid (P4 < wa2_5.heap.size ∧ w.heap.size ≤ wa2_5.heap.size) := ⟨RX_2_5.out.lt, HB_2_5.out.size⟩
            clear hb
            obtain ⟨wa17_4, hw2⟩ : ∃ wa17_4, wa17_4 = wa2_5.alloc (.cells zcs.toArray 46) := ⟨_, rfl⟩
            obtain ⟨q17_4, hq⟩ : ∃ q17_4, q17_4 = wa2_5.heap.size := ⟨_, rfl⟩
            change K _ (wa2_5.alloc (.cells zcs.toArray 46))
            rw [← hw2] at R5_17_4 R6_17_4 P3_17_4 HB_17_4 RX_17_4 ⊢
            rw [← hq] at HPLR5 R5_17_4 NE_17 ⊢
            clear hw2 hq
            refine hK _ _ RX_17_4.out (fun _ => ?_)
            clear hK K
            try simp only [Act.put, List.setIfInBounds_toArray, List.set_cons_zero, List.set_cons_succ]
            refine wpAnyH_ready (rs := [3]) (by kernel_rfl) (by simp) ?_
            refine (AllReadyH.cons rfl (fun K hK => ?_) AllReadyH.nil)
            go_simp
            refine (short_any num lsn f s w.heap.size wa17_4 (HX.out.below HB_17_4.out) HB_17_4.out.size).mono ?_
            rintro e wa21_3 ⟨s4, rfl, hpo, hb⟩
            have HB_21_3 := Lib.hid (HB_17_4.out.trans (hb.mono HB_17_4.out.size))
            have RX_21_3 := Lib.hid (RX_17_4.out.below hb RX_17_4.out.lt)
            have P4_21_3 := Lib.hid (hpo.mono HB_17_4.out.size)
            have R5_21_3 := Lib.hid (R5_17_4.out.below hb R5_17_4.out.lt)
            have R6_21_3 := Lib.hid (R6_17_4.out.below hb R6_17_4.out.lt)
            have P3_21_3 := Lib.hid (P3_17_4.out.below hb)
            clear hpo hb
            refine hK _ _ RX_21_3.out (fun _ => ?_)
            clear hK K
            try simp only [Act.put, List.setIfInBounds_toArray, List.set_cons_zero, List.set_cons_succ]
            refine wpAnyH_ready (rs := [6]) (by kernel_rfl) (by simp) ?_
            refine (AllReadyH.cons rfl (fun K hK => ?_) AllReadyH.nil)
            refine wp_store_whole 46 (.tmp 5) (.tmp 27) rfl q17_4 (pcs num lsn s3) rfl rfl 46 zcs R5_21_3.out rfl pcs_one page_info ?_
            intro wa22_6 hr hg
            have R5_22_6 := Lib.hid hr
            have R6_22_6 := Lib.hid (R6_21_3.out.grown hg (fun e => NE_17.out (by have := Option.some.inj e; omega)))
            have RX_22_6 := Lib.hid (RX_21_3.out.grown hg (fun e => by have e1 := Option.some.inj e; have := HPLR5.out.1; omega))
            have P3_22_6 := Lib.hid (PO.grown P3_21_3.out hg R5_21_3.out)
            have P4_22_6 := Lib.hid (PO.grown P4_21_3.out hg R5_21_3.out)
            have HB_22_6 := Lib.hid (HB_21_3.out.grown hg HB_21_3.out.size (fun k hk => by have e1 := Option.some.inj hk; have := HPLR5.out.2; omega))
            clear hr hg
            refine hK _ _ RX_22_6.out (fun _ => ?_)
            clear hK K
            try simp only [Act.put, List.setIfInBounds_toArray, List.set_cons_zero, List.set_cons_succ]
            refine wpAnyH_ready (rs := [7]) (by kernel_rfl) (by simp) ?_
            refine (AllReadyH.cons rfl (fun K hK => ?_) AllReadyH.nil)
            refine wp_store_whole 46 (.tmp 6) (.tmp 29) rfl q2_5 (pcs num lsn s4) rfl rfl 46 zcs R6_22_6.out rfl pcs_one page_info ?_
            intro wa23_7 hr hg
            have R6_23_7 := Lib.hid hr
            have R5_23_7 := Lib.hid (R5_22_6.out.grown hg (fun e => NE_17.out (by have := Option.some.inj e; omega)))
            have RX_23_7 := Lib.hid (RX_22_6.out.grown hg (fun e => by have e1 := Option.some.inj e; have := HPLR6.out.1; omega))
            have P3_23_7 := Lib.hid (PO.grown P3_22_6.out hg R6_22_6.out)
            have P4_23_7 := Lib.hid (PO.grown P4_22_6.out hg R6_22_6.out)
            have HB_23_7 := Lib.hid (HB_22_6.out.grown hg HB_22_6.out.size (fun k hk => by have e1 := Option.some.inj hk; have := HPLR6.out.2; omega))
            clear hr hg
            refine hK _ _ RX_23_7.out (fun _ => ?_)
            clear hK K
            try simp only [Act.put, List.setIfInBounds_toArray, List.set_cons_zero, List.set_cons_succ]
            refine wpAnyH_done (by kernel_rfl) ?_ _
            go_wp2_with fail
            go_meet
            exact ⟨_, _, s3, s4, rfl, rfl, R5_23_7.out, R6_23_7.out, P3_23_7.out.at_, P4_23_7.out.at_, HB_23_7.out, NE_17.out⟩
      · skip
        go_simp
        have R5_1_4 := Lib.hid (Row.new w7 46 zcs)
        have hb : Below w7.heap.size w7 (w7.alloc (.cells zcs.toArray 46)) := (Below.refl _ _).alloc (Nat.le_refl _) _
        have HB_1_4 := Lib.hid (HBd.out.trans (hb.mono HBd.out.size))
        have RX_1_4 := Lib.hid (RXd.out.below hb RXd.out.lt)
        have HPLR5 : Hid (P4 < w7.heap.size ∧ w.heap.size ≤ w7.heap.size) := ⟨RXd.out.lt, HBd.out.size⟩
        clear hb
        obtain ⟨wa1_4, hw2⟩ : ∃ wa1_4, wa1_4 = w7.alloc (.cells zcs.toArray 46) := ⟨_, rfl⟩
        obtain ⟨q1_4, hq⟩ : ∃ q1_4, q1_4 = w7.heap.size := ⟨_, rfl⟩
        change K _ (w7.alloc (.cells zcs.toArray 46))
        rw [← hw2] at R5_1_4 HB_1_4 RX_1_4 ⊢
        rw [← hq] at HPLR5 R5_1_4 ⊢
        clear hw2 hq
        refine hK _ _ RX_1_4.out (fun _ => ?_)
        clear hK K
        try simp only [Act.put, List.setIfInBounds_toArray, List.set_cons_zero, List.set_cons_succ]
        refine wpAnyH_ready (rs := [1, 5]) (by kernel_rfl) (by simp) ?_
        refine (AllReadyH.cons rfl (fun K hK => ?_) (AllReadyH.cons rfl (fun K hK => ?_) AllReadyH.nil))
        · skip
          go_simp
          refine (short_any num lsn f s w.heap.size wa1_4 (HX.out.below HB_1_4.out) HB_1_4.out.size).mono ?_
          rintro e wa24_1 ⟨s3, rfl, hpo, hb⟩
          have HB_24_1 := Lib.hid (HB_1_4.out.trans (hb.mono HB_1_4.out.size))
          have RX_24_1 := Lib.hid (RX_1_4.out.below hb RX_1_4.out.lt)
          have P3_24_1 := Lib.hid (hpo.mono HB_1_4.out.size)
          have R5_24_1 := Lib.hid (R5_1_4.out.below hb R5_1_4.out.lt)
          clear hpo hb
          refine hK _ _ RX_24_1.out (fun _ => ?_)
          clear hK K
          try simp only [Act.put, List.setIfInBounds_toArray, List.set_cons_zero, List.set_cons_succ]
          refine wpAnyH_ready (rs := [3, 5]) (by kernel_rfl) (by simp) ?_
          refine (AllReadyH.cons rfl (fun K hK => ?_) (AllReadyH.cons rfl (fun K hK => ?_) AllReadyH.nil))
          · skip
            go_simp
            refine (short_any num lsn f s w.heap.size wa24_1 (HX.out.below HB_24_1.out) HB_24_1.out.size).mono ?_
            rintro e wa25_3 ⟨s4, rfl, hpo, hb⟩
            have HB_25_3 := Lib.hid (HB_24_1.out.trans (hb.mono HB_24_1.out.size))
            have RX_25_3 := Lib.hid (RX_24_1.out.below hb RX_24_1.out.lt)
            have P4_25_3 := Lib.hid (hpo.mono HB_24_1.out.size)
            have R5_25_3 := Lib.hid (R5_24_1.out.below hb R5_24_1.out.lt)
            have P3_25_3 := Lib.hid (P3_24_1.out.below hb)
            clear hpo hb
            refine hK _ _ RX_25_3.out (fun _ => ?_)
            clear hK K
            try simp only [Act.put, List.setIfInBounds_toArray, List.set_cons_zero, List.set_cons_succ]
            refine wpAnyH_ready (rs := [5]) (by kernel_rfl) (by simp) ?_
            refine (AllReadyH.cons rfl (fun K hK => ?_) AllReadyH.nil)
            go_simp
            have R6_26_5 := Lib.hid (Row.new wa25_3 46 zcs)
            have hb : Below wa25_3.heap.size wa25_3 (wa25_3.alloc (.cells zcs.toArray 46)) := (Below.refl _ _).alloc (Nat.le_refl _) _
            have HB_26_5 := Lib.hid (HB_25_3.out.trans (hb.mono HB_25_3.out.size))
            have RX_26_5 := Lib.hid (RX_25_3.out.below hb RX_25_3.out.lt)
            have R5_26_5 := Lib.hid (R5_25_3.out.below hb R5_25_3.out.lt)
            have P3_26_5 := Lib.hid (P3_25_3.out.below hb)
            have P4_26_5 := Lib.hid (P4_25_3.out.below hb)
            have NE_26 : Hid (q1_4 ≠ wa25_3.heap.size) := (show _ ≠ _ from by have := R5_25_3.out.lt; omega)
            have HPLR6 : Hid (P4 < wa25_3.heap.size ∧ w.heap.size ≤ wa25_3.heap.size) := ⟨RX_25_3.out.lt, HB_25_3.out.size⟩
            clear hb
            obtain ⟨wa26_5, hw2⟩ : ∃ wa26_5, wa26_5 = wa25_3.alloc (.cells zcs.toArray 46) := ⟨_, rfl⟩
            obtain ⟨q26_5, hq⟩ : ∃ q26_5, q26_5 = wa25_3.heap.size := ⟨_, rfl⟩
            change K _ (wa25_3.alloc (.cells zcs.toArray 46))
            rw [← hw2] at R5_26_5 R6_26_5 P3_26_5 P4_26_5 HB_26_5 RX_26_5 ⊢
            rw [← hq] at HPLR6 R6_26_5 NE_26 ⊢
            clear hw2 hq
            refine hK _ _ RX_26_5.out (fun _ => ?_)
            clear hK K
            try simp only [Act.put, List.setIfInBounds_toArray, List.set_cons_zero, List.set_cons_succ]
            refine wpAnyH_ready (rs := [6]) (by kernel_rfl) (by simp) ?_
            refine (AllReadyH.cons rfl (fun K hK => ?_) AllReadyH.nil)
            refine wp_store_whole 46 (.tmp 5) (.tmp 27) rfl q1_4 (pcs num lsn s3) rfl rfl 46 zcs R5_26_5.out rfl pcs_one page_info ?_
            intro wa27_6 hr hg
            have R5_27_6 := Lib.hid hr
            have R6_27_6 := Lib.hid (R6_26_5.out.grown hg (fun e => NE_26.out (by have := Option.some.inj e; omega)))
            have RX_27_6 := Lib.hid (RX_26_5.out.grown hg (fun e => by have e1 := Option.some.inj e; have := HPLR5.out.1; omega))
            have P3_27_6 := Lib.hid (PO.grown P3_26_5.out hg R5_26_5.out)
            have P4_27_6 := Lib.hid (PO.grown P4_26_5.out hg R5_26_5.out)
            have HB_27_6 := Lib.hid (HB_26_5.out.grown hg HB_26_5.out.size (fun k hk => by have e1 := Option.some.inj hk; have := HPLR5.out.2; omega))
            clear hr hg
            refine hK _ _ RX_27_6.out (fun _ => ?_)
            clear hK K
            try simp only [Act.put, List.setIfInBounds_toArray, List.set_cons_zero, List.set_cons_succ]
            refine wpAnyH_ready (rs := [7]) (by kernel_rfl) (by simp) ?_
            refine (AllReadyH.cons rfl (fun K hK => ?_) AllReadyH.nil)
            refine wp_store_whole 46 (.tmp 6) (.tmp 29) rfl q26_5 (pcs num lsn s4) rfl rfl 46 zcs R6_27_6.out rfl pcs_one page_info ?_
            intro wa28_7 hr hg
            have R6_28_7 := Lib.hid hr
            have R5_28_7 := Lib.hid (R5_27_6.out.grown hg (fun e => NE_26.out (by have := Option.some.inj e; omega)))
            have RX_28_7 := Lib.hid (RX_27_6.out.grown hg (fun e => by have e1 := Option.some.inj e; have := HPLR6.out.1; omega))
            have P3_28_7 := Lib.hid (PO.grown P3_27_6.out hg R6_27_6.out)
            have P4_28_7 := Lib.hid (PO.grown P4_27_6.out hg R6_27_6.out)
            have HB_28_7 := Lib.hid (HB_27_6.out.grown hg HB_27_6.out.size (fun k hk => by have e1 := Option.some.inj hk; have := HPLR6.out.2; omega))
            clear hr hg
            refine hK _ _ RX_28_7.out (fun _ => ?_)
            clear hK K
            try simp only [Act.put, List.setIfInBounds_toArray, List.set_cons_zero, List.set_cons_succ]
            refine wpAnyH_done (by kernel_rfl) ?_ _
            go_wp2_with fail
            go_meet
            exact ⟨_, _, s3, s4, rfl, rfl, R5_28_7.out, R6_28_7.out, P3_28_7.out.at_, P4_28_7.out.at_, HB_28_7.out, NE_26.out⟩
          · skip
            go_simp
            have R6_25_5 := Lib.hid (Row.new wa24_1 46 zcs)
            have hb : Below wa24_1.heap.size wa24_1 (wa24_1.alloc (.cells zcs.toArray 46)) := (Below.refl _ _).alloc (Nat.le_refl _) _
            have HB_25_5 := Lib.hid (HB_24_1.out.trans (hb.mono HB_24_1.out.size))
            have RX_25_5 := Lib.hid (RX_24_1.out.below hb RX_24_1.out.lt)
            have R5_25_5 := Lib.hid (R5_24_1.out.below hb R5_24_1.out.lt)
            have P3_25_5 := Lib.hid (P3_24_1.out.below hb)
            have NE_25 : Hid (q1_4 ≠ wa24_1.heap.size) := (show _ ≠ _ from by have := R5_24_1.out.lt; omega)
            have HPLR6 : Hid (P4 < wa24_1.heap.size ∧ w.heap.size ≤ wa24_1.heap.size) := ⟨RX_24_1.out.lt, HB_24_1.out.size⟩
            clear hb
            obtain ⟨wa25_5, hw2⟩ : ∃ wa25_5, wa25_5 = wa24_1.alloc (.cells zcs.toArray 46) := ⟨_, rfl⟩
            obtain ⟨q25_5, hq⟩ : ∃ q25_5, q25_5 = wa24_1.heap.size := ⟨_, rfl⟩
            change K _ (wa24_1.alloc (.cells zcs.toArray 46))
            rw [← hw2] at R5_25_5 R6_25_5 P3_25_5 HB_25_5 RX_25_5 ⊢
            rw [← hq] at HPLR6 R6_25_5 NE_25 ⊢
            clear hw2 hq
            refine hK _ _ RX_25_5.out (fun _ => ?_)
            clear hK K
            try simp only [Act.put, List.setIfInBounds_toArray, List.set_cons_zero, List.set_cons_succ]
            refine wpAnyH_ready (rs := [3]) (by kernel_rfl) (by simp) ?_
            refine (AllReadyH.cons rfl (fun K hK => ?_) AllReadyH.nil)
            go_simp
            refine (short_any num lsn f s w.heap.size wa25_5 (HX.out.below HB_25_5.out) HB_25_5.out.size).mono ?_
            rintro e wa29_3 ⟨s4, rfl, hpo, hb⟩
            have HB_29_3 := Lib.hid (HB_25_5.out.trans (hb.mono HB_25_5.out.size))
            have RX_29_3 := Lib.hid (RX_25_5.out.below hb RX_25_5.out.lt)
            have P4_29_3 := Lib.hid (hpo.mono HB_25_5.out.size)
            have R5_29_3 := Lib.hid (R5_25_5.out.below hb R5_25_5.out.lt)
            have R6_29_3 := Lib.hid (R6_25_5.out.below hb R6_25_5.out.lt)
            have P3_29_3 := Lib.hid (P3_25_5.out.below hb)
            clear hpo hb
            refine hK _ _ RX_29_3.out (fun _ => ?_)
            clear hK K
            try simp only [Act.put, List.setIfInBounds_toArray, List.set_cons_zero, List.set_cons_succ]
            refine wpAnyH_ready (rs := [6]) (by kernel_rfl) (by simp) ?_
            refine (AllReadyH.cons rfl (fun K hK => ?_) AllReadyH.nil)
            refine wp_store_whole 46 (.tmp 5) (.tmp 27) rfl q1_4 (pcs num lsn s3) rfl rfl 46 zcs R5_29_3.out rfl pcs_one page_info ?_
            intro wa30_6 hr hg
            have R5_30_6 := Lib.hid hr
            have R6_30_6 := Lib.hid (R6_29_3.out.grown hg (fun e => NE_25.out (by have := Option.some.inj e; omega)))
            have RX_30_6 := Lib.hid (RX_29_3.out.grown hg (fun e => by have e1 := Option.some.inj e; have := HPLR5.out.1; omega))
            have P3_30_6 := Lib.hid (PO.grown P3_29_3.out hg R5_29_3.out)
            have P4_30_6 := Lib.hid (PO.grown P4_29_3.out hg R5_29_3.out)
            have HB_30_6 := Lib.hid (HB_29_3.out.grown hg HB_29_3.out.size (fun k hk => by have e1 := Option.some.inj hk; have := HPLR5.out.2; omega))
            clear hr hg
            refine hK _ _ RX_30_6.out (fun _ => ?_)
            clear hK K
            try simp only [Act.put, List.setIfInBounds_toArray, List.set_cons_zero, List.set_cons_succ]
            refine wpAnyH_ready (rs := [7]) (by kernel_rfl) (by simp) ?_
            refine (AllReadyH.cons rfl (fun K hK => ?_) AllReadyH.nil)
            refine wp_store_whole 46 (.tmp 6) (.tmp 29) rfl q25_5 (pcs num lsn s4) rfl rfl 46 zcs R6_30_6.out rfl pcs_one page_info ?_
            intro wa31_7 hr hg
            have R6_31_7 := Lib.hid hr
            have R5_31_7 := Lib.hid (R5_30_6.out.grown hg (fun e => NE_25.out (by have := Option.some.inj e; omega)))
            have RX_31_7 := Lib.hid (RX_30_6.out.grown hg (fun e => by have e1 := Option.some.inj e; have := HPLR6.out.1; omega))
            have P3_31_7 := Lib.hid (PO.grown P3_30_6.out hg R6_30_6.out)
            have P4_31_7 := Lib.hid (PO.grown P4_30_6.out hg R6_30_6.out)
            have HB_31_7 := Lib.hid (HB_30_6.out.grown hg HB_30_6.out.size (fun k hk => by have e1 := Option.some.inj hk; have := HPLR6.out.2; omega))
            clear hr hg
            refine hK _ _ RX_31_7.out (fun _ => ?_)
            clear hK K
            try simp only [Act.put, List.setIfInBounds_toArray, List.set_cons_zero, List.set_cons_succ]
            refine wpAnyH_done (by kernel_rfl) ?_ _
            go_wp2_with fail
            go_meet
            exact ⟨_, _, s3, s4, rfl, rfl, R5_31_7.out, R6_31_7.out, P3_31_7.out.at_, P4_31_7.out.at_, HB_31_7.out, NE_25.out⟩
        · skip
          go_simp
          have R6_24_5 := Lib.hid (Row.new wa1_4 46 zcs)
          have hb : Below wa1_4.heap.size wa1_4 (wa1_4.alloc (.cells zcs.toArray 46)) := (Below.refl _ _).alloc (Nat.le_refl _) _
          have HB_24_5 := Lib.hid (HB_1_4.out.trans (hb.mono HB_1_4.out.size))
          have RX_24_5 := Lib.hid (RX_1_4.out.below hb RX_1_4.out.lt)
          have R5_24_5 := Lib.hid (R5_1_4.out.below hb R5_1_4.out.lt)
          have NE_24 : Hid (q1_4 ≠ wa1_4.heap.size) := (show _ ≠ _ from by have := R5_1_4.out.lt; omega)
          have HPLR6 : Hid (P4 < wa1_4.heap.size ∧ w.heap.size ≤ wa1_4.heap.size) := ⟨RX_1_4.out.lt, HB_1_4.out.size⟩
          clear hb
          obtain ⟨wa24_5, hw2⟩ : ∃ wa24_5, wa24_5 = wa1_4.alloc (.cells zcs.toArray 46) := ⟨_, rfl⟩
          obtain ⟨q24_5, hq⟩ : ∃ q24_5, q24_5 = wa1_4.heap.size := ⟨_, rfl⟩
          change K _ (wa1_4.alloc (.cells zcs.toArray 46))
          rw [← hw2] at R5_24_5 R6_24_5 HB_24_5 RX_24_5 ⊢
          rw [← hq] at HPLR6 R6_24_5 NE_24 ⊢
          clear hw2 hq
          refine hK _ _ RX_24_5.out (fun _ => ?_)
          clear hK K
          try simp only [Act.put, List.setIfInBounds_toArray, List.set_cons_zero, List.set_cons_succ]
          refine wpAnyH_ready (rs := [1]) (by kernel_rfl) (by simp) ?_
          refine (AllReadyH.cons rfl (fun K hK => ?_) AllReadyH.nil)
          go_simp
          refine (short_any num lsn f s w.heap.size wa24_5 (HX.out.below HB_24_5.out) HB_24_5.out.size).mono ?_
          rintro e wa32_1 ⟨s3, rfl, hpo, hb⟩
          have HB_32_1 := Lib.hid (HB_24_5.out.trans (hb.mono HB_24_5.out.size))
          have RX_32_1 := Lib.hid (RX_24_5.out.below hb RX_24_5.out.lt)
          have P3_32_1 := Lib.hid (hpo.mono HB_24_5.out.size)
          have R5_32_1 := Lib.hid (R5_24_5.out.below hb R5_24_5.out.lt)
          have R6_32_1 := Lib.hid (R6_24_5.out.below hb R6_24_5.out.lt)
          clear hpo hb
          refine hK _ _ RX_32_1.out (fun _ => ?_)
          clear hK K
          try simp only [Act.put, List.setIfInBounds_toArray, List.set_cons_zero, List.set_cons_succ]
          refine wpAnyH_ready (rs := [3]) (by kernel_rfl) (by simp) ?_
          refine (AllReadyH.cons rfl (fun K hK => ?_) AllReadyH.nil)
          go_simp
          refine (short_any num lsn f s w.heap.size wa32_1 (HX.out.below HB_32_1.out) HB_32_1.out.size).mono ?_
          rintro e wa33_3 ⟨s4, rfl, hpo, hb⟩
          have HB_33_3 := Lib.hid (HB_32_1.out.trans (hb.mono HB_32_1.out.size))
          have RX_33_3 := Lib.hid (RX_32_1.out.below hb RX_32_1.out.lt)
          have P4_33_3 := Lib.hid (hpo.mono HB_32_1.out.size)
          have R5_33_3 := Lib.hid (R5_32_1.out.below hb R5_32_1.out.lt)
          have R6_33_3 := Lib.hid (R6_32_1.out.below hb R6_32_1.out.lt)
          have P3_33_3 := Lib.hid (P3_32_1.out.below hb)
          clear hpo hb
          refine hK _ _ RX_33_3.out (fun _ => ?_)
          clear hK K
          try simp only [Act.put, List.setIfInBounds_toArray, List.set_cons_zero, List.set_cons_succ]
          refine wpAnyH_ready (rs := [6]) (by kernel_rfl) (by simp) ?_
          refine (AllReadyH.cons rfl (fun K hK => ?_) AllReadyH.nil)
          refine wp_store_whole 46 (.tmp 5) (.tmp 27) rfl q1_4 (pcs num lsn s3) rfl rfl 46 zcs R5_33_3.out rfl pcs_one page_info ?_
          intro wa34_6 hr hg
          have R5_34_6 := Lib.hid hr
          have R6_34_6 := Lib.hid (R6_33_3.out.grown hg (fun e => NE_24.out (by have := Option.some.inj e; omega)))
          have RX_34_6 := Lib.hid (RX_33_3.out.grown hg (fun e => by have e1 := Option.some.inj e; have := HPLR5.out.1; omega))
          have P3_34_6 := Lib.hid (PO.grown P3_33_3.out hg R5_33_3.out)
          have P4_34_6 := Lib.hid (PO.grown P4_33_3.out hg R5_33_3.out)
          have HB_34_6 := Lib.hid (HB_33_3.out.grown hg HB_33_3.out.size (fun k hk => by have e1 := Option.some.inj hk; have := HPLR5.out.2; omega))
          clear hr hg
          refine hK _ _ RX_34_6.out (fun _ => ?_)
          clear hK K
          try simp only [Act.put, List.setIfInBounds_toArray, List.set_cons_zero, List.set_cons_succ]
          refine wpAnyH_ready (rs := [7]) (by kernel_rfl) (by simp) ?_
          refine (AllReadyH.cons rfl (fun K hK => ?_) AllReadyH.nil)
          refine wp_store_whole 46 (.tmp 6) (.tmp 29) rfl q24_5 (pcs num lsn s4) rfl rfl 46 zcs R6_34_6.out rfl pcs_one page_info ?_
          intro wa35_7 hr hg
          have R6_35_7 := Lib.hid hr
          have R5_35_7 := Lib.hid (R5_34_6.out.grown hg (fun e => NE_24.out (by have := Option.some.inj e; omega)))
          have RX_35_7 := Lib.hid (RX_34_6.out.grown hg (fun e => by have e1 := Option.some.inj e; have := HPLR6.out.1; omega))
          have P3_35_7 := Lib.hid (PO.grown P3_34_6.out hg R6_34_6.out)
          have P4_35_7 := Lib.hid (PO.grown P4_34_6.out hg R6_34_6.out)
          have HB_35_7 := Lib.hid (HB_34_6.out.grown hg HB_34_6.out.size (fun k hk => by have e1 := Option.some.inj hk; have := HPLR6.out.2; omega))
          clear hr hg
          refine hK _ _ RX_35_7.out (fun _ => ?_)
          clear hK K
          try simp only [Act.put, List.setIfInBounds_toArray, List.set_cons_zero, List.set_cons_succ]
          refine wpAnyH_done (by kernel_rfl) ?_ _
          go_wp2_with fail
          go_meet
          exact ⟨_, _, s3, s4, rfl, rfl, R5_35_7.out, R6_35_7.out, P3_35_7.out.at_, P4_35_7.out.at_, HB_35_7.out, NE_24.out⟩
      · skip
        go_simp
        have R6_1_5 := Lib.hid (Row.new w7 46 zcs)
        have hb : Below w7.heap.size w7 (w7.alloc (.cells zcs.toArray 46)) := (Below.refl _ _).alloc (Nat.le_refl _) _
        have HB_1_5 := Lib.hid (HBd.out.trans (hb.mono HBd.out.size))
        have RX_1_5 := Lib.hid (RXd.out.below hb RXd.out.lt)
        have HPLR6 : Hid (P4 < w7.heap.size ∧ w.heap.size ≤ w7.heap.size) := ⟨RXd.out.lt, HBd.out.size⟩
        clear hb
        obtain ⟨wa1_5, hw2⟩ : ∃ wa1_5, wa1_5 = w7.alloc (.cells zcs.toArray 46) := ⟨_, rfl⟩
        obtain ⟨q1_5, hq⟩ : ∃ q1_5, q1_5 = w7.heap.size := ⟨_, rfl⟩
        change K _ (w7.alloc (.cells zcs.toArray 46))
        rw [← hw2] at R6_1_5 HB_1_5 RX_1_5 ⊢
        rw [← hq] at HPLR6 R6_1_5 ⊢
        clear hw2 hq
        refine hK _ _ RX_1_5.out (fun _ => ?_)
        clear hK K
        try simp only [Act.put, List.setIfInBounds_toArray, List.set_cons_zero, List.set_cons_succ]
        refine wpAnyH_ready (rs := [1, 4]) (by kernel_rfl) (by simp) ?_
        refine (AllReadyH.cons rfl (fun K hK => ?_) (AllReadyH.cons rfl (fun K hK => ?_) AllReadyH.nil))
        · skip
          go_simp
          refine (short_any num lsn f s w.heap.size wa1_5 (HX.out.below HB_1_5.out) HB_1_5.out.size).mono ?_
          rintro e wa36_1 ⟨s3, rfl, hpo, hb⟩
          have HB_36_1 := Lib.hid (HB_1_5.out.trans (hb.mono HB_1_5.out.size))
          have RX_36_1 := Lib.hid (RX_1_5.out.below hb RX_1_5.out.lt)
          have P3_36_1 := Lib.hid (hpo.mono HB_1_5.out.size)
          have R6_36_1 := Lib.hid (R6_1_5.out.below hb R6_1_5.out.lt)
          clear hpo hb
          refine hK _ _ RX_36_1.out (fun _ => ?_)
          clear hK K
          try simp only [Act.put, List.setIfInBounds_toArray, List.set_cons_zero, List.set_cons_succ]
          refine wpAnyH_ready (rs := [3, 4]) (by kernel_rfl) (by simp) ?_
          refine (AllReadyH.cons rfl (fun K hK => ?_) (AllReadyH.cons rfl (fun K hK => ?_) AllReadyH.nil))
          · skip
            go_simp
            refine (short_any num lsn f s w.heap.size wa36_1 (HX.out.below HB_36_1.out) HB_36_1.out.size).mono ?_
            rintro e wa37_3 ⟨s4, rfl, hpo, hb⟩
            have HB_37_3 := Lib.hid (HB_36_1.out.trans (hb.mono HB_36_1.out.size))
            have RX_37_3 := Lib.hid (RX_36_1.out.below hb RX_36_1.out.lt)
            have P4_37_3 := Lib.hid (hpo.mono HB_36_1.out.size)
            have R6_37_3 := Lib.hid (R6_36_1.out.below hb R6_36_1.out.lt)
            have P3_37_3 := Lib.hid (P3_36_1.out.below hb)
            clear hpo hb
            refine hK _ _ RX_37_3.out (fun _ => ?_)
            clear hK K
            try simp only [Act.put, List.setIfInBounds_toArray, List.set_cons_zero, List.set_cons_succ]
            refine wpAnyH_ready (rs := [4]) (by kernel_rfl) (by simp) ?_
            refine (AllReadyH.cons rfl (fun K hK => ?_) AllReadyH.nil)
            go_simp
            have R5_38_4 := Lib.hid (Row.new wa37_3 46 zcs)
            have hb : Below wa37_3.heap.size wa37_3 (wa37_3.alloc (.cells zcs.toArray 46)) := (Below.refl _ _).alloc (Nat.le_refl _) _
            have HB_38_4 := Lib.hid (HB_37_3.out.trans (hb.mono HB_37_3.out.size))
            have RX_38_4 := Lib.hid (RX_37_3.out.below hb RX_37_3.out.lt)
            have R6_38_4 := Lib.hid (R6_37_3.out.below hb R6_37_3.out.lt)
            have P3_38_4 := Lib.hid (P3_37_3.out.below hb)
            have P4_38_4 := Lib.hid (P4_37_3.out.below hb)
            have NE_38 : Hid (wa37_3.heap.size ≠ q1_5) := (show _ ≠ _ from by have := R6_37_3.out.lt; omega)
            have HPLR5 : Hid (P4 < wa37_3.heap.size ∧ w.heap.size ≤ wa37_3.heap.size) := ⟨RX_37_3.out.lt, HB_37_3.out.size⟩
            clear hb
            obtain ⟨wa38_4, hw2⟩ : ∃ wa38_4, wa38_4 = wa37_3.alloc (.cells zcs.toArray 46) := ⟨_, rfl⟩
            obtain ⟨q38_4, hq⟩ : ∃ q38_4, q38_4 = wa37_3.heap.size := ⟨_, rfl⟩
            change K _ (wa37_3.alloc (.cells zcs.toArray 46))
            rw [← hw2] at R5_38_4 R6_38_4 P3_38_4 P4_38_4 HB_38_4 RX_38_4 ⊢
            rw [← hq] at HPLR5 R5_38_4 NE_38 ⊢
            clear hw2 hq
            refine hK _ _ RX_38_4.out (fun _ => ?_)
            clear hK K
            try simp only [Act.put, List.setIfInBounds_toArray, List.set_cons_zero, List.set_cons_succ]
            refine wpAnyH_ready (rs := [6]) (by kernel_rfl) (by simp) ?_
            refine (AllReadyH.cons rfl (fun K hK => ?_) AllReadyH.nil)
            refine wp_store_whole 46 (.tmp 5) (.tmp 27) rfl q38_4 (pcs num lsn s3) rfl rfl 46 zcs R5_38_4.out rfl pcs_one page_info ?_
            intro wa39_6 hr hg
            have R5_39_6 := Lib.hid hr
            have R6_39_6 := Lib.hid (R6_38_4.out.grown hg (fun e => NE_38.out (by have := Option.some.inj e; omega)))
            have RX_39_6 := Lib.hid (RX_38_4.out.grown hg (fun e => by have e1 := Option.some.inj e; have := HPLR5.out.1; omega))
            have P3_39_6 := Lib.hid (PO.grown P3_38_4.out hg R5_38_4.out)
            have P4_39_6 := Lib.hid (PO.grown P4_38_4.out hg R5_38_4.out)
            have HB_39_6 := Lib.hid (HB_38_4.out.grown hg HB_38_4.out.size (fun k hk => by have e1 := Option.some.inj hk; have := HPLR5.out.2; omega))
            clear hr hg
            refine hK _ _ RX_39_6.out (fun _ => ?_)
            clear hK K
            try simp only [Act.put, List.setIfInBounds_toArray, List.set_cons_zero, List.set_cons_succ]
            refine wpAnyH_ready (rs := [7]) (by kernel_rfl) (by simp) ?_
            refine (AllReadyH.cons rfl (fun K hK => ?_) AllReadyH.nil)
            refine wp_store_whole 46 (.tmp 6) (.tmp 29) rfl q1_5 (pcs num lsn s4) rfl rfl 46 zcs R6_39_6.out rfl pcs_one page_info ?_
            intro wa40_7 hr hg
            have R6_40_7 := Lib.hid hr
            have R5_40_7 := Lib.hid (R5_39_6.out.grown hg (fun e => NE_38.out (by have := Option.some.inj e; omega)))
            have RX_40_7 := Lib.hid (RX_39_6.out.grown hg (fun e => by have e1 := Option.some.inj e; have := HPLR6.out.1; omega))
            have P3_40_7 := Lib.hid (PO.grown P3_39_6.out hg R6_39_6.out)
            have P4_40_7 := Lib.hid (PO.grown P4_39_6.out hg R6_39_6.out)
            have HB_40_7 := Lib.hid (HB_39_6.out.grown hg HB_39_6.out.size (fun k hk => by have e1 := Option.some.inj hk; have := HPLR6.out.2; omega))
            clear hr hg
            refine hK _ _ RX_40_7.out (fun _ => ?_)
            clear hK K
            try simp only [Act.put, List.setIfInBounds_toArray, List.set_cons_zero, List.set_cons_succ]
            refine wpAnyH_done (by kernel_rfl) ?_ _
            go_wp2_with fail
            go_meet
            exact ⟨_, _, s3, s4, rfl, rfl, R5_40_7.out, R6_40_7.out, P3_40_7.out.at_, P4_40_7.out.at_, HB_40_7.out, NE_38.out⟩
          · skip
            go_simp
            have R5_37_4 := Lib.hid (Row.new wa36_1 46 zcs)
            have hb : Below wa36_1.heap.size wa36_1 (wa36_1.alloc (.cells zcs.toArray 46)) := (Below.refl _ _).alloc (Nat.le_refl _) _
            have HB_37_4 := Lib.hid (HB_36_1.out.trans (hb.mono HB_36_1.out.size))
            have RX_37_4 := Lib.hid (RX_36_1.out.below hb RX_36_1.out.lt)
            have R6_37_4 := Lib.hid (R6_36_1.out.below hb R6_36_1.out.lt)
            have P3_37_4 := Lib.hid (P3_36_1.out.below hb)
            have NE_37 : Hid (wa36_1.heap.size ≠ q1_5) := (show _ ≠ _ from by have := R6_36_1.out.lt; omega)
            have HPLR5 : Hid (P4 < wa36_1.heap.size ∧ w.heap.size ≤ wa36_1.heap.size) := ⟨RX_36_1.out.lt, HB_36_1.out.size⟩
            clear hb
            obtain ⟨wa37_4, hw2⟩ : ∃ wa37_4, wa37_4 = wa36_1.alloc (.cells zcs.toArray 46) := ⟨_, rfl⟩
            obtain ⟨q37_4, hq⟩ : ∃ q37_4, q37_4 = wa36_1.heap.size := ⟨_, rfl⟩
            change K _ (wa36_1.alloc (.cells zcs.toArray 46))
            rw [← hw2] at R5_37_4 R6_37_4 P3_37_4 HB_37_4 RX_37_4 ⊢
            rw [← hq] at HPLR5 R5_37_4 NE_37 ⊢
            clear hw2 hq
            refine hK _ _ RX_37_4.out (fun _ => ?_)
            clear hK K
            try simp only [Act.put, List.setIfInBounds_toArray, List.set_cons_zero, List.set_cons_succ]
            refine wpAnyH_ready (rs := [3]) (by kernel_rfl) (by simp) ?_
            refine (AllReadyH.cons rfl (fun K hK => ?_) AllReadyH.nil)
            go_simp
            refine (short_any num lsn f s w.heap.size wa37_4 (HX.out.below HB_37_4.out) HB_37_4.out.size).mono ?_
            rintro e wa41_3 ⟨s4, rfl, hpo, hb⟩
            have HB_41_3 := Lib.hid (HB_37_4.out.trans (hb.mono HB_37_4.out.size))
            have RX_41_3 := Lib.hid (RX_37_4.out.below hb RX_37_4.out.lt)
            have P4_41_3 := Lib.hid (hpo.mono HB_37_4.out.size)
            have R5_41_3 := Lib.hid (R5_37_4.out.below hb R5_37_4.out.lt)
            have R6_41_3 := Lib.hid (R6_37_4.out.below hb R6_37_4.out.lt)
            have P3_41_3 := Lib.hid (P3_37_4.out.below hb)
            clear hpo hb
            refine hK _ _ RX_41_3.out (fun _ => ?_)
            clear hK K
            try simp only [Act.put, List.setIfInBounds_toArray, List.set_cons_zero, List.set_cons_succ]
            refine wpAnyH_ready (rs := [6]) (by kernel_rfl) (by simp) ?_
            refine (AllReadyH.cons rfl (fun K hK => ?_) AllReadyH.nil)
            refine wp_store_whole 46 (.tmp 5) (.tmp 27) rfl q37_4 (pcs num lsn s3) rfl rfl 46 zcs R5_41_3.out rfl pcs_one page_info ?_
            intro wa42_6 hr hg
            have R5_42_6 := Lib.hid hr
            have R6_42_6 := Lib.hid (R6_41_3.out.grown hg (fun e => NE_37.out (by have := Option.some.inj e; omega)))
            have RX_42_6 := Lib.hid (RX_41_3.out.grown hg (fun e => by have e1 := Option.some.inj e; have := HPLR5.out.1; omega))
            have P3_42_6 := Lib.hid (PO.grown P3_41_3.out hg R5_41_3.out)
            have P4_42_6 := Lib.hid (PO.grown P4_41_3.out hg R5_41_3.out)
            have HB_42_6 := Lib.hid (HB_41_3.out.grown hg HB_41_3.out.size (fun k hk => by have e1 := Option.some.inj hk; have := HPLR5.out.2; omega))
            clear hr hg
            refine hK _ _ RX_42_6.out (fun _ => ?_)
            clear hK K
            try simp only [Act.put, List.setIfInBounds_toArray, List.set_cons_zero, List.set_cons_succ]
            refine wpAnyH_ready (rs := [7]) (by kernel_rfl) (by simp) ?_
            refine (AllReadyH.cons rfl (fun K hK => ?_) AllReadyH.nil)
            refine wp_store_whole 46 (.tmp 6) (.tmp 29) rfl q1_5 (pcs num lsn s4) rfl rfl 46 zcs R6_42_6.out rfl pcs_one page_info ?_
            intro wa43_7 hr hg
            have R6_43_7 := Lib.hid hr
            have R5_43_7 := Lib.hid (R5_42_6.out.grown hg (fun e => NE_37.out (by have := Option.some.inj e; omega)))
            have RX_43_7 := Lib.hid (RX_42_6.out.grown hg (fun e => by have e1 := Option.some.inj e; have := HPLR6.out.1; omega))
            have P3_43_7 := Lib.hid (PO.grown P3_42_6.out hg R6_42_6.out)
            have P4_43_7 := Lib.hid (PO.grown P4_42_6.out hg R6_42_6.out)
            have HB_43_7 := Lib.hid (HB_42_6.out.grown hg HB_42_6.out.size (fun k hk => by have e1 := Option.some.inj hk; have := HPLR6.out.2; omega))
            clear hr hg
            refine hK _ _ RX_43_7.out (fun _ => ?_)
            clear hK K
            try simp only [Act.put, List.setIfInBounds_toArray, List.set_cons_zero, List.set_cons_succ]
            refine wpAnyH_done (by kernel_rfl) ?_ _
            go_wp2_with fail
            go_meet
            exact ⟨_, _, s3, s4, rfl, rfl, R5_43_7.out, R6_43_7.out, P3_43_7.out.at_, P4_43_7.out.at_, HB_43_7.out, NE_37.out⟩
        · skip
          go_simp
          have R5_36_4 := Lib.hid (Row.new wa1_5 46 zcs)
          have hb : Below wa1_5.heap.size wa1_5 (wa1_5.alloc (.cells zcs.toArray 46)) := (Below.refl _ _).alloc (Nat.le_refl _) _
          have HB_36_4 := Lib.hid (HB_1_5.out.trans (hb.mono HB_1_5.out.size))
          have RX_36_4 := Lib.hid (RX_1_5.out.below hb RX_1_5.out.lt)
          have R6_36_4 := Lib.hid (R6_1_5.out.below hb R6_1_5.out.lt)
          have NE_36 : Hid (wa1_5.heap.size ≠ q1_5) := (show _ ≠ _ from by have := R6_1_5.out.lt; omega)
          have HPLR5 : Hid (P4 < wa1_5.heap.size ∧ w.heap.size ≤ wa1_5.heap.size) := ⟨RX_1_5.out.lt, HB_1_5.out.size⟩
          clear hb
          obtain ⟨wa36_4, hw2⟩ : ∃ wa36_4, wa36_4 = wa1_5.alloc (.cells zcs.toArray 46) := ⟨_, rfl⟩
          obtain ⟨q36_4, hq⟩ : ∃ q36_4, q36_4 = wa1_5.heap.size := ⟨_, rfl⟩
          change K _ (wa1_5.alloc (.cells zcs.toArray 46))
          rw [← hw2] at R5_36_4 R6_36_4 HB_36_4 RX_36_4 ⊢
          rw [← hq] at HPLR5 R5_36_4 NE_36 ⊢
          clear hw2 hq
          refine hK _ _ RX_36_4.out (fun _ => ?_)
          clear hK K
          try simp only [Act.put, List.setIfInBounds_toArray, List.set_cons_zero, List.set_cons_succ]
          refine wpAnyH_ready (rs := [1]) (by kernel_rfl) (by simp) ?_
          refine (AllReadyH.cons rfl (fun K hK => ?_) AllReadyH.nil)
          go_simp
          refine (short_any num lsn f s w.heap.size wa36_4 (HX.out.below HB_36_4.out) HB_36_4.out.size).mono ?_
          rintro e wa44_1 ⟨s3, rfl, hpo, hb⟩
          have HB_44_1 := Lib.hid (HB_36_4.out.trans (hb.mono HB_36_4.out.size))
          have RX_44_1 := Lib.hid (RX_36_4.out.below hb RX_36_4.out.lt)
          have P3_44_1 := Lib.hid (hpo.mono HB_36_4.out.size)
          have R5_44_1 := Lib.hid (R5_36_4.out.below hb R5_36_4.out.lt)
          have R6_44_1 := Lib.hid (R6_36_4.out.below hb R6_36_4.out.lt)
          clear hpo hb
          refine hK _ _ RX_44_1.out (fun _ => ?_)
          clear hK K
          try simp only [Act.put, List.setIfInBounds_toArray, List.set_cons_zero, List.set_cons_succ]
          refine wpAnyH_ready (rs := [3]) (by kernel_rfl) (by simp) ?_
          refine (AllReadyH.cons rfl (fun K hK => ?_) AllReadyH.nil)
          go_simp
          refine (short_any num lsn f s w.heap.size wa44_1 (HX.out.below HB_44_1.out) HB_44_1.out.size).mono ?_
          rintro e wa45_3 ⟨s4, rfl, hpo, hb⟩
          have HB_45_3 := Lib.hid (HB_44_1.out.trans (hb.mono HB_44_1.out.size))
          have RX_45_3 := Lib.hid (RX_44_1.out.below hb RX_44_1.out.lt)
          have P4_45_3 := Lib.hid (hpo.mono HB_44_1.out.size)
          have R5_45_3 := Lib.hid (R5_44_1.out.below hb R5_44_1.out.lt)
          have R6_45_3 := Lib.hid (R6_44_1.out.below hb R6_44_1.out.lt)
          have P3_45_3 := Lib.hid (P3_44_1.out.below hb)
          clear hpo hb
          refine hK _ _ RX_45_3.out (fun _ => ?_)
          clear hK K
          try simp only [Act.put, List.setIfInBounds_toArray, List.set_cons_zero, List.set_cons_succ]
          refine wpAnyH_ready (rs := [6]) (by kernel_rfl) (by simp) ?_
          refine (AllReadyH.cons rfl (fun K hK => ?_) AllReadyH.nil)
          refine wp_store_whole 46 (.tmp 5) (.tmp 27) rfl q36_4 (pcs num lsn s3) rfl rfl 46 zcs R5_45_3.out rfl pcs_one page_info ?_
          intro wa46_6 hr hg
          have R5_46_6 := Lib.hid hr
          have R6_46_6 := Lib.hid (R6_45_3.out.grown hg (fun e => NE_36.out (by have := Option.some.inj e; omega)))
          have RX_46_6 := Lib.hid (RX_45_3.out.grown hg (fun e => by have e1 := Option.some.inj e; have := HPLR5.out.1; omega))
          have P3_46_6 := Lib.hid (PO.grown P3_45_3.out hg R5_45_3.out)
          have P4_46_6 := Lib.hid (PO.grown P4_45_3.out hg R5_45_3.out)
          have HB_46_6 := Lib.hid (HB_45_3.out.grown hg HB_45_3.out.size (fun k hk => by have e1 := Option.some.inj hk; have := HPLR5.out.2; omega))
          clear hr hg
          refine hK _ _ RX_46_6.out (fun _ => ?_)
          clear hK K
          try simp only [Act.put, List.setIfInBounds_toArray, List.set_cons_zero, List.set_cons_succ]
          refine wpAnyH_ready (rs := [7]) (by kernel_rfl) (by simp) ?_
          refine (AllReadyH.cons rfl (fun K hK => ?_) AllReadyH.nil)
          refine wp_store_whole 46 (.tmp 6) (.tmp 29) rfl q1_5 (pcs num lsn s4) rfl rfl 46 zcs R6_46_6.out rfl pcs_one page_info ?_
          intro wa47_7 hr hg
          have R6_47_7 := Lib.hid hr
          have R5_47_7 := Lib.hid (R5_46_6.out.grown hg (fun e => NE_36.out (by have := Option.some.inj e; omega)))
          have RX_47_7 := Lib.hid (RX_46_6.out.grown hg (fun e => by have e1 := Option.some.inj e; have := HPLR6.out.1; omega))
          have P3_47_7 := Lib.hid (PO.grown P3_46_6.out hg R6_46_6.out)
          have P4_47_7 := Lib.hid (PO.grown P4_46_6.out hg R6_46_6.out)
          have HB_47_7 := Lib.hid (HB_46_6.out.grown hg HB_46_6.out.size (fun k hk => by have e1 := Option.some.inj hk; have := HPLR6.out.2; omega))
          clear hr hg
          refine hK _ _ RX_47_7.out (fun _ => ?_)
          clear hK K
          try simp only [Act.put, List.setIfInBounds_toArray, List.set_cons_zero, List.set_cons_succ]
          refine wpAnyH_done (by kernel_rfl) ?_ _
          go_wp2_with fail
          go_meet
          exact ⟨_, _, s3, s4, rfl, rfl, R5_47_7.out, R6_47_7.out, P3_47_7.out.at_, P4_47_7.out.at_, HB_47_7.out, NE_36.out⟩
    case rest =>
    obtain ⟨P5, P6, s3, s4, rfl, rfl, h5, h6, hp3, hp4, hbc, -⟩ := hcut
    obtain ⟨F, hF⟩ : ∃ F, F = shortS f := ⟨_, rfl⟩
    rw [← hF] at hp3 hp4
    clear hF
    obtain ⟨Z, hZ⟩ : ∃ Z, Z = wc.heap.size := ⟨_, rfl⟩
    rw [← hZ] at hp3 hp4
    have HT_wc : Hid (Tw w Z P5 P6 num lsn F s3 s4 wc) := ⟨h5, h6, hp3, hp4, Nat.le_of_eq hZ, by rw [hZ]; exact h5.lt, by rw [hZ]; exact h6.lt, hbc, by rw [hZ]; exact hbc.size⟩
    have HN34 := Lib.hid (okN_same (num := num) hp3 hp4)
    have HLN := Lib.hid (fun k (hk : k < 4) => hp3.lens k hk)
    clear h5 h6 hp3 hp4 hbc hZ HB6 RX6 HX HWO
    have hc0 : wc.cell? ⟨P5, 0, none⟩ = some (.int .i64 num) := HT_wc.out.r5.cell 0
    have hc1 : wc.cell? ⟨P5, 1, none⟩ = some (.int .u64 (lsn : Int)) := HT_wc.out.r5.cell 1
    have hc2 : wc.cell? ⟨P5, 2, none⟩ = some (.slice (s3.A 0) (s3.n 0) (s3.c 0)) := HT_wc.out.r5.cell 2
    have hc3 : wc.cell? ⟨P5, 3, none⟩ = some (.slice (s3.A 1) (s3.n 1) (s3.c 1)) := HT_wc.out.r5.cell 3
    have hc4 : wc.cell? ⟨P5, 4, none⟩ = some (.slice (s3.A 2) (s3.n 2) (s3.c 2)) := HT_wc.out.r5.cell 4
    have hc5 : wc.cell? ⟨P5, 5, none⟩ = some (.slice (s3.A 3) (s3.n 3) (s3.c 3)) := HT_wc.out.r5.cell 5
    have HEN := Lib.hid (encode_any num lsn F s3 Z wc HT_wc.out.p3 HT_wc.out.le)
    unfold Enc pcs at HEN
    go_wp2_with fail
    refine HEN.out.mono ?_
    rintro e wa ⟨v, rfl, ho, hb⟩
    have HT_wa := Lib.hid (HT_wc.out.then (hb.mono HT_wc.out.le))
    have HOV : Hid (Pg.Own wa Z v (if okN num s3.n = true then pageB num lsn F else [])) := (show Pg.Own _ _ _ _ from ho.mono HT_wc.out.le)
    clear ho hb HEN
    clear hc0 hc1 hc2 hc3 hc4 hc5
    have hc0 : wa.cell? ⟨P5, 0, none⟩ = some (.int .i64 num) := HT_wa.out.r5.cell 0
    have hc1 : wa.cell? ⟨P5, 1, none⟩ = some (.int .u64 (lsn : Int)) := HT_wa.out.r5.cell 1
    have hc2 : wa.cell? ⟨P5, 2, none⟩ = some (.slice (s3.A 0) (s3.n 0) (s3.c 0)) := HT_wa.out.r5.cell 2
    have hc3 : wa.cell? ⟨P5, 3, none⟩ = some (.slice (s3.A 1) (s3.n 1) (s3.c 1)) := HT_wa.out.r5.cell 3
    have hc4 : wa.cell? ⟨P5, 4, none⟩ = some (.slice (s3.A 2) (s3.n 2) (s3.c 2)) := HT_wa.out.r5.cell 4
    have hc5 : wa.cell? ⟨P5, 5, none⟩ = some (.slice (s3.A 3) (s3.n 3) (s3.c 3)) := HT_wa.out.r5.cell 5
    have HEN := Lib.hid (sectors_any num lsn F s3 Z wa HT_wa.out.p3 HT_wa.out.le)
    unfold Secs pcs at HEN
    go_wp2_with fail
    refine HEN.out.mono ?_
    rintro e wb ⟨vs, rfl, ho, hb⟩
    have HT_wb := Lib.hid (HT_wa.out.then (hb.mono HT_wa.out.le))
    have HOVb := Lib.hid (HOV.out.below hb)
    have HOS2 : Hid (if okN num s3.n = true then wb.ownsRow Z 58 64 vs 4 (bv (pageB num lsn F)) else vs = .slice none 0 0) := by
      show (if okN num s3.n = true then _ else _)
      split at ho
      · rename_i hh; rw [if_pos hh]; exact World.ownsRow.mono ho HT_wa.out.le
      · rename_i hh; rw [if_neg hh]; exact ho
    clear ho hb HEN HOV
    clear hc0 hc1 hc2 hc3 hc4 hc5
    have hc0 : wb.cell? ⟨P5, 0, none⟩ = some (.int .i64 num) := HT_wb.out.r5.cell 0
    have hc1 : wb.cell? ⟨P5, 1, none⟩ = some (.int .u64 (lsn : Int)) := HT_wb.out.r5.cell 1
    have hc2 : wb.cell? ⟨P5, 2, none⟩ = some (.slice (s3.A 0) (s3.n 0) (s3.c 0)) := HT_wb.out.r5.cell 2
    have hc3 : wb.cell? ⟨P5, 3, none⟩ = some (.slice (s3.A 1) (s3.n 1) (s3.c 1)) := HT_wb.out.r5.cell 3
    have hc4 : wb.cell? ⟨P5, 4, none⟩ = some (.slice (s3.A 2) (s3.n 2) (s3.c 2)) := HT_wb.out.r5.cell 4
    have hc5 : wb.cell? ⟨P5, 5, none⟩ = some (.slice (s3.A 3) (s3.n 3) (s3.c 3)) := HT_wb.out.r5.cell 5
    have HEN := Lib.hid (check_any num lsn s3 wb)
    unfold pcs at HEN
    go_wp2_with fail
    refine HEN.out.mono ?_
    rintro e wd ⟨rfl, hb⟩
    have HT_wd := Lib.hid (HT_wb.out.then (hb.mono HT_wb.out.le))
    have HOVd := Lib.hid (HOVb.out.below hb)
    have HBD := Lib.hid hb
    clear hb HEN HOVb
    clear hc0 hc1 hc2 hc3 hc4 hc5
    have hc0 : wd.cell? ⟨P5, 0, none⟩ = some (.int .i64 num) := HT_wd.out.r5.cell 0
    have hc1 : wd.cell? ⟨P5, 1, none⟩ = some (.int .u64 (lsn : Int)) := HT_wd.out.r5.cell 1
    have hc2 : wd.cell? ⟨P5, 2, none⟩ = some (.slice (s3.A 0) (s3.n 0) (s3.c 0)) := HT_wd.out.r5.cell 2
    have hc3 : wd.cell? ⟨P5, 3, none⟩ = some (.slice (s3.A 1) (s3.n 1) (s3.c 1)) := HT_wd.out.r5.cell 3
    have hc4 : wd.cell? ⟨P5, 4, none⟩ = some (.slice (s3.A 2) (s3.n 2) (s3.c 2)) := HT_wd.out.r5.cell 4
    have hc5 : wd.cell? ⟨P5, 5, none⟩ = some (.slice (s3.A 3) (s3.n 3) (s3.c 3)) := HT_wd.out.r5.cell 5
    have hd0 : wd.cell? ⟨P6, 0, none⟩ = some (.int .i64 num) := HT_wd.out.r6.cell 0
    have hd1 : wd.cell? ⟨P6, 1, none⟩ = some (.int .u64 (lsn : Int)) := HT_wd.out.r6.cell 1
    have hd2 : wd.cell? ⟨P6, 2, none⟩ = some (.slice (s4.A 0) (s4.n 0) (s4.c 0)) := HT_wd.out.r6.cell 2
    have hd3 : wd.cell? ⟨P6, 3, none⟩ = some (.slice (s4.A 1) (s4.n 1) (s4.c 1)) := HT_wd.out.r6.cell 3
    have hd4 : wd.cell? ⟨P6, 4, none⟩ = some (.slice (s4.A 2) (s4.n 2) (s4.c 2)) := HT_wd.out.r6.cell 4
    have hd5 : wd.cell? ⟨P6, 5, none⟩ = some (.slice (s4.A 3) (s4.n 3) (s4.c 3)) := HT_wd.out.r6.cell 5
    have HEN := Lib.hid (rsame_any num lsn s3 F num lsn s4 F Z wd HT_wd.out.p3 HT_wd.out.p4 HT_wd.out.le)
    rw [same_self] at HEN
    unfold pcs at HEN
    go_wp2_with fail
    refine HEN.out.mono ?_
    rintro e we ⟨rfl, hb⟩
    have HT_we := Lib.hid (HT_wd.out.then (hb.mono HT_wd.out.le))
    have HOVe := Lib.hid (HOVd.out.below hb)
    have HBE := Lib.hid (HBD.out.trans (hb.mono HBD.out.size))
    clear hb HEN HOVd HBD
    clear hc0 hc1 hc2 hc3 hc4 hc5
    clear hd0 hd1 hd2 hd3 hd4 hd5
    have hd0 : we.cell? ⟨P6, 0, none⟩ = some (.int .i64 num) := HT_we.out.r6.cell 0
    have hd1 : we.cell? ⟨P6, 1, none⟩ = some (.int .u64 (lsn : Int)) := HT_we.out.r6.cell 1
    have hd2 : we.cell? ⟨P6, 2, none⟩ = some (.slice (s4.A 0) (s4.n 0) (s4.c 0)) := HT_we.out.r6.cell 2
    have hd3 : we.cell? ⟨P6, 3, none⟩ = some (.slice (s4.A 1) (s4.n 1) (s4.c 1)) := HT_we.out.r6.cell 3
    have hd4 : we.cell? ⟨P6, 4, none⟩ = some (.slice (s4.A 2) (s4.n 2) (s4.c 2)) := HT_we.out.r6.cell 4
    have hd5 : we.cell? ⟨P6, 5, none⟩ = some (.slice (s4.A 3) (s4.n 3) (s4.c 3)) := HT_we.out.r6.cell 5
    have HEN := Lib.hid (right_any num lsn s4 we)
    rw [HN34.out] at HEN
    unfold pcs at HEN
    go_wp2_with fail
    refine HEN.out.mono ?_
    rintro e wf ⟨rfl, hb⟩
    have HT_wf := Lib.hid (HT_we.out.then (hb.mono HT_we.out.le))
    have HOVf := Lib.hid (HOVe.out.below hb)
    have HBF := Lib.hid (HBE.out.trans (hb.mono HBE.out.size))
    clear hb HEN HOVe HBE
    clear hd0 hd1 hd2 hd3 hd4 hd5
    generalize hok : okN num s3.n = ok at HOVf HOS2 ⊢
    cases ok
    · have hv := HOVf.out
      have hs := HOS2.out
      simp only [if_false, Bool.false_eq_true] at hv hs
      subst hs
      obtain ⟨Ab, nb, cb, rfl, hbl, -, -, -, -⟩ := hv.open
      obtain rfl : nb = 0 := by simpa using hbl.symm
      rw [show errP false = 160 from rfl]
      clear hv hbl
      go_wp2
      go_roundw
      case rel => exact ⟨i + 1, by omega, rfl, HT_wf.out.hb⟩
      case measure => simp [intOf]; omega
    rw [show errP true = 0 from rfl]
    have hlen : (pageB num lsn F).length = 256 := pageB_len (fun k hk => by rw [HLN.out k hk]; exact (okN_iff.1 hok).2 k hk)
    obtain ⟨m, rfl⟩ := Int.eq_ofNat_of_zero_le (okN_iff.1 hok).1.1
    have HRS : Hid (∀ (W : World), Tw w Z P5 P6 (m : Int) lsn F s3 s4 W → Calls Try.prog 30 #[.agg (pcs (m : Int) lsn s4).toArray] W fun e w' => ∃ v, e = .returned v ∧ w'.ownsRow W.heap.size 58 64 v 4 (bv (pageB (m : Int) lsn F)) ∧ Below W.heap.size W w') := (show ∀ W, _ → _ from fun W h => rsec_any m lsn F s4 Z W h.p4 h.le (HN34.out.trans hok))
    have HRB : Hid (∀ (W : World), Tw w Z P5 P6 (m : Int) lsn F s3 s4 W → Calls Try.prog 32 #[.agg (pcs (m : Int) lsn s4).toArray] W (Grew W W.heap.size (pageB (m : Int) lsn F))) := (show ∀ W, _ → _ from fun W h => rbytes_any m lsn F s4 Z W h.p4 h.le (HN34.out.trans hok))
    unfold pcs at HRS HRB
    unfold Grew at HRB
    have hv := HOVf.out
    have hs := HOS2.out
    simp only [if_true] at hv hs
    have hs := owns_below hs HBF.out
    obtain ⟨pb, hpb⟩ : ∃ pb, pb = pageB (m : Int) lsn F := ⟨_, rfl⟩
    rw [← hpb] at hlen HRS HRB hv hs
    clear hpb HOVf HOS2 HBF HN34 hok
    obtain ⟨g, cap, rfl⟩ : ∃ g cap, v = .slice (some ⟨g, 0, none⟩) 256 cap := by
      rcases hv.2 with ⟨-, h0⟩ | ⟨g, cap, cur, hv, -⟩
      · omega
      · rw [hlen] at hv; exact ⟨g, cap, hv⟩
    obtain ⟨gs, caps, rfl⟩ : ∃ gs caps, vs = .slice (some ⟨gs, 0, none⟩) 4 caps := by
      rcases hs.2 with ⟨-, h0⟩ | ⟨g, cap, cur, hv, -⟩
      · omega
      · exact ⟨g, cap, hv⟩
    have HOV := Lib.hid hv
    have HOS := Lib.hid hs
    have HLEN := Lib.hid hlen
    clear hv hs
    have hd0 : wf.cell? ⟨P6, 0, none⟩ = some (.int .i64 (m : Int)) := HT_wf.out.r6.cell 0
    have hd1 : wf.cell? ⟨P6, 1, none⟩ = some (.int .u64 (lsn : Int)) := HT_wf.out.r6.cell 1
    have hd2 : wf.cell? ⟨P6, 2, none⟩ = some (.slice (s4.A 0) (s4.n 0) (s4.c 0)) := HT_wf.out.r6.cell 2
    have hd3 : wf.cell? ⟨P6, 3, none⟩ = some (.slice (s4.A 1) (s4.n 1) (s4.c 1)) := HT_wf.out.r6.cell 3
    have hd4 : wf.cell? ⟨P6, 4, none⟩ = some (.slice (s4.A 2) (s4.n 2) (s4.c 2)) := HT_wf.out.r6.cell 4
    have hd5 : wf.cell? ⟨P6, 5, none⟩ = some (.slice (s4.A 3) (s4.n 3) (s4.c 3)) := HT_wf.out.r6.cell 5
    go_wp2_with fail
    refine (HRS.out wf HT_wf.out).mono ?_
    rintro e wg ⟨vr, rfl, ho, hb⟩
    obtain ⟨gr, capr, rfl⟩ : ∃ gs caps, vr = .slice (some ⟨gs, 0, none⟩) 4 caps := by
      rcases ho.2 with ⟨-, h0⟩ | ⟨g, cap, cur, hv, -⟩
      · omega
      · exact ⟨g, cap, hv⟩
    have HS_wg : Hid (Sx w Z P5 P6 (m : Int) lsn F s3 s4 pb g cap gs caps gr capr wg) := ⟨HT_wf.out.then (hb.mono HT_wf.out.le), HOV.out.below hb, owns_below HOS.out hb, World.ownsRow.mono ho HT_wf.out.le⟩
    clear ho hb HOV HOS HT_wf HT_we HT_wd HT_wb HT_wa HT_wc
    clear hd0 hd1 hd2 hd3 hd4 hd5
    have hd0 : wg.cell? ⟨P6, 0, none⟩ = some (.int .i64 (m : Int)) := HS_wg.out.tw.r6.cell 0
    have hd1 : wg.cell? ⟨P6, 1, none⟩ = some (.int .u64 (lsn : Int)) := HS_wg.out.tw.r6.cell 1
    have hd2 : wg.cell? ⟨P6, 2, none⟩ = some (.slice (s4.A 0) (s4.n 0) (s4.c 0)) := HS_wg.out.tw.r6.cell 2
    have hd3 : wg.cell? ⟨P6, 3, none⟩ = some (.slice (s4.A 1) (s4.n 1) (s4.c 1)) := HS_wg.out.tw.r6.cell 3
    have hd4 : wg.cell? ⟨P6, 4, none⟩ = some (.slice (s4.A 2) (s4.n 2) (s4.c 2)) := HS_wg.out.tw.r6.cell 4
    have hd5 : wg.cell? ⟨P6, 5, none⟩ = some (.slice (s4.A 3) (s4.n 3) (s4.c 3)) := HS_wg.out.tw.r6.cell 5
    go_wp2_with fail
    refine (HRB.out wg HS_wg.out.tw).mono ?_
    rintro e wh ⟨vb, rfl, ho, hb⟩
    have HS_wh := Lib.hid (HS_wg.out.then hb)
    obtain ⟨Ab, nb, cb, rfl, hbl, -, -, -, hbb⟩ := ho.open
    obtain ⟨A2, n2, c2, he2, hb2l, -, -, -, hbb2⟩ := HS_wh.out.ob.open
    cases he2
    have HEQ := Lib.hid ((bytesEq_any (some ⟨g, 0, none⟩) Ab 256 cap nb cb pb pb wh.heap.size wh.heap.size wh hb2l hbl hbb2 hbb).mono (fun e w' h => (⟨by rw [h.1]; simp, h.2⟩ : e = .returned (.bool true) ∧ wh = w')))
    clear ho hb HS_wg hb2l hbl hbb hbb2 HRB HRS
    clear hd0 hd1 hd2 hd3 hd4 hd5
    go_wp2_with fail
    refine HEQ.out.mono ?_
    rintro e wi ⟨rfl, rfl⟩
    clear HEQ
    go_wp2_with fail
    go_loopw [95] (fun t wr => ∃ k : Nat, k ≤ 4 ∧ t = .int .i64 (k : Int) ∧ Hid (Sx w Z P5 P6 (m : Int) lsn F s3 s4 pb g cap gs caps gr capr wr)) (fun t _ => 4 - (intOf t).toNat)
    case atStart => exact ⟨0, by omega, rfl, HS_wh⟩
    case round =>
      obtain ⟨k, hk, rfl, HK⟩ := hrel
      clear HS_wh
      obtain ⟨wk, hwk⟩ : ∃ wk : World, wk = wr := ⟨_, rfl⟩
      rw [← hwk] at HK ⊢
      clear hwk
      by_cases hk4 : k < 4
      · have hki : (k : Int) < 4 := by omega
        obtain ⟨ch, hch⟩ : ∃ ch, ch = (pb.drop (k * 64)).take 64 := ⟨_, rfl⟩
        have hcl : ch.length = 64 := by rw [hch, List.length_take, List.length_drop, HLEN.out]; omega
        have HSZ : Hid ((Try.prog.info? 58).map (·.size) = some (bv ch).length) := (show _ = _ by rw [bv_length, hcl]; exact size58)
        have HCL := Lib.hid hcl
        have hr1 : wk.rangeAt gs (k * 64) (bv ch) := by rw [hch]; exact owns_part HK.out.os (k * 64) 64
        have hr2 : wk.rangeAt gr (k * 64) (bv ch) := by rw [hch]; exact owns_part HK.out.rr (k * 64) 64
        clear hch hcl
        go_wp2_with fail
        refine wp_region_held_drew (S := fun w' => w'.rangeAt gs (k * 64) (bv ch) ∧ w'.rangeAt gr (k * 64) (bv ch)) (by kernel_rfl) ⟨hr1, hr2⟩ (fun hHeld => ?_)
        have S0 := Lib.hid hHeld
        have HKd := Lib.hid (HK.out.then (⟨rfl, rfl, rfl, Nat.le_refl _, fun _ _ => rfl⟩ : Below wk.heap.size wk wk.drew))
        clear hHeld hr1 hr2 HK
        generalize wk.drew = wl at S0 HKd ⊢
        refine wpAnyH_take (i := 0) (oi := ⟨some 98, _, _, _, _, _⟩) (v := ?vk0) rfl (by kernel_rfl) (by kernel_rfl) (by kernel_rfl) (fun _ _ _ h => h) (Or.inl ⟨by rfl, ?yk0⟩) S0.out ?rk0
        case yk0 =>
          rintro w' hSw
          go_simp
          try with_reducible rfl
        try simp only [Act.put, List.setIfInBounds_toArray, List.set_cons_zero, List.set_cons_succ]
        refine wpAnyH_take (i := 1) (oi := ⟨some 99, _, _, _, _, _⟩) (v := ?vk1) rfl (by kernel_rfl) (by kernel_rfl) (by kernel_rfl) (fun _ _ _ h => h) (Or.inl ⟨by rfl, ?yk1⟩) S0.out ?rk1
        case yk1 =>
          rintro w' hSw
          go_simp
          try with_reducible rfl
        try simp only [Act.put, List.setIfInBounds_toArray, List.set_cons_zero, List.set_cons_succ]
        refine wpAnyH_take (i := 2) (oi := ⟨some 100, _, _, _, _, _⟩) (v := ?vk2) rfl (by kernel_rfl) (by kernel_rfl) (by kernel_rfl) (fun _ _ _ h => h) (Or.inl ⟨by rfl, ?yk2⟩) S0.out ?rk2
        case yk2 =>
          rintro w' hSw
          go_simp
          try with_reducible rfl
        try simp only [Act.put, List.setIfInBounds_toArray, List.set_cons_zero, List.set_cons_succ]
        refine wpAnyH_take (i := 3) (oi := ⟨some 101, _, _, _, _, _⟩) rfl (by kernel_rfl) (by kernel_rfl) (by kernel_rfl) (fun _ _ _ h => h) (yieldsIf_load_mid (by rfl) 58 (.tmp 100) rfl gs (k * 64) ?xk3 (bv ch) _ (fun _ h => h.1) Try.underlying58 rfl HSZ.out) S0.out ?rk3
        case xk3 => first | rfl | (simp [Act.eval, go_sem]; done)
        try simp only [Act.put, List.setIfInBounds_toArray, List.set_cons_zero, List.set_cons_succ]
        refine wpAnyH_take (i := 4) (oi := ⟨some 102, _, _, _, _, _⟩) (v := ?vk4) rfl (by kernel_rfl) (by kernel_rfl) (by kernel_rfl) (fun _ _ _ h => h) (Or.inl ⟨by rfl, ?yk4⟩) S0.out ?rk4
        case yk4 =>
          rintro w' hSw
          go_simp
          try with_reducible rfl
        try simp only [Act.put, List.setIfInBounds_toArray, List.set_cons_zero, List.set_cons_succ]
        refine wpAnyH_take (i := 5) (oi := ⟨some 103, _, _, _, _, _⟩) (v := ?vk5) rfl (by kernel_rfl) (by kernel_rfl) (by kernel_rfl) (fun _ _ _ h => h) (Or.inl ⟨by rfl, ?yk5⟩) S0.out ?rk5
        case yk5 =>
          rintro w' hSw
          go_simp
          try with_reducible rfl
        try simp only [Act.put, List.setIfInBounds_toArray, List.set_cons_zero, List.set_cons_succ]
        refine wpAnyH_take (i := 6) (oi := ⟨some 104, _, _, _, _, _⟩) (v := ?vk6) rfl (by kernel_rfl) (by kernel_rfl) (by kernel_rfl) (fun _ _ _ h => h) (Or.inl ⟨by rfl, ?yk6⟩) S0.out ?rk6
        case yk6 =>
          rintro w' hSw
          go_simp
          try with_reducible rfl
        try simp only [Act.put, List.setIfInBounds_toArray, List.set_cons_zero, List.set_cons_succ]
        refine wpAnyH_take (i := 7) (oi := ⟨some 105, _, _, _, _, _⟩) rfl (by kernel_rfl) (by kernel_rfl) (by kernel_rfl) (fun _ _ _ h => h) (yieldsIf_load_mid (by rfl) 58 (.tmp 104) rfl gr (k * 64) ?xk7 (bv ch) _ (fun _ h => h.2) Try.underlying58 rfl HSZ.out) S0.out ?rk7
        case xk7 => first | rfl | (simp [Act.eval, go_sem]; done)
        try simp only [Act.put, List.setIfInBounds_toArray, List.set_cons_zero, List.set_cons_succ]
        refine wpAnyH_ready (rs := [8]) (by kernel_rfl) (by simp) ?_
        refine AllReadyH.cons rfl (fun K hK => ?_) AllReadyH.nil
        refine wp_neq_blk (.tmp 101) (.tmp 105) rfl ch ch rfl rfl HCL.out HCL.out ?_
        rw [show (!decide (ch = ch)) = false from by simp]
        refine hK _ _ S0.out (fun _ => ?_)
        clear hK K
        refine wpAnyH_done (by kernel_rfl) ?_ _
        go_wp2
        go_roundw
        case rel => exact ⟨k + 1, by omega, rfl, HKd⟩
        case measure => simp [intOf]; omega
      obtain rfl : k = 4 := by omega
      have h44 : ¬ ((4 : Nat) : Int) < 4 := by omega
      have HSM : Hid (Tw w Z P5 P6 (m : Int) lsn F s3 s4 wk) := HK.out.tw
      have HXI : Hid ((∃ l', l'.length = 256 ∧ Pg.Own wk Z (.slice (some ⟨g, 0, none⟩) 256 cap) l') ∧ Tw w Z P5 P6 (m : Int) lsn F s3 s4 wk) := ⟨⟨pb, HLEN.out, HK.out.ob⟩, HSM.out⟩
      clear HK HSM
      go_wp2_with fail
      go_loopw [110] (fun t wr => ∃ j : Nat, j ≤ 256 ∧ t = .int .i64 (j : Int) ∧ Hid ((∃ l', l'.length = 256 ∧ Pg.Own wr Z (.slice (some ⟨g, 0, none⟩) 256 cap) l') ∧ Tw w Z P5 P6 (m : Int) lsn F s3 s4 wr)) (fun t _ => 256 - (intOf t).toNat)
      case atStart => exact ⟨0, by omega, rfl, HXI⟩
      case round =>
        obtain ⟨j, hj, rfl, HJ⟩ := hrel
        clear HXI
        obtain ⟨wj, hwj⟩ : ∃ wj : World, wj = wr := ⟨_, rfl⟩
        rw [← hwj] at HJ ⊢
        clear hwj
        by_cases hjl : j < 256
        · have hj1 : (j : Int) < 256 := by omega
          have hj0 : 0 ≤ (j : Int) := by omega
          obtain ⟨⟨l', hl', ho'⟩, htw⟩ := HJ.out
          obtain ⟨G, u, hA, hGb, hcl, hfr⟩ := own_cell ho' j hjl
          obtain rfl : g = G := by cases hA; rfl
          obtain ⟨y, hy, hxy⟩ := xor_nat u
          have hN : Hid ((∃ l', l'.length = 256 ∧ Pg.Own (wj.setCell ⟨g, j, none⟩ (.int .u8 (y : Int))) Z (.slice (some ⟨g, 0, none⟩) 256 cap) l') ∧ Tw w Z P5 P6 (m : Int) lsn F s3 s4 (wj.setCell ⟨g, j, none⟩ (.int .u8 (y : Int)))) := by
            obtain ⟨l2, h2, ho2⟩ := own_set ho' g j y hy
            exact ⟨⟨l2, by rw [h2, hl'], ho2⟩, htw.then ((Below.refl _ _).setCell (p := ⟨g, j, none⟩) hGb _)⟩
          clear hl' ho' hA htw HJ
          go_upto_region 29 with fail
          generalize wj.setCell ⟨g, j, none⟩ (.int .u8 (y : Int)) = w3 at hN ⊢
          have HN := Lib.hid hN.out
          clear hN hcl hfr hxy
          go_wp2
          go_roundw
          case rel => exact ⟨j + 1, by omega, by go_num, HN⟩
          case measure => simp [intOf]; omega
        obtain rfl : j = 256 := by omega
        have h44 : ¬ ((256 : Nat) : Int) < 256 := by omega
        have HT_wj : Hid (Tw w Z P5 P6 (m : Int) lsn F s3 s4 wj) := HJ.out.2
        clear HJ
        have HEN := Lib.hid (rsame_any (m : Int) lsn s3 F (m : Int) lsn s4 F Z wj HT_wj.out.p3 HT_wj.out.p4 HT_wj.out.le)
        rw [same_self] at HEN
        unfold pcs at HEN
        have hc0 : wj.cell? ⟨P5, 0, none⟩ = some (.int .i64 (m : Int)) := HT_wj.out.r5.cell 0
        have hc1 : wj.cell? ⟨P5, 1, none⟩ = some (.int .u64 (lsn : Int)) := HT_wj.out.r5.cell 1
        have hc2 : wj.cell? ⟨P5, 2, none⟩ = some (.slice (s3.A 0) (s3.n 0) (s3.c 0)) := HT_wj.out.r5.cell 2
        have hc3 : wj.cell? ⟨P5, 3, none⟩ = some (.slice (s3.A 1) (s3.n 1) (s3.c 1)) := HT_wj.out.r5.cell 3
        have hc4 : wj.cell? ⟨P5, 4, none⟩ = some (.slice (s3.A 2) (s3.n 2) (s3.c 2)) := HT_wj.out.r5.cell 4
        have hc5 : wj.cell? ⟨P5, 5, none⟩ = some (.slice (s3.A 3) (s3.n 3) (s3.c 3)) := HT_wj.out.r5.cell 5
        have hd0 : wj.cell? ⟨P6, 0, none⟩ = some (.int .i64 (m : Int)) := HT_wj.out.r6.cell 0
        have hd1 : wj.cell? ⟨P6, 1, none⟩ = some (.int .u64 (lsn : Int)) := HT_wj.out.r6.cell 1
        have hd2 : wj.cell? ⟨P6, 2, none⟩ = some (.slice (s4.A 0) (s4.n 0) (s4.c 0)) := HT_wj.out.r6.cell 2
        have hd3 : wj.cell? ⟨P6, 3, none⟩ = some (.slice (s4.A 1) (s4.n 1) (s4.c 1)) := HT_wj.out.r6.cell 3
        have hd4 : wj.cell? ⟨P6, 4, none⟩ = some (.slice (s4.A 2) (s4.n 2) (s4.c 2)) := HT_wj.out.r6.cell 4
        have hd5 : wj.cell? ⟨P6, 5, none⟩ = some (.slice (s4.A 3) (s4.n 3) (s4.c 3)) := HT_wj.out.r6.cell 5
        go_wp2_with fail
        refine HEN.out.mono ?_
        rintro e wz ⟨rfl, hb⟩
        have HBZ := Lib.hid (HT_wj.out.hb.trans (hb.mono (Nat.le_trans HT_wj.out.wz HT_wj.out.le)))
        clear hb HEN hc0 hc1 hc2 hc3 hc4 hc5 hd0 hd1 hd2 hd3 hd4 hd5 HT_wj
        go_wp2
        go_roundw
        case rel => exact ⟨i + 1, by omega, rfl, HBZ⟩
        case measure => simp [intOf]; omega

theorem resT_PageEncodes : Try.f6.resultTypes = #[4] := by kernel_rfl
set_option maxRecDepth 100000 in
theorem lifted_PageEncodes (os : Os) (started : os.Started) (H : Type) (enc : TypeId × Value → H) :
    ReturnsInHanded {} Try.checked os 6 .any (Rows.pageEncodesSpec.pre6 enc Try.prog Try.f6 Rows.pageEncodesRow.domain false) (Rows.pageEncodesSpec.post enc Try.prog Try.f6 false true false false) := by
  refine Lift.law_lift (C := Try.checked) (s := Rows.pageEncodesSpec) (tb := 4) own laidOut started (by kernel_rfl) Try.func6
    (ChangeSpec.witness6 (enc := enc) (C := Try.checked) false ⟨#[], #[.slice none 0 0], []⟩ 8 (by kernel_rfl) (by kernel_rfl) (by kernel_rfl) (by kernel_rfl))
    rfl resT_PageEncodes Try.underlying4 (by
      have hr : ∀ t ∈ ([43] : List TypeId), Try.prog.readableRec t = true ∧ t < Try.prog.types.size := by
        intro t ht
        simp only [List.mem_cons, List.not_mem_nil, or_false] at ht
        rcases ht with rfl <;> exact ⟨by kernel_rfl, of_decide_eq_true (by kernel_rfl)⟩
      intro t ht
      exact hr t (by
        have ht' : t ∈ Try.f6.params.toList := ht
        rw [Try.params6] at ht'
        exact ht')) ?_
  intro W base args ds p hval0 hA0 hsz0
  have hval : ∀ (j : Nat) t v, Try.f6.params[j]? = some t → args[j]? = some v → Value.okWide Try.prog W .any base t v := hval0
  have hA : DataW.TrodAll enc Try.prog W 0 (fun _ => true) true Try.f6.params.toList args.toList ds p := hA0
  have hsz : (DataW.weightsEach Try.prog Try.f6.params.toList ds).all (· ≤ reachBytes) = true := hsz0
  clear hval0 hA0 hsz0
  rw [Try.params6] at hA hval hsz
  obtain ⟨v0, vs0, d0, ds0, p0, q0, hargs, rfl, rfl, h0, r0⟩ := trodAll_cons hA
  obtain ⟨rfl, rfl, rfl⟩ := trodAll_nil r0
  obtain rfl : args = #[v0] := by cases args; simp_all
  obtain ⟨A0, n0, c0, os0, rfl, hl0, hlc0, hn0, hm0, ho0, hk0⟩ := open_pages (hval 0 43 v0 rfl rfl) h0 (by rw [List.all_eq_true] at hsz ⊢; intro z hz; exact hsz z (DataW.weights_mem_each (j := 0) (t := 43) (d := d0) rfl rfl z hz))
  exact ⟨rfl, enc_walk A0 n0 c0 os0 W hl0 hlc0 hm0 ho0 hk0⟩

theorem proved_PageEncodes : Rows.PageEncodesSaid :=
  OpenClaim.holds_of_wide 6 Try.f6 rfl rfl rfl rfl rfl rfl rfl ⟨rfl, rfl, rfl, rfl, rfl⟩ rfl rfl rfl rfl rfl (by kernel_rfl) Try.func6 (by kernel_rfl)
    (of_decide_eq_true (by kernel_rfl)) (by unfold Func.isWrapper; first | (rw [if_pos (by decide +kernel)]; kernel_rfl) | (rw [if_neg (by decide +kernel)]; exact ⟨rfl, rfl⟩))
    (fun os started H enc _ => lifted_PageEncodes os started H enc)
end Go.Proofs.Ytdecpmemogejpaa.PgEncodes
