/-
  PageSame: which pages are the same. No condition.
-/
import Derived.Test.YteoopijcclfdcaaPgO
import Derived.Deep.Cut
import Derived.Deep.CutRange
import Derived.Great.BuildSlice
import Derived.Deep.SlicePairs
namespace Go.Proofs.Yteoopijcclfdcaa.PgSame
set_option maxRecDepth 100000
open Go.RowKit Go.Proofs.Yteoopijcclfdcaa.Wd Go.Proofs.Yteoopijcclfdcaa.Oct Go.Proofs.Yteoopijcclfdcaa.Dsk Go.Proofs.Yteoopijcclfdcaa.Rec Go.Proofs.Yteoopijcclfdcaa.Pg Go.ChangeShapes Go.WideShapes Go.ChangeAt

theorem own : ownKnob Try.prog.godebug = none := by kernel_rfl
theorem laidOut : laidOutB Try.prog = true := by kernel_rfl
theorem same_self (n : Int) (l : Nat) (f : Nat → List UInt8) : sameM n l f n l f = true := by simp [sameM, eq4]
/-- both pages are cut short and in memory of their own -/
def S2 (w : World) (n1 : Int) (l1 : Nat) (f1 : Nat → List UInt8) (n2 : Int) (l2 : Nat) (f2 : Nat → List UInt8) (wx : World) : Prop :=
  ∃ s3 s4, Bx2 w n1 l1 s3 n2 l2 s4 wx ∧ PgAt wx wx.heap.size (shortS f1) s3 ∧ PgAt wx wx.heap.size (shortS f2) s4
theorem Bx2.seta {w W W' : World} {n1 n2 : Int} {l1 l2 : Nat} {s1 s2 s3 : PS} (h : Bx2 w n1 l1 s1 n2 l2 s2 W) (hr : Row W' w.heap.size 28 (pcs n1 l1 s3)) (hg : W.grownBy W' (some w.heap.size)) : Bx2 w n1 l1 s3 n2 l2 s2 W' :=
  ⟨hr, h.rb.grown hg (fun e => by have := Option.some.inj e; omega), h.hb.grown hg h.hb.size (fun k hk => by have := Option.some.inj hk; omega), Nat.le_trans h.sz hg.size⟩
theorem Bx2.setb {w W W' : World} {n1 n2 : Int} {l1 l2 : Nat} {s1 s2 s4 : PS} (h : Bx2 w n1 l1 s1 n2 l2 s2 W) (hr : Row W' (w.heap.size + 1) 28 (pcs n2 l2 s4)) (hg : W.grownBy W' (some (w.heap.size + 1))) : Bx2 w n1 l1 s1 n2 l2 s4 W' :=
  ⟨h.ra.grown hg (fun e => by have := Option.some.inj e; omega), hr, h.hb.grown hg h.hb.size (fun k hk => by have := Option.some.inj hk; omega), Nat.le_trans h.sz hg.size⟩
theorem PO.grown {w w' : World} {base g : Nat} {sl : Nat → List UInt8} {s : PS} {cs : List Value} (h : PO w base sl s) (hg : w.grownBy w' (some g)) (hr : Row w g 28 cs) : PO w' base sl s := fun j hj => (h j hj).kept hg (own_ne (h j hj) hr (by decide))
theorem short_lens {w : World} {B : Nat} {f : Nat → List UInt8} {s : PS} (h : PgAt w B (shortS f) s) : ∀ k, k < 4 → s.n k ≤ 100000 := fun k hk => by
  rw [← h.lens k hk]
  unfold shortS
  rw [List.length_take]
  omega

set_option maxHeartbeats 4000000 in
theorem same_walk (x y : PX) (w : World) (hx : PgOk w x) (hy : PgOk w y) :
    Calls Try.prog 6 #[.agg x.cells.toArray, .agg y.cells.toArray] w fun e w' => e = .returned (.bool true) ∧ Below w.heap.size w w' := by
  have mixed : Try.prog.follows .mixedOrders = true := by kernel_rfl
  obtain ⟨n1, l1, f1, s1⟩ := x
  obtain ⟨n2, l2, f2, s2⟩ := y
  have HX := Lib.hid hx
  have HY := Lib.hid hy
  clear hx hy
  unfold PX.cells
  dsimp only
  go_enter Try.func6, Try.ntmps6
  go_upto_region 1 with fail
  have HB := Lib.hid (boxed2 w n1 l1 s1 n2 l2 s2)
  generalize (w.alloc (.cells (pcs n1 l1 s1).toArray 28)).alloc (.cells (pcs n2 l2 s2).toArray 28) = w1 at HB ⊢
  go_wp2_with fail
  refine (wakes_any _).mono ?_
  rintro e w2 ⟨rfl, hb2⟩
  have HB2 := Lib.hid (HB.out.then hb2)
  clear hb2 HB
  go_upto_region 3 with fail
  go_cut [7] from 7 to 10 (fun t7 wx => S2 w n1 l1 f1 n2 l2 f2 wx)
  case first =>
    refine wp_region_held_drew (S := fun _ => True) (by kernel_rfl) trivial (fun hHeld => ?_)
    have HB3 := Lib.hid (HB2.out.then (below_still (Below.refl _ _) ⟨1, rfl⟩ : Below w2.heap.size w2 w2.drew))
    clear HB2
    generalize w2.drew = w3 at HB3 ⊢
    refine wpAnyH_ready (rs := [0, 2]) (by kernel_rfl) (by simp) ?_
    refine AllReadyH.cons rfl (fun K hK => ?_) (AllReadyH.cons rfl (fun K hK => ?_) AllReadyH.nil)
    · skip
      refine wp_load_mid 28 (.tmp 2) rfl w.heap.size 0 rfl (pcs n1 l1 s1) _ (Row.all HB3.out.ra) Try.underlying28 rfl page_info ?_
      refine hK _ _ trivial (fun _ => ?_)
      clear hK K
      try simp only [Act.put, List.setIfInBounds_toArray, List.set_cons_zero, List.set_cons_succ]
      refine wpAnyH_ready (rs := [1, 2]) (by kernel_rfl) (by simp) ?_
      refine AllReadyH.cons rfl (fun K hK => ?_) (AllReadyH.cons rfl (fun K hK => ?_) AllReadyH.nil)
      · skip
        go_simp
        refine (short_any n1 l1 f1 s1 w.heap.size w3 (HX.out.at_.below HB3.out.hb) HB3.out.hb.size).mono ?_
        rintro e wa2 ⟨s3, rfl, hpo, hb⟩
        have H2 := Lib.hid (HB3.out.then hb)
        have P2 := Lib.hid (hpo.mono HB3.out.hb.size)
        clear hpo hb
        refine hK _ _ trivial (fun _ => ?_)
        clear hK K
        try simp only [Act.put, List.setIfInBounds_toArray, List.set_cons_zero, List.set_cons_succ]
        refine wpAnyH_ready (rs := [2]) (by kernel_rfl) (by simp) ?_
        refine AllReadyH.cons rfl (fun K hK => ?_) AllReadyH.nil
        refine wp_load_mid 28 (.tmp 3) rfl (w.heap.size + 1) 0 rfl (pcs n2 l2 s2) _ (Row.all H2.out.rb) Try.underlying28 rfl page_info ?_
        refine hK _ _ trivial (fun _ => ?_)
        clear hK K
        try simp only [Act.put, List.setIfInBounds_toArray, List.set_cons_zero, List.set_cons_succ]
        refine wpAnyH_ready (rs := [3]) (by kernel_rfl) (by simp) ?_
        refine AllReadyH.cons rfl (fun K hK => ?_) AllReadyH.nil
        go_simp
        refine (short_any n2 l2 f2 s2 w.heap.size wa2 (HY.out.at_.below H2.out.hb) H2.out.hb.size).mono ?_
        rintro e wa4 ⟨s4, rfl, hpo, hb⟩
        have H4 := Lib.hid (H2.out.then hb)
        have P4 := Lib.hid (P2.out.below hb)
        have Q4 := Lib.hid (hpo.mono H2.out.hb.size)
        clear hpo hb
        refine hK _ _ trivial (fun _ => ?_)
        clear hK K
        try simp only [Act.put, List.setIfInBounds_toArray, List.set_cons_zero, List.set_cons_succ]
        refine wpAnyH_ready (rs := [4]) (by kernel_rfl) (by simp) ?_
        refine AllReadyH.cons rfl (fun K hK => ?_) AllReadyH.nil
        refine wp_store_whole 28 (.tmp 2) (.tmp 8) rfl w.heap.size (pcs n1 l1 s3) rfl rfl 28 (pcs n1 l1 s1) H4.out.ra rfl pcs_one page_info ?_
        intro wa5 hr hg
        have H5 := Lib.hid (Bx2.seta H4.out hr hg)
        have P5 := Lib.hid (PO.grown P4.out hg H4.out.ra)
        have Q5 := Lib.hid (PO.grown Q4.out hg H4.out.ra)
        clear hr hg
        refine hK _ _ trivial (fun _ => ?_)
        clear hK K
        try simp only [Act.put, List.setIfInBounds_toArray, List.set_cons_zero, List.set_cons_succ]
        refine wpAnyH_ready (rs := [5]) (by kernel_rfl) (by simp) ?_
        refine AllReadyH.cons rfl (fun K hK => ?_) AllReadyH.nil
        refine wp_store_whole 28 (.tmp 3) (.tmp 10) rfl (w.heap.size + 1) (pcs n2 l2 s4) rfl rfl 28 (pcs n2 l2 s2) H5.out.rb rfl pcs_one page_info ?_
        intro wa6 hr hg
        have H6 := Lib.hid (Bx2.setb H5.out hr hg)
        have P6 := Lib.hid (PO.grown P5.out hg H5.out.rb)
        have Q6 := Lib.hid (PO.grown Q5.out hg H5.out.rb)
        clear hr hg
        refine hK _ _ trivial (fun _ => ?_)
        clear hK K
        try simp only [Act.put, List.setIfInBounds_toArray, List.set_cons_zero, List.set_cons_succ]
        refine wpAnyH_done (by kernel_rfl) ?_ _
        go_wp2_with fail
        go_meet
        exact ⟨s3, s4, H6.out, P6.out.at_, Q6.out.at_⟩
      · skip
        refine wp_load_mid 28 (.tmp 3) rfl (w.heap.size + 1) 0 rfl (pcs n2 l2 s2) _ (Row.all HB3.out.rb) Try.underlying28 rfl page_info ?_
        refine hK _ _ trivial (fun _ => ?_)
        clear hK K
        try simp only [Act.put, List.setIfInBounds_toArray, List.set_cons_zero, List.set_cons_succ]
        refine wpAnyH_ready (rs := [1]) (by kernel_rfl) (by simp) ?_
        refine AllReadyH.cons rfl (fun K hK => ?_) AllReadyH.nil
        go_simp
        refine (short_any n1 l1 f1 s1 w.heap.size w3 (HX.out.at_.below HB3.out.hb) HB3.out.hb.size).mono ?_
        rintro e wa7 ⟨s3, rfl, hpo, hb⟩
        have H7 := Lib.hid (HB3.out.then hb)
        have P7 := Lib.hid (hpo.mono HB3.out.hb.size)
        clear hpo hb
        refine hK _ _ trivial (fun _ => ?_)
        clear hK K
        try simp only [Act.put, List.setIfInBounds_toArray, List.set_cons_zero, List.set_cons_succ]
        refine wpAnyH_ready (rs := [3]) (by kernel_rfl) (by simp) ?_
        refine AllReadyH.cons rfl (fun K hK => ?_) AllReadyH.nil
        go_simp
        refine (short_any n2 l2 f2 s2 w.heap.size wa7 (HY.out.at_.below H7.out.hb) H7.out.hb.size).mono ?_
        rintro e wa8 ⟨s4, rfl, hpo, hb⟩
        have H8 := Lib.hid (H7.out.then hb)
        have P8 := Lib.hid (P7.out.below hb)
        have Q8 := Lib.hid (hpo.mono H7.out.hb.size)
        clear hpo hb
        refine hK _ _ trivial (fun _ => ?_)
        clear hK K
        try simp only [Act.put, List.setIfInBounds_toArray, List.set_cons_zero, List.set_cons_succ]
        refine wpAnyH_ready (rs := [4]) (by kernel_rfl) (by simp) ?_
        refine AllReadyH.cons rfl (fun K hK => ?_) AllReadyH.nil
        refine wp_store_whole 28 (.tmp 2) (.tmp 8) rfl w.heap.size (pcs n1 l1 s3) rfl rfl 28 (pcs n1 l1 s1) H8.out.ra rfl pcs_one page_info ?_
        intro wa9 hr hg
        have H9 := Lib.hid (Bx2.seta H8.out hr hg)
        have P9 := Lib.hid (PO.grown P8.out hg H8.out.ra)
        have Q9 := Lib.hid (PO.grown Q8.out hg H8.out.ra)
        clear hr hg
        refine hK _ _ trivial (fun _ => ?_)
        clear hK K
        try simp only [Act.put, List.setIfInBounds_toArray, List.set_cons_zero, List.set_cons_succ]
        refine wpAnyH_ready (rs := [5]) (by kernel_rfl) (by simp) ?_
        refine AllReadyH.cons rfl (fun K hK => ?_) AllReadyH.nil
        refine wp_store_whole 28 (.tmp 3) (.tmp 10) rfl (w.heap.size + 1) (pcs n2 l2 s4) rfl rfl 28 (pcs n2 l2 s2) H9.out.rb rfl pcs_one page_info ?_
        intro wa10 hr hg
        have H10 := Lib.hid (Bx2.setb H9.out hr hg)
        have P10 := Lib.hid (PO.grown P9.out hg H9.out.rb)
        have Q10 := Lib.hid (PO.grown Q9.out hg H9.out.rb)
        clear hr hg
        refine hK _ _ trivial (fun _ => ?_)
        clear hK K
        try simp only [Act.put, List.setIfInBounds_toArray, List.set_cons_zero, List.set_cons_succ]
        refine wpAnyH_done (by kernel_rfl) ?_ _
        go_wp2_with fail
        go_meet
        exact ⟨s3, s4, H10.out, P10.out.at_, Q10.out.at_⟩
    · skip
      refine wp_load_mid 28 (.tmp 3) rfl (w.heap.size + 1) 0 rfl (pcs n2 l2 s2) _ (Row.all HB3.out.rb) Try.underlying28 rfl page_info ?_
      refine hK _ _ trivial (fun _ => ?_)
      clear hK K
      try simp only [Act.put, List.setIfInBounds_toArray, List.set_cons_zero, List.set_cons_succ]
      refine wpAnyH_ready (rs := [0]) (by kernel_rfl) (by simp) ?_
      refine AllReadyH.cons rfl (fun K hK => ?_) AllReadyH.nil
      refine wp_load_mid 28 (.tmp 2) rfl w.heap.size 0 rfl (pcs n1 l1 s1) _ (Row.all HB3.out.ra) Try.underlying28 rfl page_info ?_
      refine hK _ _ trivial (fun _ => ?_)
      clear hK K
      try simp only [Act.put, List.setIfInBounds_toArray, List.set_cons_zero, List.set_cons_succ]
      refine wpAnyH_ready (rs := [1]) (by kernel_rfl) (by simp) ?_
      refine AllReadyH.cons rfl (fun K hK => ?_) AllReadyH.nil
      go_simp
      refine (short_any n1 l1 f1 s1 w.heap.size w3 (HX.out.at_.below HB3.out.hb) HB3.out.hb.size).mono ?_
      rintro e wa12 ⟨s3, rfl, hpo, hb⟩
      have H12 := Lib.hid (HB3.out.then hb)
      have P12 := Lib.hid (hpo.mono HB3.out.hb.size)
      clear hpo hb
      refine hK _ _ trivial (fun _ => ?_)
      clear hK K
      try simp only [Act.put, List.setIfInBounds_toArray, List.set_cons_zero, List.set_cons_succ]
      refine wpAnyH_ready (rs := [3]) (by kernel_rfl) (by simp) ?_
      refine AllReadyH.cons rfl (fun K hK => ?_) AllReadyH.nil
      go_simp
      refine (short_any n2 l2 f2 s2 w.heap.size wa12 (HY.out.at_.below H12.out.hb) H12.out.hb.size).mono ?_
      rintro e wa13 ⟨s4, rfl, hpo, hb⟩
      have H13 := Lib.hid (H12.out.then hb)
      have P13 := Lib.hid (P12.out.below hb)
      have Q13 := Lib.hid (hpo.mono H12.out.hb.size)
      clear hpo hb
      refine hK _ _ trivial (fun _ => ?_)
      clear hK K
      try simp only [Act.put, List.setIfInBounds_toArray, List.set_cons_zero, List.set_cons_succ]
      refine wpAnyH_ready (rs := [4]) (by kernel_rfl) (by simp) ?_
      refine AllReadyH.cons rfl (fun K hK => ?_) AllReadyH.nil
      refine wp_store_whole 28 (.tmp 2) (.tmp 8) rfl w.heap.size (pcs n1 l1 s3) rfl rfl 28 (pcs n1 l1 s1) H13.out.ra rfl pcs_one page_info ?_
      intro wa14 hr hg
      have H14 := Lib.hid (Bx2.seta H13.out hr hg)
      have P14 := Lib.hid (PO.grown P13.out hg H13.out.ra)
      have Q14 := Lib.hid (PO.grown Q13.out hg H13.out.ra)
      clear hr hg
      refine hK _ _ trivial (fun _ => ?_)
      clear hK K
      try simp only [Act.put, List.setIfInBounds_toArray, List.set_cons_zero, List.set_cons_succ]
      refine wpAnyH_ready (rs := [5]) (by kernel_rfl) (by simp) ?_
      refine AllReadyH.cons rfl (fun K hK => ?_) AllReadyH.nil
      refine wp_store_whole 28 (.tmp 3) (.tmp 10) rfl (w.heap.size + 1) (pcs n2 l2 s4) rfl rfl 28 (pcs n2 l2 s2) H14.out.rb rfl pcs_one page_info ?_
      intro wa15 hr hg
      have H15 := Lib.hid (Bx2.setb H14.out hr hg)
      have P15 := Lib.hid (PO.grown P14.out hg H14.out.rb)
      have Q15 := Lib.hid (PO.grown Q14.out hg H14.out.rb)
      clear hr hg
      refine hK _ _ trivial (fun _ => ?_)
      clear hK K
      try simp only [Act.put, List.setIfInBounds_toArray, List.set_cons_zero, List.set_cons_succ]
      refine wpAnyH_done (by kernel_rfl) ?_ _
      go_wp2_with fail
      go_meet
      exact ⟨s3, s4, H15.out, P15.out.at_, Q15.out.at_⟩
  case rest =>
    obtain ⟨s3, s4, hb3, hp3, hp4⟩ := hcut
    have H3 := Lib.hid hb3
    have P3 := Lib.hid hp3
    have P4 := Lib.hid hp4
    clear hb3 hp3 hp4
    go_upto_region 4 with fail
    refine wp_region_held_drew (S := fun w' => Row w' w.heap.size 28 (pcs n1 l1 s3) ∧ Row w' (w.heap.size + 1) 28 (pcs n2 l2 s4)) (by kernel_rfl) ⟨H3.out.ra, H3.out.rb⟩ (fun hHeld => ?_)
    have H4 := Lib.hid (H3.out.then (below_still (Below.refl _ _) ⟨1, rfl⟩ : Below wc.heap.size wc wc.drew))
    have Q3 := Lib.hid (P3.out.below (below_still (Below.refl _ _) ⟨1, rfl⟩ : Below wc.heap.size wc wc.drew))
    have Q4 := Lib.hid (P4.out.below (below_still (Below.refl _ _) ⟨1, rfl⟩ : Below wc.heap.size wc wc.drew))
    rw [show wc.heap.size = wc.drew.heap.size from rfl] at Q3 Q4
    generalize wc.drew = w4 at *
    refine wpAnyH_take (i := 0) (oi := ⟨some 11, _, _, _, _, _⟩) rfl (by kernel_rfl) (by kernel_rfl) (by kernel_rfl) (fun _ _ _ h => h) (yieldsIf_load_mid (by rfl) 28 (.tmp 2) rfl w.heap.size 0 ?x0q (pcs n1 l1 s3) _ (fun _ h => Row.all h.1) Try.underlying28 rfl page_info) hHeld ?r0q
    case x0q => first | rfl | (simp [Act.eval, go_sem]; done)
    try simp only [Act.put, List.setIfInBounds_toArray, List.set_cons_zero, List.set_cons_succ]
    refine wpAnyH_take (i := 1) (oi := ⟨some 12, _, _, _, _, _⟩) rfl (by kernel_rfl) (by kernel_rfl) (by kernel_rfl) (fun _ _ _ h => h) (yieldsIf_load_mid (by rfl) 28 (.tmp 3) rfl (w.heap.size + 1) 0 ?x1q (pcs n2 l2 s4) _ (fun _ h => Row.all h.2) Try.underlying28 rfl page_info) hHeld ?r1q
    case x1q => first | rfl | (simp [Act.eval, go_sem]; done)
    try simp only [Act.put, List.setIfInBounds_toArray, List.set_cons_zero, List.set_cons_succ]
    refine wpAnyH_take (i := 3) (oi := ⟨some 14, _, _, _, _, _⟩) rfl (by kernel_rfl) (by kernel_rfl) (by kernel_rfl) (fun _ _ _ h => h) (yieldsIf_load_mid (by rfl) 28 (.tmp 2) rfl w.heap.size 0 ?x3q (pcs n1 l1 s3) _ (fun _ h => Row.all h.1) Try.underlying28 rfl page_info) hHeld ?r3q
    case x3q => first | rfl | (simp [Act.eval, go_sem]; done)
    try simp only [Act.put, List.setIfInBounds_toArray, List.set_cons_zero, List.set_cons_succ]
    refine wpAnyH_take (i := 4) (oi := ⟨some 15, _, _, _, _, _⟩) rfl (by kernel_rfl) (by kernel_rfl) (by kernel_rfl) (fun _ _ _ h => h) (yieldsIf_load_mid (by rfl) 28 (.tmp 3) rfl (w.heap.size + 1) 0 ?x4q (pcs n2 l2 s4) _ (fun _ h => Row.all h.2) Try.underlying28 rfl page_info) hHeld ?r4q
    case x4q => first | rfl | (simp [Act.eval, go_sem]; done)
    try simp only [Act.put, List.setIfInBounds_toArray, List.set_cons_zero, List.set_cons_succ]
    refine wpAnyH_ready (rs := [2]) (by kernel_rfl) (by simp) ?_
    refine AllReadyH.cons rfl (fun K hK => ?_) AllReadyH.nil
    go_simp
    refine (psame_any n1 l1 s3 (shortS f1) n2 l2 s4 (shortS f2) w4.heap.size w4 Q3.out Q4.out (Nat.le_refl _) (fun k hk => Nat.le_trans (short_lens Q3.out k hk) (by omega))).mono ?_
    rintro e w5 ⟨rfl, hb5⟩
    have H5 := Lib.hid (H4.out.then hb5)
    have R3 := Lib.hid ((Q3.out.below hb5).more hb5.size)
    have R4 := Lib.hid ((Q4.out.below hb5).more hb5.size)
    clear hb5
    refine hK _ _ ⟨H5.out.ra, H5.out.rb⟩ (fun _ => ?_)
    clear hK K
    try simp only [Act.put, List.setIfInBounds_toArray, List.set_cons_zero, List.set_cons_succ]
    refine wpAnyH_ready (rs := [5]) (by kernel_rfl) (by simp) ?_
    refine AllReadyH.cons rfl (fun K hK => ?_) AllReadyH.nil
    go_simp
    refine (rsame_any n1 l1 s3 (shortS f1) n2 l2 s4 (shortS f2) w5.heap.size w5 R3.out R4.out (Nat.le_refl _)).mono ?_
    rintro e w6 ⟨rfl, hb6⟩
    have H6 := Lib.hid (H5.out.then hb6)
    have V3 := Lib.hid ((R3.out.below hb6).more hb6.size)
    clear hb6 H4 H5 R3 R4 Q3 Q4 P3 P4
    refine hK _ _ ⟨H6.out.ra, H6.out.rb⟩ (fun _ => ?_)
    clear hK K
    try simp only [Act.put, List.setIfInBounds_toArray, List.set_cons_zero, List.set_cons_succ]
    generalize sameM n1 l1 (shortS f1) n2 l2 (shortS f2) = V
    have hVV : (V == V) = true := by simp
    refine wpAnyH_take (i := 6) (oi := ⟨some 17, _, _, _, _, _⟩) (v := ?v6q) rfl (by kernel_rfl) (by kernel_rfl) (by kernel_rfl) (fun _ _ _ h => h) (Or.inl ⟨by rfl, ?y6q⟩) ⟨H6.out.ra, H6.out.rb⟩ ?r6q
    case y6q =>
      rintro w' hSw
      go_simp
      try with_reducible rfl
    try simp only [Act.put, List.setIfInBounds_toArray, List.set_cons_zero, List.set_cons_succ]
    refine wpAnyH_take (i := 7) (oi := ⟨some 18, _, _, _, _, _⟩) (v := ?v7q) rfl (by kernel_rfl) (by kernel_rfl) (by kernel_rfl) (fun _ _ _ h => h) (Or.inl ⟨by rfl, ?y7q⟩) ⟨H6.out.ra, H6.out.rb⟩ ?r7q
    case y7q =>
      rintro w' hSw
      go_simp
      try with_reducible rfl
    try simp only [Act.put, List.setIfInBounds_toArray, List.set_cons_zero, List.set_cons_succ]
    refine wpAnyH_take (i := 8) (oi := ⟨some 19, _, _, _, _, _⟩) rfl (by kernel_rfl) (by kernel_rfl) (by kernel_rfl) (fun _ _ _ h => h) (yieldsIf_load_mid (by rfl) 28 (.tmp 2) rfl w.heap.size 0 ?x8q (pcs n1 l1 s3) _ (fun _ h => Row.all h.1) Try.underlying28 rfl page_info) ⟨H6.out.ra, H6.out.rb⟩ ?r8q
    case x8q => first | rfl | (simp [Act.eval, go_sem]; done)
    try simp only [Act.put, List.setIfInBounds_toArray, List.set_cons_zero, List.set_cons_succ]
    refine wpAnyH_take (i := 9) (oi := ⟨some 20, _, _, _, _, _⟩) rfl (by kernel_rfl) (by kernel_rfl) (by kernel_rfl) (fun _ _ _ h => h) (yieldsIf_load_mid (by rfl) 28 (.tmp 2) rfl w.heap.size 0 ?x9q (pcs n1 l1 s3) _ (fun _ h => Row.all h.1) Try.underlying28 rfl page_info) ⟨H6.out.ra, H6.out.rb⟩ ?r9q
    case x9q => first | rfl | (simp [Act.eval, go_sem]; done)
    try simp only [Act.put, List.setIfInBounds_toArray, List.set_cons_zero, List.set_cons_succ]
    refine wpAnyH_ready (rs := [10]) (by kernel_rfl) (by simp) ?_
    refine AllReadyH.cons rfl (fun K hK => ?_) AllReadyH.nil
    go_simp
    refine (copy_any n1 l1 (shortS f1) s3 w6.heap.size w6 V3.out (Nat.le_refl _) (short_lens V3.out)).mono ?_
    rintro e w7 ⟨s5, rfl, hpo7, hb7⟩
    have H7 := Lib.hid (H6.out.then hb7)
    have U3 := Lib.hid ((V3.out.below hb7).more hb7.size)
    have U5 := Lib.hid hpo7.at_
    clear hpo7 hb7
    refine hK _ _ ⟨H7.out.ra, H7.out.rb⟩ (fun _ => ?_)
    clear hK K
    try simp only [Act.put, List.setIfInBounds_toArray, List.set_cons_zero, List.set_cons_succ]
    refine wpAnyH_ready (rs := [11]) (by kernel_rfl) (by simp) ?_
    refine AllReadyH.cons rfl (fun K hK => ?_) AllReadyH.nil
    go_simp
    refine (psame_any n1 l1 s3 (shortS f1) n1 l1 s5 (shortS f1) w7.heap.size w7 U3.out U5.out (Nat.le_refl _) (fun k hk => Nat.le_trans (short_lens U3.out k hk) (by omega))).mono ?_
    rintro e w8 ⟨rfl, hb8⟩
    rw [same_self]
    have H8 := Lib.hid (H7.out.then hb8)
    clear hb8
    refine hK _ _ ⟨H8.out.ra, H8.out.rb⟩ (fun _ => ?_)
    clear hK K
    try simp only [Act.put, List.setIfInBounds_toArray, List.set_cons_zero, List.set_cons_succ]
    refine wpAnyH_take (i := 12) (oi := ⟨some 23, _, _, _, _, _⟩) (v := ?v12q) rfl (by kernel_rfl) (by kernel_rfl) (by kernel_rfl) (fun _ _ _ h => h) (Or.inl ⟨by rfl, ?y12q⟩) ⟨H8.out.ra, H8.out.rb⟩ ?r12q
    case y12q =>
      rintro w' hSw
      go_simp
      try with_reducible rfl
    try simp only [Act.put, List.setIfInBounds_toArray, List.set_cons_zero, List.set_cons_succ]
    refine wpAnyH_take (i := 13) (oi := ⟨some 4, _, _, _, _, _⟩) (v := ?v13q) rfl (by kernel_rfl) (by kernel_rfl) (by kernel_rfl) (fun _ _ _ h => h) (Or.inl ⟨by rfl, ?y13q⟩) ⟨H8.out.ra, H8.out.rb⟩ ?r13q
    case y13q =>
      rintro w' hSw
      go_simp
      try with_reducible rfl
    try simp only [Act.put, List.setIfInBounds_toArray, List.set_cons_zero, List.set_cons_succ]
    refine wpAnyH_done (by kernel_rfl) ?_ _
    go_wp2
    go_ret
    exact ⟨rfl, H8.out.hb⟩

theorem resT_PageSame : Try.f6.resultTypes = #[4] := by kernel_rfl
set_option maxRecDepth 100000 in
theorem lifted_PageSame (os : Os) (started : os.Started) (H : Type) (enc : TypeId × Value → H) :
    ReturnsInHanded {} Try.checked os 6 .any (Rows.pageSameSpec.pre6 enc Try.prog Try.f6 Rows.pageSameRow.domain false) (Rows.pageSameSpec.post enc Try.prog Try.f6 false true false false) := by
  refine Lift.law_lift (C := Try.checked) (s := Rows.pageSameSpec) (tb := 4) own laidOut started (by kernel_rfl) Try.func6
    (ChangeSpec.witness6 (enc := enc) (C := Try.checked) false ⟨#[], #[.agg #[.int .i64 0, .int .u64 0, .slice none 0 0, .slice none 0 0, .slice none 0 0, .slice none 0 0], .agg #[.int .i64 0, .int .u64 0, .slice none 0 0, .slice none 0 0, .slice none 0 0, .slice none 0 0]], []⟩ 8 (by kernel_rfl) (by kernel_rfl) (by kernel_rfl) (by kernel_rfl))
    rfl resT_PageSame Try.underlying4 (by
      have hr : ∀ t ∈ ([28, 28] : List TypeId), Try.prog.readableRec t = true ∧ t < Try.prog.types.size := by
        intro t ht
        simp only [List.mem_cons, List.not_mem_nil, or_false] at ht
        rcases ht with rfl | rfl <;> exact ⟨by kernel_rfl, of_decide_eq_true (by kernel_rfl)⟩
      intro t ht
      exact hr t (by
        have ht' : t ∈ Try.f6.params.toList := ht
        rw [Try.params6] at ht'
        exact ht')) ?_
  intro W base args ds p hval0 hA0 hsz0
  have hval : ∀ (j : Nat) t v, Try.f6.params[j]? = some t → args[j]? = some v → Value.okWide Try.prog W .any base t v := hval0
  have hA : DataW.TrodAll enc Try.prog W 0 (fun _ => true) true Try.f6.params.toList args.toList ds p := hA0
  have hsz : (DataW.weightsEach Try.prog Try.f6.params.toList ds).all (· ≤ reachBytes) = true := hsz0
  clear hval0 hA0 hsz0
  rw [Try.params6] at hA hval hsz
  obtain ⟨v0, vs0, d0, ds0, p0, q0, hargs, rfl, rfl, h0, r0⟩ := trodAll_cons hA
  obtain ⟨v1, vs1, d1, ds1, p1, q1, rfl, rfl, rfl, h1, r1⟩ := trodAll_cons r0
  obtain ⟨rfl, rfl, rfl⟩ := trodAll_nil r1
  obtain rfl : args = #[v0, v1] := by cases args; simp_all
  obtain ⟨cs0, rfl, _⟩ := okWide_struct Try.underlying28 (hval 0 28 v0 rfl rfl)
  obtain ⟨fuel0, hf0⟩ := h0
  obtain ⟨o0, hcs0, hok0⟩ := open_page hf0 (by rw [List.all_eq_true] at hsz ⊢; intro z hz; exact hsz z (DataW.weights_mem_each (j := 0) (t := 28) (d := d0) rfl rfl z hz))
  have hv0 : Value.agg cs0 = .agg o0.cells.toArray := by
    have : cs0.toList = o0.cells := by simpa [Value.cells] using hcs0
    rw [← this]
  rw [hv0]
  obtain ⟨cs1, rfl, _⟩ := okWide_struct Try.underlying28 (hval 1 28 v1 rfl rfl)
  obtain ⟨fuel1, hf1⟩ := h1
  obtain ⟨o1, hcs1, hok1⟩ := open_page hf1 (by rw [List.all_eq_true] at hsz ⊢; intro z hz; exact hsz z (DataW.weights_mem_each (j := 1) (t := 28) (d := d1) rfl rfl z hz))
  have hv1 : Value.agg cs1 = .agg o1.cells.toArray := by
    have : cs1.toList = o1.cells := by simpa [Value.cells] using hcs1
    rw [← this]
  rw [hv1]
  exact ⟨rfl, same_walk o0 o1 W hok0 hok1⟩

theorem proved_PageSame : Rows.PageSameSaid :=
  OpenClaim.holds_of_wide 6 Try.f6 rfl rfl rfl rfl rfl rfl rfl ⟨rfl, rfl, rfl, rfl, rfl⟩ rfl rfl rfl rfl rfl (by kernel_rfl) Try.func6 (by kernel_rfl)
    (of_decide_eq_true (by kernel_rfl)) (by unfold Func.isWrapper; first | (rw [if_pos (by decide +kernel)]; kernel_rfl) | (rw [if_neg (by decide +kernel)]; exact ⟨rfl, rfl⟩))
    (fun os started H enc _ => lifted_PageSame os started H enc)
end Go.Proofs.Yteoopijcclfdcaa.PgSame
