/-
  What a write comes to by the document; the statements' want, whole.
-/
import Derived.Test.YtbfpadilcfelbaaDevT7
namespace Go.Proofs.Ytbfpadilcfelbaa.Dsk
open Go.RowKit Go.Proofs.Ytbfpadilcfelbaa.Wd

set_option maxRecDepth 100000 in
set_option maxHeartbeats 8000000 in
theorem want1 (x0 : RA) (r : RX) (xs : List Nat) (k a : Int) (x : UInt8) (Ak : Option Addr) (nk ck : Nat) (l : List Bool) (w : World) (h : RVat w xs x0 r) (hg : RGood x0) (ho : OpOk w ⟨k, a, x, Ak, nk, ck, l⟩) (hkd : kindM k = 1) :
    Calls Try.prog 11 #[x0.val r, opv k a x Ak nk ck] w (WOut w xs (x0.wantR ⟨k, a, x, Ak, nk, ck, l⟩)) := by
  obtain ⟨safe, pend, dead, left, fails, ops⟩ := x0
  obtain ⟨A, n, c, A2, m, c2⟩ := r
  obtain ⟨y, hy⟩ : ∃ y, y = ({ safe := safe, pend := pend, dead := dead, left := left, fails := fails, ops := ops } : RA).wantR ⟨k, a, x, Ak, nk, ck, l⟩ := ⟨_, rfl⟩
  rw [← hy]
  have HRV : Hid (∀ w', Below w.heap.size w w' → RVat w' xs ({ safe := safe, pend := pend, dead := dead, left := left, fails := fails, ops := ops } : RA) ⟨A, n, c, A2, m, c2⟩) := (show ∀ _, _ from fun w' hb => h.below hb)
  have HGD := Lib.hid hg
  have HS : Hid (∀ w', Below w.heap.size w w' → Calls Try.prog 30 #[.agg (rcs ⟨A, n, c, A2, m, c2⟩ dead left fails ops).toArray, .int .i64 a, blk (blockM x)] w' (ROut w' xs (({ safe := safe, pend := pend, dead := dead, left := left, fails := fails, ops := ops } : RA).writeR a (blockM x)).1 (({ safe := safe, pend := pend, dead := dead, left := left, fails := fails, ops := ops } : RA).writeR a (blockM x)).2)) := (show ∀ _, _ from fun w' hb => rwrite_any ({ safe := safe, pend := pend, dead := dead, left := left, fails := fails, ops := ops } : RA) ⟨A, n, c, A2, m, c2⟩ xs a (blockM x) w' (HRV.out w' hb) HGD.out (blockM_len x))
  have HBZ := Lib.hid built_zero
  have HKD := Lib.hid hkd
  have HY := Lib.hid hy
  have HKC := Lib.hid (kind_any k a _ (x.toNat : Int) rfl Ak nk ck)
  have HOA := Lib.hid ho.low
  have HOB := Lib.hid ho.high
  clear hy h hg ho hkd
  obtain ⟨W1, hW1⟩ : ∃ W1, W1 = w.alloc (.cells (rcs ⟨A, n, c, A2, m, c2⟩ dead left fails ops).toArray 31) := ⟨_, rfl⟩
  obtain ⟨W2, hW2⟩ : ∃ W2, W2 = W1.alloc (.cells (ocs k a x Ak nk ck).toArray 37) := ⟨_, rfl⟩
  obtain ⟨W3, hW3⟩ : ∃ W3, W3 = W2.alloc (.cells rz.toArray 31) := ⟨_, rfl⟩
  obtain ⟨W4, hW4⟩ : ∃ W4, W4 = W3.alloc (.cells (bv nought).toArray 39) := ⟨_, rfl⟩
  have s1 : W1.heap.size = w.heap.size + 1 := by rw [hW1]; simp
  have s2 : W2.heap.size = w.heap.size + 1 + 1 := by rw [hW2]; simp [s1]
  have s3 : W3.heap.size = w.heap.size + 1 + 1 + 1 := by rw [hW3]; simp [s2]
  have HQ0 : Hid (Wq w W4 (rcs ⟨A, n, c, A2, m, c2⟩ dead left fails ops) (ocs k a x Ak nk ck)) := (show Wq _ _ _ _ from ⟨by rw [hW4, hW3, hW2, hW1]; exact (((Row.new w _ (rcs ⟨A, n, c, A2, m, c2⟩ dead left fails ops)).alloc _).alloc _).alloc _, by
    have := ((Row.new W1 37 (ocs k a x Ak nk ck)).alloc (.cells rz.toArray 31)).alloc (.cells (bv nought).toArray 39)
    rw [s1] at this
    rw [hW4, hW3, hW2]; exact this, by
    have := (Row.new W2 31 rz).alloc (.cells (bv nought).toArray 39)
    rw [s2] at this
    rw [hW4, hW3]; exact this, by
    have := Row.new W3 39 (bv nought)
    rw [s3] at this
    rw [hW4]; exact this, by
    rw [hW4, hW3, hW2, hW1]
    exact ((((Below.refl _ _).alloc (Nat.le_refl _) _).alloc (by simp) _).alloc (by simp; omega) _).alloc (by simp; omega) _⟩)
  have HW : Hid (W4 = (((w.alloc (.cells (rcs ⟨A, n, c, A2, m, c2⟩ dead left fails ops).toArray 31)).alloc (.cells (ocs k a x Ak nk ck).toArray 37)).alloc (.cells rz.toArray 31)).alloc (.cells (bv nought).toArray 39)) := (show _ = _ by rw [hW4, hW3, hW2, hW1])
  have HKW := Lib.hid (HKC.out W4)
  clear hW1 hW2 hW3 hW4 s1 s2 s3
  show Calls _ _ #[.agg #[.slice A n c, .slice A2 m c2, .bool dead, .int .i64 left, .int .i64 fails, .int .i64 ops], .agg #[.int .i64 k, .int .i64 a, .int .u8 (x.toNat : Int), .slice Ak nk ck]] w _
  go_enter Try.func11, Try.ntmps11
  go_wp2_with fail
  refine Calls.mono (HW.out ▸ HKW.out) ?_
  rintro e w1 ⟨rfl, hb1⟩
  have hb1' : Below W4.heap.size W4 w1 := by rw [HW.out]; exact hb1
  rw [HKD.out]
  have HQ1 := Lib.hid (HQ0.out.below hb1')
  clear hb1 hb1' HQ0 HW HKW HKC W1 W2 W3 W4
  have o1 : w1.cell? ⟨w.heap.size + 1, 1, none⟩ = some (.int .i64 a) := HQ1.out.ro.cell 1
  have o2 : w1.cell? ⟨w.heap.size + 1, 2, none⟩ = some (.int .u8 (x.toNat : Int)) := HQ1.out.ro.cell 2
  have o3 : w1.cell? ⟨w.heap.size + 1, 3, none⟩ = some (.slice Ak nk ck) := HQ1.out.ro.cell 3
  go_wp2_with fail
  refine wp_region_held_drew (S := fun w' : World => w'.cell? ⟨w.heap.size + 1, 1, none⟩ = some (.int .i64 a) ∧ w'.cell? ⟨w.heap.size + 1, 2, none⟩ = some (.int .u8 (x.toNat : Int))) (by kernel_rfl) ⟨o1, o2⟩ (fun hHeld => ?_)
  refine wpAnyH_take (i := 1) (oi := ⟨some 27, _, _, _, _, _⟩) (v := ?v1w1) rfl (by kernel_rfl) (by kernel_rfl) (by kernel_rfl) (fun _ _ _ h => h) (Or.inl ⟨by rfl, ?y1w1⟩) hHeld ?r1w1
  case y1w1 =>
    rintro w' ⟨q0, q1⟩
    go_simp
    try with_reducible rfl
  try simp only [Act.put, List.setIfInBounds_toArray, List.set_cons_zero, List.set_cons_succ]
  refine wpAnyH_take (i := 2) (oi := ⟨some 28, _, _, _, _, _⟩) (v := ?v2w1) rfl (by kernel_rfl) (by kernel_rfl) (by kernel_rfl) (fun _ _ _ h => h) (Or.inl ⟨by rfl, ?y2w1⟩) hHeld ?r2w1
  case y2w1 =>
    rintro w' ⟨q0, q1⟩
    go_simp
    try with_reducible rfl
  try simp only [Act.put, List.setIfInBounds_toArray, List.set_cons_zero, List.set_cons_succ]
  refine wpAnyH_take (i := 3) (oi := ⟨some 29, _, _, _, _, _⟩) (v := ?v3w1) rfl (by kernel_rfl) (by kernel_rfl) (by kernel_rfl) (fun _ _ _ h => h) (Or.inl ⟨by rfl, ?y3w1⟩) hHeld ?r3w1
  case y3w1 =>
    rintro w' ⟨q0, q1⟩
    go_simp
    try with_reducible rfl
  try simp only [Act.put, List.setIfInBounds_toArray, List.set_cons_zero, List.set_cons_succ]
  refine wpAnyH_take (i := 4) (oi := ⟨some 30, _, _, _, _, _⟩) (v := ?v4w1) rfl (by kernel_rfl) (by kernel_rfl) (by kernel_rfl) (fun _ _ _ h => h) (Or.inl ⟨by rfl, ?y4w1⟩) hHeld ?r4w1
  case y4w1 =>
    rintro w' ⟨q0, q1⟩
    go_simp
    try with_reducible rfl
  try simp only [Act.put, List.setIfInBounds_toArray, List.set_cons_zero, List.set_cons_succ]
  clear hHeld o1 o2 o3
  have HQd := Lib.hid HQ1.out.drew
  clear HQ1
  generalize w1.drew = W0 at HQd ⊢
  refine wpAnyH_ready (rs := [0, 5]) (by kernel_rfl) (by simp) ?_
  refine (AllReadyH.cons rfl (fun K hK => ?_) (AllReadyH.cons rfl (fun K hK => ?_) AllReadyH.nil))
  · rw [if_pos (by rfl)]
    refine wp_load_mid 31 (.tmp 2) rfl w.heap.size 0 rfl (rcs ⟨A, n, c, A2, m, c2⟩ dead left fails ops) _ (Row.all HQd.out.r0) Try.underlying31 rfl size31 ?_
    refine hK _ _ ⟨HQd.out.ro.cell 1, HQd.out.ro.cell 2⟩ (fun _ => ?_)
    clear hK K
    try simp only [Act.put, List.setIfInBounds_toArray, List.set_cons_zero, List.set_cons_succ]
    refine wpAnyH_ready (rs := [5]) (by kernel_rfl) (by simp) ?_
    refine (AllReadyH.cons rfl (fun K hK => ?_) AllReadyH.nil)
    go_simp
    refine (block_any x W0).mono ?_
    rintro e W2 ⟨rfl, hbb⟩
    have HQx2 := Lib.hid (HQd.out.below hbb)
    clear hbb
    refine hK _ _ ⟨HQx2.out.ro.cell 1, HQx2.out.ro.cell 2⟩ (fun _ => ?_)
    clear hK K
    try simp only [Act.put, List.setIfInBounds_toArray, List.set_cons_zero, List.set_cons_succ]
    refine wpAnyH_ready (rs := [6]) (by kernel_rfl) (by simp) ?_
    refine (AllReadyH.cons rfl (fun K hK => ?_) AllReadyH.nil)
    go_simp
    refine (HS.out W2 HQx2.out.bel).mono ?_
    rintro e W3 ⟨r', xs', rfl, hrv, hxs, hbb⟩
    have HQx3 := Lib.hid (HQx2.out.below hbb)
    have HRV2 := Lib.hid hrv
    have HXS0 := Lib.hid hxs
    have HSZ1 := Lib.hid HQx2.out.sz
    clear hrv hxs hbb
    refine hK _ _ ⟨HQx3.out.ro.cell 1, HQx3.out.ro.cell 2⟩ (fun _ => ?_)
    clear hK K
    try simp only [Act.put, List.setIfInBounds_toArray, List.set_cons_zero, List.set_cons_succ]
    have hHeld := (show W3.cell? ⟨w.heap.size + 1, 1, none⟩ = some (.int .i64 a) ∧ W3.cell? ⟨w.heap.size + 1, 2, none⟩ = some (.int .u8 (x.toNat : Int)) from ⟨HQx3.out.ro.cell 1, HQx3.out.ro.cell 2⟩)
    refine wpAnyH_take (i := 7) (oi := ⟨some 25, _, _, _, _, _⟩) (v := ?v7y3) rfl (by kernel_rfl) (by kernel_rfl) (by kernel_rfl) (fun _ _ _ h => h) (Or.inl ⟨by rfl, ?y7y3⟩) hHeld ?r7y3
    case y7y3 =>
      rintro w' ⟨q0, q1⟩
      go_simp
      try with_reducible rfl
    try simp only [Act.put, List.setIfInBounds_toArray, List.set_cons_zero, List.set_cons_succ]
    refine wpAnyH_take (i := 8) (oi := ⟨some 33, _, _, _, _, _⟩) (v := ?v8y3) rfl (by kernel_rfl) (by kernel_rfl) (by kernel_rfl) (fun _ _ _ h => h) (Or.inl ⟨by rfl, ?y8y3⟩) hHeld ?r8y3
    case y8y3 =>
      rintro w' ⟨q0, q1⟩
      go_simp
      try with_reducible rfl
    try simp only [Act.put, List.setIfInBounds_toArray, List.set_cons_zero, List.set_cons_succ]
    refine wpAnyH_take (i := 9) (oi := ⟨some 34, _, _, _, _, _⟩) (v := ?v9y3) rfl (by kernel_rfl) (by kernel_rfl) (by kernel_rfl) (fun _ _ _ h => h) (Or.inl ⟨by rfl, ?y9y3⟩) hHeld ?r9y3
    case y9y3 =>
      rintro w' ⟨q0, q1⟩
      go_simp
      try with_reducible rfl
    try simp only [Act.put, List.setIfInBounds_toArray, List.set_cons_zero, List.set_cons_succ]
    clear hHeld
    refine wpAnyH_ready (rs := [10]) (by kernel_rfl) (by simp) ?_
    refine AllReadyH.cons rfl (fun K hK => ?_) AllReadyH.nil
    rw [if_pos (by rfl)]
    refine wp_store_mid 31 (.tmp 2) (.tmp 33) rfl w.heap.size 0 ((({ safe := safe, pend := pend, dead := dead, left := left, fails := fails, ops := ops } : RA).writeR a (blockM x)).1.cells r').toArray rfl rfl ?_ ?_ (all_oneCell_toArray (cells_one _ _)) ?_
    · rw [List.size_toArray]; exact Row.there HQx3.out.r0 (by show 0 + 6 ≤ 6; decide)
    · rw [List.size_toArray]; exact size31
    rw [List.toList_toArray]
    have hr5 := Row.setCells ((({ safe := safe, pend := pend, dead := dead, left := left, fails := fails, ops := ops } : RA).writeR a (blockM x)).1.cells r') 0 (rcs ⟨A, n, c, A2, m, c2⟩ dead left fails ops) W3 HQx3.out.r0 (by show 0 + 6 ≤ 6; decide)
    have hg5 := grown_setCells w.heap.size ((({ safe := safe, pend := pend, dead := dead, left := left, fails := fails, ops := ops } : RA).writeR a (blockM x)).1.cells r') 0 W3
    rw [splice_all _ _ (by rfl)] at hr5
    generalize W3.setCells w.heap.size 0 ((({ safe := safe, pend := pend, dead := dead, left := left, fails := fails, ops := ops } : RA).writeR a (blockM x)).1.cells r') = w3 at hr5 hg5 ⊢
    have HQ3 := Lib.hid (HQx3.out.put0 hr5 hg5)
    have HXS : Hid (∀ b ∈ xs', b < w.heap.size ∨ w.heap.size + 1 + 1 + 1 + 1 ≤ b) := (show ∀ b ∈ _, _ from fun b hb => by
      rcases HXS0.out b hb with h | h
      · exact .inl ((HRV.out w (Below.refl _ _)).lt b h)
      · exact .inr (by have := HSZ1.out; omega))
    have HXC : Hid (∀ b ∈ xs', b ∈ xs ∨ w.heap.size ≤ b) := (show ∀ b ∈ _, _ from fun b hb => by
      rcases HXS0.out b hb with h | h
      · exact .inl h
      · exact .inr (by have := HSZ1.out; omega))
    have HRV3 := Lib.hid (HRV2.out.off hg5.size (fun b hb => hg5.block b (HRV2.out.lt b hb) (fun e => by have := HXS.out b hb; simp at e; omega)))
    have HWR : Hid (({ safe := safe, pend := pend, dead := dead, left := left, fails := fails, ops := ops } : RA).wantR ⟨k, a, x, Ak, nk, ck, l⟩ = ((({ safe := safe, pend := pend, dead := dead, left := left, fails := fails, ops := ops } : RA).writeR a (blockM x)).1, nought, (({ safe := safe, pend := pend, dead := dead, left := left, fails := fails, ops := ops } : RA).writeR a (blockM x)).2)) := (show _ = _ by
      have hk := HKD.out
      unfold RA.wantR
      dsimp only
      simp only [hk]
      rfl)
    refine hK _ _ ⟨HQ3.out.ro.cell 1, HQ3.out.ro.cell 2⟩ (fun _ => ?_)
    clear hK K hr5 hg5 HRV2 HXS0 HSZ1 HQx3
    try simp only [Act.put, List.setIfInBounds_toArray, List.set_cons_zero, List.set_cons_succ]
    have hHeld := (show w3.cell? ⟨w.heap.size + 1, 1, none⟩ = some (.int .i64 a) ∧ w3.cell? ⟨w.heap.size + 1, 2, none⟩ = some (.int .u8 (x.toNat : Int)) from ⟨HQ3.out.ro.cell 1, HQ3.out.ro.cell 2⟩)
    refine wpAnyH_take (i := 11) (oi := ⟨some 7, _, _, _, _, _⟩) (v := ?v11z3) rfl (by kernel_rfl) (by kernel_rfl) (by kernel_rfl) (fun _ _ _ h => h) (Or.inl ⟨by rfl, ?y11z3⟩) hHeld ?r11z3
    case y11z3 =>
      rintro w' ⟨q0, q1⟩
      go_simp
      try with_reducible rfl
    try simp only [Act.put, List.setIfInBounds_toArray, List.set_cons_zero, List.set_cons_succ]
    refine wpAnyH_done (by kernel_rfl) ?_ _
    clear hHeld
    go_wp2_with (first
      | (with_reducible refine wpList_load_mid (op := ⟨some 60, _, _, _, _, _⟩) ?_ 31 (.tmp 2) (by rfl) w.heap.size 0 ?_ ((({ safe := safe, pend := pend, dead := dead, left := left, fails := fails, ops := ops } : RA).writeR a (blockM x)).1.cells r') _ ?_ Try.underlying31 ?_ ?_ ?_)
      | (with_reducible refine wpList_build_to (o := ⟨some 61, _, _, _, _, _⟩) (by rfl) 39 _ rfl (bv nought).toArray HBZ.out ?_)
      | (with_reducible refine wpList_store_in (op := ⟨none, _, _, _, _, _⟩) ?_ 31 (.tmp 4) (.tmp 60) (by rfl) (w.heap.size + 1 + 1) 0 ((({ safe := safe, pend := pend, dead := dead, left := left, fails := fails, ops := ops } : RA).writeR a (blockM x)).1.cells r') ?_ ?_ 31 rz ?_ ?_ (cells_one _ _) ?_ ?_))
    all_goals try (first | rfl | exact Row.all HQ3.out.r0 | exact HQ3.out.r4 | exact size31 | exact size39 | (show 0 + 6 ≤ 6; decide) | (show 0 + 64 ≤ 64; decide))
    intro w8 hr hgr
    rw [splice_all _ _ (by rfl)] at hr
    have T1 := Lib.hid hr
    have T2 := Lib.hid (HQ3.out.r5.grown hgr (by simp))
    have TB := Lib.hid (HQ3.out.bel.grown hgr HQ3.out.bel.size (fun k hk => by simp at hk; omega))
    have TK := Lib.hid hgr
    clear hr hgr
    go_wp2_with (first
      | (with_reducible refine wpList_store_in (op := ⟨none, _, _, _, _, _⟩) ?_ 39 (.tmp 5) (.tmp 61) (by rfl) (w.heap.size + 1 + 1 + 1) 0 (bv nought) ?_ ?_ 39 (bv nought) ?_ ?_ bv_one ?_ ?_))
    all_goals try (first | rfl | exact T2.out | exact size31 | exact size39 | (show 0 + 6 ≤ 6; decide) | (show 0 + 64 ≤ 64; decide))
    intro w9 hr hgr
    rw [splice_all _ _ (by rfl)] at hr
    have V1 := Lib.hid (T1.out.grown hgr (by simp))
    have V2 := Lib.hid hr
    have VB := Lib.hid (TB.out.grown hgr TB.out.size (fun k hk => by simp at hk; omega))
    have VR := Lib.hid ((HRV3.out.off TK.out.size (fun b hb => TK.out.block b (HRV3.out.lt b hb) (fun e => by have := HXS.out b hb; simp at e; omega))).off hgr.size (fun b hb => hgr.block b (Nat.lt_of_lt_of_le (HRV3.out.lt b hb) TK.out.size) (fun e => by have := HXS.out b hb; simp at e; omega)))
    clear hr hgr T1 T2 TB TK
    go_wp2
    refine bodyPost_ret (v := .tuple #[.agg ((({ safe := safe, pend := pend, dead := dead, left := left, fails := fails, ops := ops } : RA).writeR a (blockM x)).1.cells r').toArray, blk nought, .int .i64 (({ safe := safe, pend := pend, dead := dead, left := left, fails := fails, ops := ops } : RA).writeR a (blockM x)).2]) (results_cct (p := 4) (q := 5) (t := 6) (T1 := 31) (T2 := 39) rfl _ _ ⟨w.heap.size + 1 + 1, 0, none⟩ ⟨w.heap.size + 1 + 1 + 1, 0, none⟩ _ _ _ rfl (run_load_rcs _ _ _ rfl V1.out) rfl (run_load_blk _ _ _ _ nought _ (Row.all V2.out) Try.underlying39 rfl size39) rfl) rfl ?_
    rw [HY.out, HWR.out]
    exact ⟨_, xs', rfl, VR.out, HXC.out, VB.out⟩
  · go_simp
    refine (block_any x W0).mono ?_
    rintro e W4 ⟨rfl, hbb⟩
    have HQx4 := Lib.hid (HQd.out.below hbb)
    clear hbb
    refine hK _ _ ⟨HQx4.out.ro.cell 1, HQx4.out.ro.cell 2⟩ (fun _ => ?_)
    clear hK K
    try simp only [Act.put, List.setIfInBounds_toArray, List.set_cons_zero, List.set_cons_succ]
    refine wpAnyH_ready (rs := [0]) (by kernel_rfl) (by simp) ?_
    refine (AllReadyH.cons rfl (fun K hK => ?_) AllReadyH.nil)
    rw [if_pos (by rfl)]
    refine wp_load_mid 31 (.tmp 2) rfl w.heap.size 0 rfl (rcs ⟨A, n, c, A2, m, c2⟩ dead left fails ops) _ (Row.all HQx4.out.r0) Try.underlying31 rfl size31 ?_
    refine hK _ _ ⟨HQx4.out.ro.cell 1, HQx4.out.ro.cell 2⟩ (fun _ => ?_)
    clear hK K
    try simp only [Act.put, List.setIfInBounds_toArray, List.set_cons_zero, List.set_cons_succ]
    refine wpAnyH_ready (rs := [6]) (by kernel_rfl) (by simp) ?_
    refine (AllReadyH.cons rfl (fun K hK => ?_) AllReadyH.nil)
    go_simp
    refine (HS.out W4 HQx4.out.bel).mono ?_
    rintro e W6 ⟨r', xs', rfl, hrv, hxs, hbb⟩
    have HQx6 := Lib.hid (HQx4.out.below hbb)
    have HRV2 := Lib.hid hrv
    have HXS0 := Lib.hid hxs
    have HSZ1 := Lib.hid HQx4.out.sz
    clear hrv hxs hbb
    refine hK _ _ ⟨HQx6.out.ro.cell 1, HQx6.out.ro.cell 2⟩ (fun _ => ?_)
    clear hK K
    try simp only [Act.put, List.setIfInBounds_toArray, List.set_cons_zero, List.set_cons_succ]
    have hHeld := (show W6.cell? ⟨w.heap.size + 1, 1, none⟩ = some (.int .i64 a) ∧ W6.cell? ⟨w.heap.size + 1, 2, none⟩ = some (.int .u8 (x.toNat : Int)) from ⟨HQx6.out.ro.cell 1, HQx6.out.ro.cell 2⟩)
    refine wpAnyH_take (i := 7) (oi := ⟨some 25, _, _, _, _, _⟩) (v := ?v7y6) rfl (by kernel_rfl) (by kernel_rfl) (by kernel_rfl) (fun _ _ _ h => h) (Or.inl ⟨by rfl, ?y7y6⟩) hHeld ?r7y6
    case y7y6 =>
      rintro w' ⟨q0, q1⟩
      go_simp
      try with_reducible rfl
    try simp only [Act.put, List.setIfInBounds_toArray, List.set_cons_zero, List.set_cons_succ]
    refine wpAnyH_take (i := 8) (oi := ⟨some 33, _, _, _, _, _⟩) (v := ?v8y6) rfl (by kernel_rfl) (by kernel_rfl) (by kernel_rfl) (fun _ _ _ h => h) (Or.inl ⟨by rfl, ?y8y6⟩) hHeld ?r8y6
    case y8y6 =>
      rintro w' ⟨q0, q1⟩
      go_simp
      try with_reducible rfl
    try simp only [Act.put, List.setIfInBounds_toArray, List.set_cons_zero, List.set_cons_succ]
    refine wpAnyH_take (i := 9) (oi := ⟨some 34, _, _, _, _, _⟩) (v := ?v9y6) rfl (by kernel_rfl) (by kernel_rfl) (by kernel_rfl) (fun _ _ _ h => h) (Or.inl ⟨by rfl, ?y9y6⟩) hHeld ?r9y6
    case y9y6 =>
      rintro w' ⟨q0, q1⟩
      go_simp
      try with_reducible rfl
    try simp only [Act.put, List.setIfInBounds_toArray, List.set_cons_zero, List.set_cons_succ]
    clear hHeld
    refine wpAnyH_ready (rs := [10]) (by kernel_rfl) (by simp) ?_
    refine AllReadyH.cons rfl (fun K hK => ?_) AllReadyH.nil
    rw [if_pos (by rfl)]
    refine wp_store_mid 31 (.tmp 2) (.tmp 33) rfl w.heap.size 0 ((({ safe := safe, pend := pend, dead := dead, left := left, fails := fails, ops := ops } : RA).writeR a (blockM x)).1.cells r').toArray rfl rfl ?_ ?_ (all_oneCell_toArray (cells_one _ _)) ?_
    · rw [List.size_toArray]; exact Row.there HQx6.out.r0 (by show 0 + 6 ≤ 6; decide)
    · rw [List.size_toArray]; exact size31
    rw [List.toList_toArray]
    have hr5 := Row.setCells ((({ safe := safe, pend := pend, dead := dead, left := left, fails := fails, ops := ops } : RA).writeR a (blockM x)).1.cells r') 0 (rcs ⟨A, n, c, A2, m, c2⟩ dead left fails ops) W6 HQx6.out.r0 (by show 0 + 6 ≤ 6; decide)
    have hg5 := grown_setCells w.heap.size ((({ safe := safe, pend := pend, dead := dead, left := left, fails := fails, ops := ops } : RA).writeR a (blockM x)).1.cells r') 0 W6
    rw [splice_all _ _ (by rfl)] at hr5
    generalize W6.setCells w.heap.size 0 ((({ safe := safe, pend := pend, dead := dead, left := left, fails := fails, ops := ops } : RA).writeR a (blockM x)).1.cells r') = w3 at hr5 hg5 ⊢
    have HQ3 := Lib.hid (HQx6.out.put0 hr5 hg5)
    have HXS : Hid (∀ b ∈ xs', b < w.heap.size ∨ w.heap.size + 1 + 1 + 1 + 1 ≤ b) := (show ∀ b ∈ _, _ from fun b hb => by
      rcases HXS0.out b hb with h | h
      · exact .inl ((HRV.out w (Below.refl _ _)).lt b h)
      · exact .inr (by have := HSZ1.out; omega))
    have HXC : Hid (∀ b ∈ xs', b ∈ xs ∨ w.heap.size ≤ b) := (show ∀ b ∈ _, _ from fun b hb => by
      rcases HXS0.out b hb with h | h
      · exact .inl h
      · exact .inr (by have := HSZ1.out; omega))
    have HRV3 := Lib.hid (HRV2.out.off hg5.size (fun b hb => hg5.block b (HRV2.out.lt b hb) (fun e => by have := HXS.out b hb; simp at e; omega)))
    have HWR : Hid (({ safe := safe, pend := pend, dead := dead, left := left, fails := fails, ops := ops } : RA).wantR ⟨k, a, x, Ak, nk, ck, l⟩ = ((({ safe := safe, pend := pend, dead := dead, left := left, fails := fails, ops := ops } : RA).writeR a (blockM x)).1, nought, (({ safe := safe, pend := pend, dead := dead, left := left, fails := fails, ops := ops } : RA).writeR a (blockM x)).2)) := (show _ = _ by
      have hk := HKD.out
      unfold RA.wantR
      dsimp only
      simp only [hk]
      rfl)
    refine hK _ _ ⟨HQ3.out.ro.cell 1, HQ3.out.ro.cell 2⟩ (fun _ => ?_)
    clear hK K hr5 hg5 HRV2 HXS0 HSZ1 HQx6
    try simp only [Act.put, List.setIfInBounds_toArray, List.set_cons_zero, List.set_cons_succ]
    have hHeld := (show w3.cell? ⟨w.heap.size + 1, 1, none⟩ = some (.int .i64 a) ∧ w3.cell? ⟨w.heap.size + 1, 2, none⟩ = some (.int .u8 (x.toNat : Int)) from ⟨HQ3.out.ro.cell 1, HQ3.out.ro.cell 2⟩)
    refine wpAnyH_take (i := 11) (oi := ⟨some 7, _, _, _, _, _⟩) (v := ?v11z6) rfl (by kernel_rfl) (by kernel_rfl) (by kernel_rfl) (fun _ _ _ h => h) (Or.inl ⟨by rfl, ?y11z6⟩) hHeld ?r11z6
    case y11z6 =>
      rintro w' ⟨q0, q1⟩
      go_simp
      try with_reducible rfl
    try simp only [Act.put, List.setIfInBounds_toArray, List.set_cons_zero, List.set_cons_succ]
    refine wpAnyH_done (by kernel_rfl) ?_ _
    clear hHeld
    go_wp2_with (first
      | (with_reducible refine wpList_load_mid (op := ⟨some 60, _, _, _, _, _⟩) ?_ 31 (.tmp 2) (by rfl) w.heap.size 0 ?_ ((({ safe := safe, pend := pend, dead := dead, left := left, fails := fails, ops := ops } : RA).writeR a (blockM x)).1.cells r') _ ?_ Try.underlying31 ?_ ?_ ?_)
      | (with_reducible refine wpList_build_to (o := ⟨some 61, _, _, _, _, _⟩) (by rfl) 39 _ rfl (bv nought).toArray HBZ.out ?_)
      | (with_reducible refine wpList_store_in (op := ⟨none, _, _, _, _, _⟩) ?_ 31 (.tmp 4) (.tmp 60) (by rfl) (w.heap.size + 1 + 1) 0 ((({ safe := safe, pend := pend, dead := dead, left := left, fails := fails, ops := ops } : RA).writeR a (blockM x)).1.cells r') ?_ ?_ 31 rz ?_ ?_ (cells_one _ _) ?_ ?_))
    all_goals try (first | rfl | exact Row.all HQ3.out.r0 | exact HQ3.out.r4 | exact size31 | exact size39 | (show 0 + 6 ≤ 6; decide) | (show 0 + 64 ≤ 64; decide))
    intro w8 hr hgr
    rw [splice_all _ _ (by rfl)] at hr
    have T1 := Lib.hid hr
    have T2 := Lib.hid (HQ3.out.r5.grown hgr (by simp))
    have TB := Lib.hid (HQ3.out.bel.grown hgr HQ3.out.bel.size (fun k hk => by simp at hk; omega))
    have TK := Lib.hid hgr
    clear hr hgr
    go_wp2_with (first
      | (with_reducible refine wpList_store_in (op := ⟨none, _, _, _, _, _⟩) ?_ 39 (.tmp 5) (.tmp 61) (by rfl) (w.heap.size + 1 + 1 + 1) 0 (bv nought) ?_ ?_ 39 (bv nought) ?_ ?_ bv_one ?_ ?_))
    all_goals try (first | rfl | exact T2.out | exact size31 | exact size39 | (show 0 + 6 ≤ 6; decide) | (show 0 + 64 ≤ 64; decide))
    intro w9 hr hgr
    rw [splice_all _ _ (by rfl)] at hr
    have V1 := Lib.hid (T1.out.grown hgr (by simp))
    have V2 := Lib.hid hr
    have VB := Lib.hid (TB.out.grown hgr TB.out.size (fun k hk => by simp at hk; omega))
    have VR := Lib.hid ((HRV3.out.off TK.out.size (fun b hb => TK.out.block b (HRV3.out.lt b hb) (fun e => by have := HXS.out b hb; simp at e; omega))).off hgr.size (fun b hb => hgr.block b (Nat.lt_of_lt_of_le (HRV3.out.lt b hb) TK.out.size) (fun e => by have := HXS.out b hb; simp at e; omega)))
    clear hr hgr T1 T2 TB TK
    go_wp2
    refine bodyPost_ret (v := .tuple #[.agg ((({ safe := safe, pend := pend, dead := dead, left := left, fails := fails, ops := ops } : RA).writeR a (blockM x)).1.cells r').toArray, blk nought, .int .i64 (({ safe := safe, pend := pend, dead := dead, left := left, fails := fails, ops := ops } : RA).writeR a (blockM x)).2]) (results_cct (p := 4) (q := 5) (t := 6) (T1 := 31) (T2 := 39) rfl _ _ ⟨w.heap.size + 1 + 1, 0, none⟩ ⟨w.heap.size + 1 + 1 + 1, 0, none⟩ _ _ _ rfl (run_load_rcs _ _ _ rfl V1.out) rfl (run_load_blk _ _ _ _ nought _ (Row.all V2.out) Try.underlying39 rfl size39) rfl) rfl ?_
    rw [HY.out, HWR.out]
    exact ⟨_, xs', rfl, VR.out, HXC.out, VB.out⟩

theorem want_any (x0 : RA) (r : RX) (xs : List Nat) (o : OM) (w : World) (h : RVat w xs x0 r) (hg : RGood x0) (ho : OpOk w o) :
    Calls Try.prog 11 #[x0.val r, o.val] w (WOut w xs (x0.wantR o)) := by
  obtain ⟨k, a, x, Ak, nk, ck, l⟩ := o
  rcases kindM_in k with hk | hk | hk | hk | hk | hk
  · exact want0 x0 r xs k a x Ak nk ck l w h hg ho hk
  · exact want1 x0 r xs k a x Ak nk ck l w h hg ho hk
  · exact want2 x0 r xs k a x Ak nk ck l w h hg ho hk
  · exact want3 x0 r xs k a x Ak nk ck l w h hg ho hk
  · exact want4 x0 r xs k a x Ak nk ck l w h hg ho hk
  · exact want5 x0 r xs k a x Ak nk ck l w h hg ho hk
end Go.Proofs.Ytbfpadilcfelbaa.Dsk
