/-
  The reference's Sync.
-/
import Derived.Test.YtbfpadilcfelbaaDevT4
namespace Go.Proofs.Ytbfpadilcfelbaa.Dsk
open Go.RowKit Go.Proofs.Ytbfpadilcfelbaa.Wd

/-- what a call that answers a disk and an error leaves -/
def ROut (w : World) (xs : List Nat) (x : RA) (err : Int) (e : Ending) (w' : World) : Prop :=
  ∃ r xs', e = .returned (.tuple #[x.val r, .int .i64 err]) ∧ RVat w' xs' x r ∧ (∀ b ∈ xs', b ∈ xs ∨ w.heap.size ≤ b) ∧ Below w.heap.size w w'
theorem RVat.of_live {w : World} {x : RA} {gs cap n : Nat} (hs : x.safe.length = n) (hp : x.pend = []) (hc : n ≤ cap) (hl : gs < w.heap.size) (hb : Blks w w.heap.size (some ⟨gs, 0, none⟩) x.safe) : RVat w [gs] x ⟨some ⟨gs, 0, none⟩, n, cap, none, 0, 0⟩ :=
  ⟨hs, by rw [hp]; rfl, hc, Nat.le_refl _, (fun h => by cases h), fun _ => rfl, hb, (fun h => by rw [hp] at h; exact absurd h (by simp)), (fun b o s e => by cases e; simp), (fun b o s e => by cases e), fun b hb' => by simp at hb'; omega⟩

set_option maxRecDepth 100000 in
set_option maxHeartbeats 2000000 in
theorem rsync_any (x : RA) (r : RX) (xs : List Nat) (w : World) (h : RVat w xs x r) (hg : RGood x) :
    Calls Try.prog 31 #[x.val r] w (ROut w xs x.syncR.1 x.syncR.2) := by
  obtain ⟨safe, pend, dead, left, fails, ops⟩ := x
  obtain ⟨A, n, c, A2, m, c2⟩ := r
  have hsl : safe.length = n := h.sl
  have hpl : pend.length = m := h.pl
  obtain ⟨am, ham⟩ : ∃ am, am = askedM dead n fails 0 := ⟨_, rfl⟩
  obtain ⟨dm, hdm⟩ : ∃ dm, dm = doneM dead left ops := ⟨_, rfl⟩
  have hf : fails ≤ 9223372036854775807 := hg.fails.2
  have hlf : left ≤ 9223372036854775807 := hg.left.2
  have hlf0 : -9223372036854775808 ≤ left := by have : -1 ≤ left := hg.left.1; omega
  have hops : ops ≤ 1000001 := hg.ops.2
  have hops0 : 0 ≤ ops := hg.ops.1
  obtain ⟨y, hy⟩ : ∃ y, y = ({ safe := safe, pend := pend, dead := dead, left := left, fails := fails, ops := ops } : RA).syncR := ⟨_, rfl⟩
  rw [← hy]
  have HY := Lib.hid hy
  clear hy
  have HRV : Hid (∀ w', Below w.heap.size w w' → RVat w' xs ({ safe := safe, pend := pend, dead := dead, left := left, fails := fails, ops := ops } : RA) ⟨A, n, c, A2, m, c2⟩) := (show ∀ _, _ from fun w' hb => h.below hb)
  have HGD := Lib.hid hg
  have HSL := Lib.hid hsl
  have HPL := Lib.hid hpl
  have HAM := Lib.hid ham
  have HDM := Lib.hid hdm
  have HASK := Lib.hid (asked_any A n c A2 m c2 dead left fails ops 0)
  have HDONE := Lib.hid (done_any A n c A2 m c2 dead left am.1 ops)
  have HALL : Hid (∀ w', Below w.heap.size w w' → Calls Try.prog 47 #[.agg (rcs ⟨A, n, c, A2, m, c2⟩ dm.1 dm.2.1 am.1 dm.2.2.1).toArray] w' fun e w'' => ∃ g, e = .returned (.slice (some ⟨g, 0, none⟩) m m) ∧ Row w'' g 4 (bools (List.replicate m true)) ∧ w'.heap.size ≤ g ∧ Below w'.heap.size w' w'') :=
    (show ∀ _, _ from fun w' hb => rall_any ⟨safe, pend, dm.1, dm.2.1, am.1, dm.2.2.1⟩ ⟨A, n, c, A2, m, c2⟩ xs w' ((HRV.out w' hb).turn rfl rfl) ⟨hg.len, hg.few, hg.inr⟩)
  have HLIVE : Hid (∀ w', Below w.heap.size w w' → ∀ Ak ck, Vs w' w'.heap.size Ak (bools (List.replicate m true)) → Calls Try.prog 46 #[.agg (rcs ⟨A, n, c, A2, m, c2⟩ dm.1 dm.2.1 am.1 dm.2.2.1).toArray, .slice Ak m ck] w' fun e w'' => ∃ gs cap, e = .returned (.agg (rcs ⟨some ⟨gs, 0, none⟩, n, cap, none, 0, 0⟩ dm.1 dm.2.1 am.1 dm.2.2.1).toArray) ∧ w'.heap.size ≤ gs ∧ gs < w''.heap.size ∧ n ≤ cap ∧ Blks w'' w''.heap.size (some ⟨gs, 0, none⟩) (liveR safe pend (List.replicate m true) pend.length) ∧ Below w'.heap.size w' w'') :=
    (show ∀ _, _ from fun w' hb Ak ck hv => rlive_any ⟨safe, pend, dm.1, dm.2.1, am.1, dm.2.2.1⟩ ⟨A, n, c, A2, m, c2⟩ xs Ak m ck (List.replicate m true) w' ((HRV.out w' hb).turn rfl rfl) ⟨hg.len, hg.few, hg.inr⟩ (by simp) hv)
  have HLN : Hid (∀ kl, (liveR safe pend kl pend.length).length = n) := (show ∀ _, _ from fun kl => by rw [liveR_len, hsl])
  clear h hg hsl hpl ham hdm
  obtain ⟨W1, hW1⟩ : ∃ W1, W1 = w.alloc (.cells (rcs ⟨A, n, c, A2, m, c2⟩ dead left fails ops).toArray 31) := ⟨_, rfl⟩
  obtain ⟨W2, hW2⟩ : ∃ W2, W2 = W1.alloc (.cells rz.toArray 31) := ⟨_, rfl⟩
  have s1 : W1.heap.size = w.heap.size + 1 := by rw [hW1]; simp
  have s2 : W2.heap.size = w.heap.size + 1 + 1 := by rw [hW2]; simp [s1]
  have R0 : Hid (Row W2 w.heap.size 31 (rcs ⟨A, n, c, A2, m, c2⟩ dead left fails ops)) := (show Row _ _ _ _ by rw [hW2, hW1]; exact (Row.new w _ (rcs ⟨A, n, c, A2, m, c2⟩ dead left fails ops)).alloc _)
  have R1 : Hid (Row W2 (w.heap.size + 1) 31 rz) := (show Row _ _ _ _ by
    have := Row.new W1 31 rz
    rw [s1] at this
    rw [hW2]; exact this)
  have HB2 : Hid (Below w.heap.size w W2) := (show Below _ _ _ by
    rw [hW2, hW1]
    exact ((Below.refl _ _).alloc (Nat.le_refl _) _).alloc (by simp) _)
  have HW : Hid (W2 = (w.alloc (.cells (rcs ⟨A, n, c, A2, m, c2⟩ dead left fails ops).toArray 31)).alloc (.cells rz.toArray 31)) := (show _ = _ by rw [hW2, hW1])
  clear hW1 hW2 s1
  show Calls _ _ #[.agg #[.slice A n c, .slice A2 m c2, .bool dead, .int .i64 left, .int .i64 fails, .int .i64 ops]] w _
  go_enter Try.func31, Try.ntmps31
  go_wp2_with fail
  refine (HASK.out _ hf).mono ?_
  rintro e w1 ⟨rfl, hb1⟩
  have hb1' : Below W2.heap.size W2 w1 := by rw [HW.out]; exact hb1
  rw [← HAM.out]
  have G0 := Lib.hid (R0.out.below hb1' (by omega))
  have G1 := Lib.hid (R1.out.below hb1' (by omega))
  have HB1 := Lib.hid (HB2.out.trans (hb1'.mono HB2.out.size))
  have s4 : w.heap.size + 1 + 1 ≤ w1.heap.size := by have := hb1'.size; omega
  clear hb1 hb1' HW R0 R1 HB2 HASK s2
  go_wp2_with (first
    | (with_reducible refine wpList_store_in (op := ⟨none, _, _, _, _, _⟩) ?_ 31 (.tmp 1) (.tmp 9) (by rfl) w.heap.size 0 (rcs ⟨A, n, c, A2, m, c2⟩ dead left am.1 ops) ?_ ?_ 31 (rcs ⟨A, n, c, A2, m, c2⟩ dead left fails ops) ?_ ?_ (rcs_one _ _ _ _ _) ?_ ?_))
  all_goals try (first | rfl | exact G0.out | exact size31 | exact size39 | (show 0 + 6 ≤ 6; decide) | (show 0 + 64 ≤ 64; decide))
  intro w2 hr hgr
  rw [splice_all _ _ (by rfl)] at hr
  have K0 := Lib.hid hr
  have K1 := Lib.hid (G1.out.grown hgr (by simp))
  have KB := Lib.hid (HB1.out.grown hgr HB1.out.size (fun k hk => by simp at hk; omega))
  have s5 : w.heap.size + 1 + 1 ≤ w2.heap.size := Nat.le_trans s4 hgr.size
  have HAR : Hid (({ safe := safe, pend := pend, dead := dead, left := left, fails := fails, ops := ops } : RA).askR 0 = ({ safe := safe, pend := pend, dead := dead, left := left, fails := am.1, ops := ops }, am.2)) := (show _ = _ by
    rw [HAM.out, ← HSL.out]; rfl)
  clear hr hgr G0 G1 HB1 s4
  by_cases he : am.2 = 0
  case neg =>
    have hne : (am.2 != 0) = true := by simp [he]
    have HRR : Hid (({ safe := safe, pend := pend, dead := dead, left := left, fails := fails, ops := ops } : RA).syncR = ({ safe := safe, pend := pend, dead := dead, left := left, fails := am.1, ops := ops }, am.2)) := (show _ = _ by
      unfold RA.syncR
      rw [HAR.out]
      exact if_neg he)
    clear he
    go_wp2_with (first
      | (with_reducible refine wpList_load_mid (op := ⟨some 13, _, _, _, _, _⟩) ?_ 31 (.tmp 1) (by rfl) w.heap.size 0 ?_ (rcs ⟨A, n, c, A2, m, c2⟩ dead left am.1 ops) _ ?_ Try.underlying31 ?_ ?_ ?_)
      | (with_reducible refine wpList_store_in (op := ⟨none, _, _, _, _, _⟩) ?_ 31 (.tmp 2) (.tmp 13) (by rfl) (w.heap.size + 1) 0 (rcs ⟨A, n, c, A2, m, c2⟩ dead left am.1 ops) ?_ ?_ 31 rz ?_ ?_ (rcs_one _ _ _ _ _) ?_ ?_))
    all_goals try (first | rfl | exact Row.all K0.out | exact K1.out | exact size31 | exact size39 | (show 0 + 6 ≤ 6; decide) | (show 0 + 64 ≤ 64; decide))
    intro w3 hr hgr
    rw [splice_all _ _ (by rfl)] at hr
    have T1 := Lib.hid hr
    have TB := Lib.hid (KB.out.grown hgr KB.out.size (fun k hk => by simp at hk; omega))
    clear hr hgr K0 K1 KB
    go_wp2
    refine bodyPost_ret (v := .tuple #[.agg (rcs ⟨A, n, c, A2, m, c2⟩ dead left am.1 ops).toArray, .int .i64 am.2]) (results_ct (p := 2) (q := 3) (ty := 31) rfl _ _ ⟨w.heap.size + 1, 0, none⟩ _ _ rfl (run_load_rcs _ _ _ rfl T1.out) rfl) rfl ?_
    rw [HY.out, HRR.out]
    exact ⟨⟨A, n, c, A2, m, c2⟩, xs, rfl, (HRV.out _ TB.out).turn rfl rfl, fun b hb => .inl hb, TB.out⟩
  have hne : (am.2 != 0) = false := by simp [he]
  go_wp2_with (first
    | (with_reducible refine wpList_load_mid (op := ⟨some 16, _, _, _, _, _⟩) ?_ 31 (.tmp 1) (by rfl) w.heap.size 0 ?_ (rcs ⟨A, n, c, A2, m, c2⟩ dead left am.1 ops) _ ?_ Try.underlying31 ?_ ?_ ?_))
  all_goals try (first | rfl | exact Row.all K0.out | exact size31 | exact size39 | (show 0 + 6 ≤ 6; decide) | (show 0 + 64 ≤ 64; decide))
  refine (HDONE.out _ hlf hlf0 hops0 (by omega)).mono ?_
  rintro e w3 ⟨rfl, hb3⟩
  rw [← HDM.out]
  have L0 := Lib.hid (K0.out.below hb3 (by omega))
  have L1 := Lib.hid (K1.out.below hb3 (by omega))
  have LB := Lib.hid (KB.out.trans (hb3.mono KB.out.size))
  have s6 : w.heap.size + 1 + 1 ≤ w3.heap.size := by have := hb3.size; omega
  have HDR : Hid (({ safe := safe, pend := pend, dead := dead, left := left, fails := am.1, ops := ops } : RA).doneR = ({ safe := safe, pend := pend, dead := dm.1, left := dm.2.1, fails := am.1, ops := dm.2.2.1 }, dm.2.2.2)) := (show _ = _ by rw [HDM.out]; rfl)
  clear hb3 K0 K1 KB HDONE s5
  go_wp2_with (first
    | (with_reducible refine wpList_store_in (op := ⟨none, _, _, _, _, _⟩) ?_ 31 (.tmp 1) (.tmp 18) (by rfl) w.heap.size 0 (rcs ⟨A, n, c, A2, m, c2⟩ dm.1 dm.2.1 am.1 dm.2.2.1) ?_ ?_ 31 (rcs ⟨A, n, c, A2, m, c2⟩ dead left am.1 ops) ?_ ?_ (rcs_one _ _ _ _ _) ?_ ?_))
  all_goals try (first | rfl | exact L0.out | exact size31 | exact size39 | (show 0 + 6 ≤ 6; decide) | (show 0 + 64 ≤ 64; decide))
  intro w4 hr hgr
  rw [splice_all _ _ (by rfl)] at hr
  have M0 := Lib.hid hr
  have M1 := Lib.hid (L1.out.grown hgr (by simp))
  have MB := Lib.hid (LB.out.grown hgr LB.out.size (fun k hk => by simp at hk; omega))
  have s7 : w.heap.size + 1 + 1 ≤ w4.heap.size := Nat.le_trans s6 hgr.size
  clear hr hgr L0 L1 LB s6
  cases hok : dm.2.2.2 with
  | false =>
    have HRR : Hid (({ safe := safe, pend := pend, dead := dead, left := left, fails := fails, ops := ops } : RA).syncR = ({ safe := safe, pend := pend, dead := dm.1, left := dm.2.1, fails := am.1, ops := dm.2.2.1 }, 9)) := (show _ = _ by
      unfold RA.syncR
      rw [HAR.out, if_pos he]
      dsimp only
      rw [HDR.out, if_neg (by rw [hok]; decide)])
    clear he hok
    go_wp2_with (first
      | (with_reducible refine wpList_load_mid (op := ⟨some 22, _, _, _, _, _⟩) ?_ 31 (.tmp 1) (by rfl) w.heap.size 0 ?_ (rcs ⟨A, n, c, A2, m, c2⟩ dm.1 dm.2.1 am.1 dm.2.2.1) _ ?_ Try.underlying31 ?_ ?_ ?_)
      | (with_reducible refine wpList_store_in (op := ⟨none, _, _, _, _, _⟩) ?_ 31 (.tmp 2) (.tmp 22) (by rfl) (w.heap.size + 1) 0 (rcs ⟨A, n, c, A2, m, c2⟩ dm.1 dm.2.1 am.1 dm.2.2.1) ?_ ?_ 31 rz ?_ ?_ (rcs_one _ _ _ _ _) ?_ ?_))
    all_goals try (first | rfl | exact Row.all M0.out | exact M1.out | exact size31 | exact size39 | (show 0 + 6 ≤ 6; decide) | (show 0 + 64 ≤ 64; decide))
    intro w5 hr hgr
    rw [splice_all _ _ (by rfl)] at hr
    have T1 := Lib.hid hr
    have TB := Lib.hid (MB.out.grown hgr MB.out.size (fun k hk => by simp at hk; omega))
    clear hr hgr M0 M1 MB
    go_wp2
    refine bodyPost_ret (v := .tuple #[.agg (rcs ⟨A, n, c, A2, m, c2⟩ dm.1 dm.2.1 am.1 dm.2.2.1).toArray, .int .i64 9]) (results_ct (p := 2) (q := 3) (ty := 31) rfl _ _ ⟨w.heap.size + 1, 0, none⟩ _ _ rfl (run_load_rcs _ _ _ rfl T1.out) rfl) rfl ?_
    rw [HY.out, HRR.out]
    exact ⟨⟨A, n, c, A2, m, c2⟩, xs, rfl, (HRV.out _ TB.out).turn rfl rfl, fun b hb => .inl hb, TB.out⟩
  | true =>
    have HOK2 : Hid (({ safe := safe, pend := pend, dead := dead, left := left, fails := fails, ops := ops } : RA).syncR = ({ safe := liveR safe pend (List.replicate pend.length true) pend.length, pend := [], dead := dm.1, left := dm.2.1, fails := am.1, ops := dm.2.2.1 }, 0)) := (show _ = _ by
      unfold RA.syncR
      rw [HAR.out, if_pos he]
      dsimp only
      rw [HDR.out, if_pos hok]
      rfl)
    clear he hok
    have V0 := M0
    have V1 := M1
    have VB := MB
    clear M0 M1 MB
    clear w3
    obtain ⟨w3, rfl⟩ : ∃ w3 : World, w3 = w4 := ⟨_, rfl⟩
    go_wp2_with fail
    refine wp_region_held_drew (S := fun w' : World => w'.rangeAt w.heap.size 0 (rcs ⟨A, n, c, A2, m, c2⟩ dm.1 dm.2.1 am.1 dm.2.2.1)) (by kernel_rfl) (Row.all V0.out) (fun hHeld => ?_)
    refine wpAnyH_take (i := 0) (oi := ⟨some 23, _, _, _, _, _⟩) rfl (by kernel_rfl) (by kernel_rfl) (by kernel_rfl) (fun _ _ _ h => h) (yieldsIf_load_mid (by rfl) 31 (.tmp 1) rfl w.heap.size 0 ?x0 (rcs ⟨A, n, c, A2, m, c2⟩ dm.1 dm.2.1 am.1 dm.2.2.1) _ (fun _ hS => hS) Try.underlying31 rfl size31) hHeld ?r0
    case x0 => first | rfl | (simp [Act.eval, go_sem]; done)
    try simp only [Act.put, List.setIfInBounds_toArray, List.set_cons_zero, List.set_cons_succ]
    refine wpAnyH_take (i := 1) (oi := ⟨some 24, _, _, _, _, _⟩) rfl (by kernel_rfl) (by kernel_rfl) (by kernel_rfl) (fun _ _ _ h => h) (yieldsIf_load_mid (by rfl) 31 (.tmp 1) rfl w.heap.size 0 ?x1 (rcs ⟨A, n, c, A2, m, c2⟩ dm.1 dm.2.1 am.1 dm.2.2.1) _ (fun _ hS => hS) Try.underlying31 rfl size31) hHeld ?r1
    case x1 => first | rfl | (simp [Act.eval, go_sem]; done)
    try simp only [Act.put, List.setIfInBounds_toArray, List.set_cons_zero, List.set_cons_succ]
    refine wpAnyH_ready (rs := [2]) (by kernel_rfl) (by simp) ?_
    refine AllReadyH.cons rfl (fun K hK => ?_) AllReadyH.nil
    go_simp
    have VBD : Hid (Below w.heap.size w w3.drew) := (show Below _ _ _ from ⟨VB.out.os, VB.out.tape, VB.out.output, VB.out.size, VB.out.block⟩)
    refine (HALL.out _ VBD.out).mono ?_
    rintro e w4 ⟨g4, rfl, hrow4, hg4, hb4⟩
    have hb4' : Below w3.heap.size w3 w4 := ⟨hb4.os, hb4.tape, hb4.output, hb4.size, hb4.block⟩
    have A0 := Lib.hid (V0.out.below hb4' (by omega))
    have A1 := Lib.hid (V1.out.below hb4' (by omega))
    have AB := Lib.hid (VB.out.trans (hb4'.mono VB.out.size))
    have AK : Hid (Vs w4 w4.heap.size (some ⟨g4, 0, none⟩) (bools (List.replicate m true))) := Row.vs hrow4
    have s7 : w.heap.size + 1 + 1 ≤ w4.heap.size := by have := hb4'.size; omega
    refine hK _ _ (Row.all A0.out) (fun _ => ?_)
    clear hK K V0 V1 VB VBD hb4 hb4' hrow4 hg4
    try simp only [Act.put, List.setIfInBounds_toArray, List.set_cons_zero, List.set_cons_succ]
    refine wpAnyH_ready (rs := [3]) (by kernel_rfl) (by simp) ?_
    refine AllReadyH.cons rfl (fun K hK => ?_) AllReadyH.nil
    go_simp
    refine (HLIVE.out w4 AB.out (some ⟨g4, 0, none⟩) m AK.out).mono ?_
    rintro e w5 ⟨gs, cap, rfl, hgs, hgl, hcap, hbl, hb5⟩
    have B0 := Lib.hid (A0.out.below hb5 (by omega))
    have B1 := Lib.hid (A1.out.below hb5 (by omega))
    have BB := Lib.hid (AB.out.trans (hb5.mono AB.out.size))
    have BL := Lib.hid hbl
    have s8 : w.heap.size + 1 + 1 ≤ w5.heap.size := by have := hb5.size; omega
    refine hK _ _ (Row.all B0.out) (fun _ => ?_)
    clear hK K A0 A1 AB AK hb5 hbl
    try simp only [Act.put, List.setIfInBounds_toArray, List.set_cons_zero, List.set_cons_succ]
    refine wpAnyH_ready (rs := [4]) (by kernel_rfl) (by simp) ?_
    refine AllReadyH.cons rfl (fun K hK => ?_) AllReadyH.nil
    rw [if_pos (by rfl)]
    refine wp_store_mid 31 (.tmp 2) (.tmp 26) rfl (w.heap.size + 1) 0 (rcs ⟨some ⟨gs, 0, none⟩, n, cap, none, 0, 0⟩ dm.1 dm.2.1 am.1 dm.2.2.1).toArray rfl rfl ?_ ?_ (all_oneCell_toArray (rcs_one _ _ _ _ _)) ?_
    · rw [List.size_toArray]; exact Row.there B1.out (by show 0 + 6 ≤ 6; decide)
    · rw [List.size_toArray]; exact size31
    rw [List.toList_toArray]
    have hr5 := Row.setCells (rcs ⟨some ⟨gs, 0, none⟩, n, cap, none, 0, 0⟩ dm.1 dm.2.1 am.1 dm.2.2.1) 0 rz w5 B1.out (by show 0 + 6 ≤ 6; decide)
    have hg5 := grown_setCells (w.heap.size + 1) (rcs ⟨some ⟨gs, 0, none⟩, n, cap, none, 0, 0⟩ dm.1 dm.2.1 am.1 dm.2.2.1) 0 w5
    rw [splice_all _ _ (by rfl)] at hr5
    generalize w5.setCells (w.heap.size + 1) 0 (rcs ⟨some ⟨gs, 0, none⟩, n, cap, none, 0, 0⟩ dm.1 dm.2.1 am.1 dm.2.2.1) = w6 at hr5 hg5 ⊢
    have C0 := Lib.hid (B0.out.grown hg5 (by simp))
    have C1 := Lib.hid hr5
    have CB := Lib.hid (BB.out.grown hg5 BB.out.size (fun j hj => by simp at hj; omega))
    have CL : Hid (Blks w6 w6.heap.size (some ⟨gs, 0, none⟩) (liveR safe pend (List.replicate m true) pend.length)) := (BL.out.off (F := fun j => j = w.heap.size + 1) (Nat.le_refl _) (Off.of_grown hg5 (fun k hk => by simpa using hk.symm)) (fun b o s e => by cases e; omega)).more hg5.size
    have hgl6 : gs < w6.heap.size := Nat.lt_of_lt_of_le hgl hg5.size
    refine hK _ _ (Row.all C0.out) (fun _ => ?_)
    clear hK K B0 B1 BB BL hr5 hg5
    try simp only [Act.put, List.setIfInBounds_toArray, List.set_cons_zero, List.set_cons_succ]
    have hHeld := Row.all C0.out
    refine wpAnyH_take (i := 5) (oi := ⟨some 3, _, _, _, _, _⟩) (v := ?v5) rfl (by kernel_rfl) (by kernel_rfl) (by kernel_rfl) (fun _ _ _ h => h) (Or.inl ⟨by rfl, ?y5⟩) hHeld ?r5
    case y5 =>
      rintro w' q0
      go_simp
      try with_reducible rfl
    try simp only [Act.put, List.setIfInBounds_toArray, List.set_cons_zero, List.set_cons_succ]
    refine wpAnyH_done (by kernel_rfl) ?_ _
    clear hHeld
    go_wp2
    refine bodyPost_ret (v := .tuple #[.agg (rcs ⟨some ⟨gs, 0, none⟩, n, cap, none, 0, 0⟩ dm.1 dm.2.1 am.1 dm.2.2.1).toArray, .int .i64 0]) (results_ct (p := 2) (q := 3) (ty := 31) rfl _ _ ⟨w.heap.size + 1, 0, none⟩ _ _ rfl (run_load_rcs _ _ _ rfl C1.out) rfl) rfl ?_
    rw [HY.out, HOK2.out]
    exact ⟨⟨some ⟨gs, 0, none⟩, n, cap, none, 0, 0⟩, [gs], rfl, RVat.of_live (HLN.out _) rfl hcap hgl6 (by rw [← HPL.out] at CL; exact CL.out), (fun b hb => .inr (by simp at hb; omega)), CB.out⟩
end Go.Proofs.Ytbfpadilcfelbaa.Dsk
