/-
  What an op does by the document: the statements' want.
-/
import Derived.Test.YtbfpadilcfelbaaDevT6
namespace Go.Proofs.Ytbfpadilcfelbaa.Dsk
open Go.RowKit Go.Proofs.Ytbfpadilcfelbaa.Wd

theorem cells_one (x : RA) (r : RX) : ∀ v ∈ x.cells r, v.oneCell' = true := rcs_one _ _ _ _ _
/-- what want leaves -/
def WOut (w : World) (xs : List Nat) (y : RA × List UInt8 × Int) (e : Ending) (w' : World) : Prop :=
  ∃ r xs', e = .returned (.tuple #[y.1.val r, blk y.2.1, .int .i64 y.2.2]) ∧ RVat w' xs' y.1 r ∧ (∀ b ∈ xs', b ∈ xs ∨ w.heap.size ≤ b) ∧ Below w.heap.size w w'
/-- the boxes of want -/
structure Wq (w W : World) (vs os : List Value) : Prop where
  r0 : Row W w.heap.size 31 vs
  ro : Row W (w.heap.size + 1) 37 os
  r4 : Row W (w.heap.size + 1 + 1) 31 rz
  r5 : Row W (w.heap.size + 1 + 1 + 1) 39 (bv nought)
  bel : Below w.heap.size w W
theorem Wq.sz {w W : World} {vs os : List Value} (h : Wq w W vs os) : w.heap.size + 1 + 1 + 1 + 1 ≤ W.heap.size := h.r5.lt
theorem Wq.below {w W W' : World} {vs os : List Value} (h : Wq w W vs os) (hb : Below W.heap.size W W') : Wq w W' vs os :=
  ⟨h.r0.below hb h.r0.lt, h.ro.below hb h.ro.lt, h.r4.below hb h.r4.lt, h.r5.below hb h.r5.lt, h.bel.trans (hb.mono h.bel.size)⟩
theorem Wq.put0 {w W W' : World} {vs vs' os : List Value} (h : Wq w W vs os) (hr : Row W' w.heap.size 31 vs') (hg : W.grownBy W' (some w.heap.size)) : Wq w W' vs' os :=
  ⟨hr, h.ro.grown hg (by simp), h.r4.grown hg (by simp; omega), h.r5.grown hg (by simp; omega), h.bel.grown hg h.bel.size (fun k hk => by simp at hk; omega)⟩
theorem Wq.drew {w W : World} {vs os : List Value} (h : Wq w W vs os) : Wq w W.drew vs os := ⟨h.r0.drew, h.ro.drew, h.r4.drew, h.r5.drew, ⟨h.bel.os, h.bel.tape, h.bel.output, h.bel.size, h.bel.block⟩⟩
theorem RVat.off {w w' : World} {xs : List Nat} {x : RA} {r : RX} (h : RVat w xs x r) (hs : w.heap.size ≤ w'.heap.size) (hk : ∀ b ∈ xs, w'.heap[b]? = w.heap[b]?) : RVat w' xs x r :=
  ⟨h.sl, h.pl, h.nc, h.mc, h.n0, h.m0, fun hp => by
    obtain ⟨b, o, e, hlt, hr⟩ := h.sb hp
    exact ⟨b, o, e, by omega, fun i hi => ⟨(hr i hi).1, range_kept (hr i hi).2 (hk b (h.sx b o none e))⟩⟩, fun hp => by
    obtain ⟨b, o, e, hlt, hr⟩ := h.pb hp
    exact ⟨b, o, e, by omega, fun i hi => ⟨(hr i hi).1, range_kept (hr i hi).2 (hk b (h.px b o none e))⟩⟩, h.sx, h.px, fun b hb => Nat.lt_of_lt_of_le (h.lt b hb) hs⟩

theorem arm_safe (x : RA) (n : Int) : (x.armR n).1.safe = x.safe ∧ (x.armR n).1.pend = x.pend := by unfold RA.armR; split <;> exact ⟨rfl, rfl⟩
theorem fail_safe (x : RA) (n : Int) : (x.failR n).1.safe = x.safe ∧ (x.failR n).1.pend = x.pend := by unfold RA.failR; split <;> exact ⟨rfl, rfl⟩
theorem read_safe (x : RA) (i : Int) : (x.readR i).1.safe = x.safe ∧ (x.readR i).1.pend = x.pend := by unfold RA.readR; split <;> exact ⟨rfl, rfl⟩
theorem readR_len {w : World} {xs : List Nat} {x : RA} {r : RX} (h : RVat w xs x r) (hg : RGood x) (i : Int) : (x.readR i).2.1.length = 64 := by
  unfold RA.readR
  split
  · rename_i he
    have hin : 0 ≤ i ∧ i < (x.safe.length : Int) := by
      unfold RA.askR askedM at he
      dsimp only at he
      by_cases hd : x.dead = true
      · rw [if_pos hd] at he; exact absurd he (by simp)
      rw [if_neg hd] at he
      by_cases hi : i < 0 ∨ (x.safe.length : Int) ≤ i
      · rw [if_pos hi] at he; exact absurd he (by simp)
      · omega
    refine holds_len x.safe x.pend i.toNat (fun p hp => (hg.inr p hp).2.2) ?_
    obtain ⟨_, _, _, _, h1⟩ := h.sb (by have := hg.len.1; omega)
    exact (h1 i.toNat (by omega)).1
  · rfl

set_option maxRecDepth 100000 in
set_option maxHeartbeats 8000000 in
theorem want2 (x0 : RA) (r : RX) (xs : List Nat) (k a : Int) (x : UInt8) (Ak : Option Addr) (nk ck : Nat) (l : List Bool) (w : World) (h : RVat w xs x0 r) (hg : RGood x0) (ho : OpOk w ⟨k, a, x, Ak, nk, ck, l⟩) (hkd : kindM k = 2) :
    Calls Try.prog 11 #[x0.val r, opv k a x Ak nk ck] w (WOut w xs (x0.wantR ⟨k, a, x, Ak, nk, ck, l⟩)) := by
  obtain ⟨safe, pend, dead, left, fails, ops⟩ := x0
  obtain ⟨A, n, c, A2, m, c2⟩ := r
  obtain ⟨y, hy⟩ : ∃ y, y = ({ safe := safe, pend := pend, dead := dead, left := left, fails := fails, ops := ops } : RA).wantR ⟨k, a, x, Ak, nk, ck, l⟩ := ⟨_, rfl⟩
  rw [← hy]
  have HRV : Hid (∀ w', Below w.heap.size w w' → RVat w' xs ({ safe := safe, pend := pend, dead := dead, left := left, fails := fails, ops := ops } : RA) ⟨A, n, c, A2, m, c2⟩) := (show ∀ _, _ from fun w' hb => h.below hb)
  have HGD := Lib.hid hg
  have HS : Hid (∀ w', Below w.heap.size w w' → Calls Try.prog 31 #[.agg (rcs ⟨A, n, c, A2, m, c2⟩ dead left fails ops).toArray] w' (ROut w' xs (({ safe := safe, pend := pend, dead := dead, left := left, fails := fails, ops := ops } : RA).syncR).1 (({ safe := safe, pend := pend, dead := dead, left := left, fails := fails, ops := ops } : RA).syncR).2)) := (show ∀ _, _ from fun w' hb => rsync_any ({ safe := safe, pend := pend, dead := dead, left := left, fails := fails, ops := ops } : RA) ⟨A, n, c, A2, m, c2⟩ xs w' (HRV.out w' hb) HGD.out)
  have HBZ := Lib.hid built_zero
  have HKD := Lib.hid hkd
  have HY := Lib.hid hy
  have HKC := Lib.hid (kind_any k a _ (x.toNat : Int) rfl Ak nk ck)
  have HOA := Lib.hid ho.low
  have HOB := Lib.hid ho.high
  clear hy h hg ho hkd
  obtain ⟨W1, hW1⟩ : ∃ W1, W1 = w.alloc (.cells (rcs ⟨A, n, c, A2, m, c2⟩ dead left fails ops).toArray 31) := ⟨_, rfl⟩
  obtain ⟨W2, hW2⟩ : ∃ W2, W2 = W1.alloc (.cells (ocs k a x Ak nk ck).toArray 37) := ⟨_, rfl⟩
  obtain ⟨W3, hW3⟩ : ∃ W3, W3 = W2.alloc (.cells rz.toArray 31) := ⟨_, rfl⟩
  obtain ⟨W4, hW4⟩ : ∃ W4, W4 = W3.alloc (.cells (bv nought).toArray 39) := ⟨_, rfl⟩
  have s1 : W1.heap.size = w.heap.size + 1 := by rw [hW1]; simp
  have s2 : W2.heap.size = w.heap.size + 1 + 1 := by rw [hW2]; simp [s1]
  have s3 : W3.heap.size = w.heap.size + 1 + 1 + 1 := by rw [hW3]; simp [s2]
  have HQ0 : Hid (Wq w W4 (rcs ⟨A, n, c, A2, m, c2⟩ dead left fails ops) (ocs k a x Ak nk ck)) := (show Wq _ _ _ _ from ⟨by rw [hW4, hW3, hW2, hW1]; exact (((Row.new w _ (rcs ⟨A, n, c, A2, m, c2⟩ dead left fails ops)).alloc _).alloc _).alloc _, by
    have := ((Row.new W1 37 (ocs k a x Ak nk ck)).alloc (.cells rz.toArray 31)).alloc (.cells (bv nought).toArray 39)
    rw [s1] at this
    rw [hW4, hW3, hW2]; exact this, by
    have := (Row.new W2 31 rz).alloc (.cells (bv nought).toArray 39)
    rw [s2] at this
    rw [hW4, hW3]; exact this, by
    have := Row.new W3 39 (bv nought)
    rw [s3] at this
    rw [hW4]; exact this, by
    rw [hW4, hW3, hW2, hW1]
    exact ((((Below.refl _ _).alloc (Nat.le_refl _) _).alloc (by simp) _).alloc (by simp; omega) _).alloc (by simp; omega) _⟩)
  have HW : Hid (W4 = (((w.alloc (.cells (rcs ⟨A, n, c, A2, m, c2⟩ dead left fails ops).toArray 31)).alloc (.cells (ocs k a x Ak nk ck).toArray 37)).alloc (.cells rz.toArray 31)).alloc (.cells (bv nought).toArray 39)) := (show _ = _ by rw [hW4, hW3, hW2, hW1])
  have HKW := Lib.hid (HKC.out W4)
  clear hW1 hW2 hW3 hW4 s1 s2 s3
  show Calls _ _ #[.agg #[.slice A n c, .slice A2 m c2, .bool dead, .int .i64 left, .int .i64 fails, .int .i64 ops], .agg #[.int .i64 k, .int .i64 a, .int .u8 (x.toNat : Int), .slice Ak nk ck]] w _
  go_enter Try.func11, Try.ntmps11
  go_wp2_with fail
  refine Calls.mono (HW.out ▸ HKW.out) ?_
  rintro e w1 ⟨rfl, hb1⟩
  have hb1' : Below W4.heap.size W4 w1 := by rw [HW.out]; exact hb1
  rw [HKD.out]
  have HQ1 := Lib.hid (HQ0.out.below hb1')
  clear hb1 hb1' HQ0 HW HKW HKC W1 W2 W3 W4
  have o1 : w1.cell? ⟨w.heap.size + 1, 1, none⟩ = some (.int .i64 a) := HQ1.out.ro.cell 1
  have o2 : w1.cell? ⟨w.heap.size + 1, 2, none⟩ = some (.int .u8 (x.toNat : Int)) := HQ1.out.ro.cell 2
  have o3 : w1.cell? ⟨w.heap.size + 1, 3, none⟩ = some (.slice Ak nk ck) := HQ1.out.ro.cell 3
  go_wp2_with (first
    | (with_reducible refine wpList_load_mid (op := ⟨some 38, _, _, _, _, _⟩) ?_ 31 (.tmp 2) (by rfl) w.heap.size 0 ?_ (rcs ⟨A, n, c, A2, m, c2⟩ dead left fails ops) _ ?_ Try.underlying31 ?_ ?_ ?_))
  all_goals try (first | rfl | exact Row.all HQ1.out.r0 | exact size31 | exact size39 | (show 0 + 6 ≤ 6; decide) | (show 0 + 64 ≤ 64; decide))
  refine (HS.out w1 HQ1.out.bel).mono ?_
  rintro e w2 ⟨r', xs', rfl, hrv, hxs, hb2⟩
  have HQ2 := Lib.hid (HQ1.out.below hb2)
  have HRV2 := Lib.hid hrv
  have HXS0 := Lib.hid hxs
  have hsz1 := HQ1.out.sz
  have HSZ1 : Hid (w.heap.size + 1 + 1 + 1 + 1 ≤ w1.heap.size) := hsz1
  clear hrv hxs hb2 HQ1 HS o1 o2 o3 hsz1
  go_wp2_with (first
    | (with_reducible refine wpList_store_in (op := ⟨none, _, _, _, _, _⟩) ?_ 31 (.tmp 2) (.tmp 40) (by rfl) w.heap.size 0 ((({ safe := safe, pend := pend, dead := dead, left := left, fails := fails, ops := ops } : RA).syncR).1.cells r') ?_ ?_ 31 (rcs ⟨A, n, c, A2, m, c2⟩ dead left fails ops) ?_ ?_ (cells_one _ _) ?_ ?_))
  all_goals try (first | rfl | exact HQ2.out.r0 | exact size31 | exact size39 | (show 0 + 6 ≤ 6; decide) | (show 0 + 64 ≤ 64; decide))
  intro w3 hr hgr
  rw [splice_all _ _ (by rfl)] at hr
  have HQ3 := Lib.hid (HQ2.out.put0 hr hgr)
  have HXS : Hid (∀ b ∈ xs', b < w.heap.size ∨ w1.heap.size ≤ b) := (show ∀ b ∈ _, _ from fun b hb => by
    rcases HXS0.out b hb with h | h
    · exact .inl ((HRV.out w (Below.refl _ _)).lt b h)
    · exact .inr h)
  have HXC : Hid (∀ b ∈ xs', b ∈ xs ∨ w.heap.size ≤ b) := (show ∀ b ∈ _, _ from fun b hb => by
    rcases HXS0.out b hb with h | h
    · exact .inl h
    · exact .inr (by have := HSZ1.out; omega))
  have s4 := HSZ1.out
  have HRV3 := Lib.hid (HRV2.out.off hgr.size (fun b hb => hgr.block b (HRV2.out.lt b hb) (fun e => by have := HXS.out b hb; simp at e; omega)))
  have HWR : Hid (({ safe := safe, pend := pend, dead := dead, left := left, fails := fails, ops := ops } : RA).wantR ⟨k, a, x, Ak, nk, ck, l⟩ = ((({ safe := safe, pend := pend, dead := dead, left := left, fails := fails, ops := ops } : RA).syncR).1, nought, (({ safe := safe, pend := pend, dead := dead, left := left, fails := fails, ops := ops } : RA).syncR).2)) := (show _ = _ by
    have hk := HKD.out
    unfold RA.wantR
    dsimp only
    simp only [hk]
    rfl)
  clear hr hgr HRV2 HQ2 HXS0 HSZ1
  go_wp2_with (first
    | (with_reducible refine wpList_load_mid (op := ⟨some 60, _, _, _, _, _⟩) ?_ 31 (.tmp 2) (by rfl) w.heap.size 0 ?_ ((({ safe := safe, pend := pend, dead := dead, left := left, fails := fails, ops := ops } : RA).syncR).1.cells r') _ ?_ Try.underlying31 ?_ ?_ ?_)
    | (with_reducible refine wpList_build_to (o := ⟨some 61, _, _, _, _, _⟩) (by rfl) 39 _ rfl (bv nought).toArray HBZ.out ?_)
    | (with_reducible refine wpList_store_in (op := ⟨none, _, _, _, _, _⟩) ?_ 31 (.tmp 4) (.tmp 60) (by rfl) (w.heap.size + 1 + 1) 0 ((({ safe := safe, pend := pend, dead := dead, left := left, fails := fails, ops := ops } : RA).syncR).1.cells r') ?_ ?_ 31 rz ?_ ?_ (cells_one _ _) ?_ ?_))
  all_goals try (first | rfl | exact Row.all HQ3.out.r0 | exact HQ3.out.r4 | exact size31 | exact size39 | (show 0 + 6 ≤ 6; decide) | (show 0 + 64 ≤ 64; decide))
  intro w8 hr hgr
  rw [splice_all _ _ (by rfl)] at hr
  have T1 := Lib.hid hr
  have T2 := Lib.hid (HQ3.out.r5.grown hgr (by simp))
  have TB := Lib.hid (HQ3.out.bel.grown hgr HQ3.out.bel.size (fun k hk => by simp at hk; omega))
  have TK := Lib.hid hgr
  clear hr hgr
  go_wp2_with (first
    | (with_reducible refine wpList_store_in (op := ⟨none, _, _, _, _, _⟩) ?_ 39 (.tmp 5) (.tmp 61) (by rfl) (w.heap.size + 1 + 1 + 1) 0 (bv nought) ?_ ?_ 39 (bv nought) ?_ ?_ bv_one ?_ ?_))
  all_goals try (first | rfl | exact T2.out | exact size31 | exact size39 | (show 0 + 6 ≤ 6; decide) | (show 0 + 64 ≤ 64; decide))
  intro w9 hr hgr
  rw [splice_all _ _ (by rfl)] at hr
  have V1 := Lib.hid (T1.out.grown hgr (by simp))
  have V2 := Lib.hid hr
  have VB := Lib.hid (TB.out.grown hgr TB.out.size (fun k hk => by simp at hk; omega))
  have VR := Lib.hid ((HRV3.out.off TK.out.size (fun b hb => TK.out.block b (HRV3.out.lt b hb) (fun e => by have := HXS.out b hb; simp at e; omega))).off hgr.size (fun b hb => hgr.block b (Nat.lt_of_lt_of_le (HRV3.out.lt b hb) TK.out.size) (fun e => by have := HXS.out b hb; simp at e; omega)))
  clear hr hgr T1 T2 TB TK
  go_wp2
  refine bodyPost_ret (v := .tuple #[.agg ((({ safe := safe, pend := pend, dead := dead, left := left, fails := fails, ops := ops } : RA).syncR).1.cells r').toArray, blk nought, .int .i64 (({ safe := safe, pend := pend, dead := dead, left := left, fails := fails, ops := ops } : RA).syncR).2]) (results_cct (p := 4) (q := 5) (t := 6) (T1 := 31) (T2 := 39) rfl _ _ ⟨w.heap.size + 1 + 1, 0, none⟩ ⟨w.heap.size + 1 + 1 + 1, 0, none⟩ _ _ _ rfl (run_load_rcs _ _ _ rfl V1.out) rfl (run_load_blk _ _ _ _ nought _ (Row.all V2.out) Try.underlying39 rfl size39) rfl) rfl ?_
  rw [HY.out, HWR.out]
  exact ⟨_, xs', rfl, VR.out, HXC.out, VB.out⟩

set_option maxRecDepth 100000 in
set_option maxHeartbeats 8000000 in
theorem want3 (x0 : RA) (r : RX) (xs : List Nat) (k a : Int) (x : UInt8) (Ak : Option Addr) (nk ck : Nat) (l : List Bool) (w : World) (h : RVat w xs x0 r) (hg : RGood x0) (ho : OpOk w ⟨k, a, x, Ak, nk, ck, l⟩) (hkd : kindM k = 3) :
    Calls Try.prog 11 #[x0.val r, opv k a x Ak nk ck] w (WOut w xs (x0.wantR ⟨k, a, x, Ak, nk, ck, l⟩)) := by
  obtain ⟨safe, pend, dead, left, fails, ops⟩ := x0
  obtain ⟨A, n, c, A2, m, c2⟩ := r
  obtain ⟨y, hy⟩ : ∃ y, y = ({ safe := safe, pend := pend, dead := dead, left := left, fails := fails, ops := ops } : RA).wantR ⟨k, a, x, Ak, nk, ck, l⟩ := ⟨_, rfl⟩
  rw [← hy]
  have HRV : Hid (∀ w', Below w.heap.size w w' → RVat w' xs ({ safe := safe, pend := pend, dead := dead, left := left, fails := fails, ops := ops } : RA) ⟨A, n, c, A2, m, c2⟩) := (show ∀ _, _ from fun w' hb => h.below hb)
  have HGD := Lib.hid hg
  have HS : Hid (∀ w', Below w.heap.size w w' → Calls Try.prog 32 #[.agg (rcs ⟨A, n, c, A2, m, c2⟩ dead left fails ops).toArray, .int .i64 a] w' (ROut w' xs (({ safe := safe, pend := pend, dead := dead, left := left, fails := fails, ops := ops } : RA).armR a).1 (({ safe := safe, pend := pend, dead := dead, left := left, fails := fails, ops := ops } : RA).armR a).2)) := (show ∀ _, _ from fun w' hb => (rarm_any ({ safe := safe, pend := pend, dead := dead, left := left, fails := fails, ops := ops } : RA) ⟨A, n, c, A2, m, c2⟩ a w').mono fun e w'' ⟨he, hb2⟩ => ⟨⟨A, n, c, A2, m, c2⟩, xs, he, ((HRV.out w' hb).below hb2).turn (arm_safe _ _).1 (arm_safe _ _).2, fun b hb => .inl hb, hb2⟩)
  have HBZ := Lib.hid built_zero
  have HKD := Lib.hid hkd
  have HY := Lib.hid hy
  have HKC := Lib.hid (kind_any k a _ (x.toNat : Int) rfl Ak nk ck)
  have HOA := Lib.hid ho.low
  have HOB := Lib.hid ho.high
  clear hy h hg ho hkd
  obtain ⟨W1, hW1⟩ : ∃ W1, W1 = w.alloc (.cells (rcs ⟨A, n, c, A2, m, c2⟩ dead left fails ops).toArray 31) := ⟨_, rfl⟩
  obtain ⟨W2, hW2⟩ : ∃ W2, W2 = W1.alloc (.cells (ocs k a x Ak nk ck).toArray 37) := ⟨_, rfl⟩
  obtain ⟨W3, hW3⟩ : ∃ W3, W3 = W2.alloc (.cells rz.toArray 31) := ⟨_, rfl⟩
  obtain ⟨W4, hW4⟩ : ∃ W4, W4 = W3.alloc (.cells (bv nought).toArray 39) := ⟨_, rfl⟩
  have s1 : W1.heap.size = w.heap.size + 1 := by rw [hW1]; simp
  have s2 : W2.heap.size = w.heap.size + 1 + 1 := by rw [hW2]; simp [s1]
  have s3 : W3.heap.size = w.heap.size + 1 + 1 + 1 := by rw [hW3]; simp [s2]
  have HQ0 : Hid (Wq w W4 (rcs ⟨A, n, c, A2, m, c2⟩ dead left fails ops) (ocs k a x Ak nk ck)) := (show Wq _ _ _ _ from ⟨by rw [hW4, hW3, hW2, hW1]; exact (((Row.new w _ (rcs ⟨A, n, c, A2, m, c2⟩ dead left fails ops)).alloc _).alloc _).alloc _, by
    have := ((Row.new W1 37 (ocs k a x Ak nk ck)).alloc (.cells rz.toArray 31)).alloc (.cells (bv nought).toArray 39)
    rw [s1] at this
    rw [hW4, hW3, hW2]; exact this, by
    have := (Row.new W2 31 rz).alloc (.cells (bv nought).toArray 39)
    rw [s2] at this
    rw [hW4, hW3]; exact this, by
    have := Row.new W3 39 (bv nought)
    rw [s3] at this
    rw [hW4]; exact this, by
    rw [hW4, hW3, hW2, hW1]
    exact ((((Below.refl _ _).alloc (Nat.le_refl _) _).alloc (by simp) _).alloc (by simp; omega) _).alloc (by simp; omega) _⟩)
  have HW : Hid (W4 = (((w.alloc (.cells (rcs ⟨A, n, c, A2, m, c2⟩ dead left fails ops).toArray 31)).alloc (.cells (ocs k a x Ak nk ck).toArray 37)).alloc (.cells rz.toArray 31)).alloc (.cells (bv nought).toArray 39)) := (show _ = _ by rw [hW4, hW3, hW2, hW1])
  have HKW := Lib.hid (HKC.out W4)
  clear hW1 hW2 hW3 hW4 s1 s2 s3
  show Calls _ _ #[.agg #[.slice A n c, .slice A2 m c2, .bool dead, .int .i64 left, .int .i64 fails, .int .i64 ops], .agg #[.int .i64 k, .int .i64 a, .int .u8 (x.toNat : Int), .slice Ak nk ck]] w _
  go_enter Try.func11, Try.ntmps11
  go_wp2_with fail
  refine Calls.mono (HW.out ▸ HKW.out) ?_
  rintro e w1 ⟨rfl, hb1⟩
  have hb1' : Below W4.heap.size W4 w1 := by rw [HW.out]; exact hb1
  rw [HKD.out]
  have HQ1 := Lib.hid (HQ0.out.below hb1')
  clear hb1 hb1' HQ0 HW HKW HKC W1 W2 W3 W4
  have o1 : w1.cell? ⟨w.heap.size + 1, 1, none⟩ = some (.int .i64 a) := HQ1.out.ro.cell 1
  have o2 : w1.cell? ⟨w.heap.size + 1, 2, none⟩ = some (.int .u8 (x.toNat : Int)) := HQ1.out.ro.cell 2
  have o3 : w1.cell? ⟨w.heap.size + 1, 3, none⟩ = some (.slice Ak nk ck) := HQ1.out.ro.cell 3
  go_wp2_with (first
    | (with_reducible refine wpList_load_mid (op := ⟨some 45, _, _, _, _, _⟩) ?_ 31 (.tmp 2) (by rfl) w.heap.size 0 ?_ (rcs ⟨A, n, c, A2, m, c2⟩ dead left fails ops) _ ?_ Try.underlying31 ?_ ?_ ?_))
  all_goals try (first | rfl | exact Row.all HQ1.out.r0 | exact size31 | exact size39 | (show 0 + 6 ≤ 6; decide) | (show 0 + 64 ≤ 64; decide))
  refine (HS.out w1 HQ1.out.bel).mono ?_
  rintro e w2 ⟨r', xs', rfl, hrv, hxs, hb2⟩
  have HQ2 := Lib.hid (HQ1.out.below hb2)
  have HRV2 := Lib.hid hrv
  have HXS0 := Lib.hid hxs
  have hsz1 := HQ1.out.sz
  have HSZ1 : Hid (w.heap.size + 1 + 1 + 1 + 1 ≤ w1.heap.size) := hsz1
  clear hrv hxs hb2 HQ1 HS o1 o2 o3 hsz1
  go_wp2_with (first
    | (with_reducible refine wpList_store_in (op := ⟨none, _, _, _, _, _⟩) ?_ 31 (.tmp 2) (.tmp 49) (by rfl) w.heap.size 0 ((({ safe := safe, pend := pend, dead := dead, left := left, fails := fails, ops := ops } : RA).armR a).1.cells r') ?_ ?_ 31 (rcs ⟨A, n, c, A2, m, c2⟩ dead left fails ops) ?_ ?_ (cells_one _ _) ?_ ?_))
  all_goals try (first | rfl | exact HQ2.out.r0 | exact size31 | exact size39 | (show 0 + 6 ≤ 6; decide) | (show 0 + 64 ≤ 64; decide))
  intro w3 hr hgr
  rw [splice_all _ _ (by rfl)] at hr
  have HQ3 := Lib.hid (HQ2.out.put0 hr hgr)
  have HXS : Hid (∀ b ∈ xs', b < w.heap.size ∨ w1.heap.size ≤ b) := (show ∀ b ∈ _, _ from fun b hb => by
    rcases HXS0.out b hb with h | h
    · exact .inl ((HRV.out w (Below.refl _ _)).lt b h)
    · exact .inr h)
  have HXC : Hid (∀ b ∈ xs', b ∈ xs ∨ w.heap.size ≤ b) := (show ∀ b ∈ _, _ from fun b hb => by
    rcases HXS0.out b hb with h | h
    · exact .inl h
    · exact .inr (by have := HSZ1.out; omega))
  have s4 := HSZ1.out
  have HRV3 := Lib.hid (HRV2.out.off hgr.size (fun b hb => hgr.block b (HRV2.out.lt b hb) (fun e => by have := HXS.out b hb; simp at e; omega)))
  have HWR : Hid (({ safe := safe, pend := pend, dead := dead, left := left, fails := fails, ops := ops } : RA).wantR ⟨k, a, x, Ak, nk, ck, l⟩ = ((({ safe := safe, pend := pend, dead := dead, left := left, fails := fails, ops := ops } : RA).armR a).1, nought, (({ safe := safe, pend := pend, dead := dead, left := left, fails := fails, ops := ops } : RA).armR a).2)) := (show _ = _ by
    have hk := HKD.out
    unfold RA.wantR
    dsimp only
    simp only [hk]
    rfl)
  clear hr hgr HRV2 HQ2 HXS0 HSZ1
  go_wp2_with (first
    | (with_reducible refine wpList_load_mid (op := ⟨some 60, _, _, _, _, _⟩) ?_ 31 (.tmp 2) (by rfl) w.heap.size 0 ?_ ((({ safe := safe, pend := pend, dead := dead, left := left, fails := fails, ops := ops } : RA).armR a).1.cells r') _ ?_ Try.underlying31 ?_ ?_ ?_)
    | (with_reducible refine wpList_build_to (o := ⟨some 61, _, _, _, _, _⟩) (by rfl) 39 _ rfl (bv nought).toArray HBZ.out ?_)
    | (with_reducible refine wpList_store_in (op := ⟨none, _, _, _, _, _⟩) ?_ 31 (.tmp 4) (.tmp 60) (by rfl) (w.heap.size + 1 + 1) 0 ((({ safe := safe, pend := pend, dead := dead, left := left, fails := fails, ops := ops } : RA).armR a).1.cells r') ?_ ?_ 31 rz ?_ ?_ (cells_one _ _) ?_ ?_))
  all_goals try (first | rfl | exact Row.all HQ3.out.r0 | exact HQ3.out.r4 | exact size31 | exact size39 | (show 0 + 6 ≤ 6; decide) | (show 0 + 64 ≤ 64; decide))
  intro w8 hr hgr
  rw [splice_all _ _ (by rfl)] at hr
  have T1 := Lib.hid hr
  have T2 := Lib.hid (HQ3.out.r5.grown hgr (by simp))
  have TB := Lib.hid (HQ3.out.bel.grown hgr HQ3.out.bel.size (fun k hk => by simp at hk; omega))
  have TK := Lib.hid hgr
  clear hr hgr
  go_wp2_with (first
    | (with_reducible refine wpList_store_in (op := ⟨none, _, _, _, _, _⟩) ?_ 39 (.tmp 5) (.tmp 61) (by rfl) (w.heap.size + 1 + 1 + 1) 0 (bv nought) ?_ ?_ 39 (bv nought) ?_ ?_ bv_one ?_ ?_))
  all_goals try (first | rfl | exact T2.out | exact size31 | exact size39 | (show 0 + 6 ≤ 6; decide) | (show 0 + 64 ≤ 64; decide))
  intro w9 hr hgr
  rw [splice_all _ _ (by rfl)] at hr
  have V1 := Lib.hid (T1.out.grown hgr (by simp))
  have V2 := Lib.hid hr
  have VB := Lib.hid (TB.out.grown hgr TB.out.size (fun k hk => by simp at hk; omega))
  have VR := Lib.hid ((HRV3.out.off TK.out.size (fun b hb => TK.out.block b (HRV3.out.lt b hb) (fun e => by have := HXS.out b hb; simp at e; omega))).off hgr.size (fun b hb => hgr.block b (Nat.lt_of_lt_of_le (HRV3.out.lt b hb) TK.out.size) (fun e => by have := HXS.out b hb; simp at e; omega)))
  clear hr hgr T1 T2 TB TK
  go_wp2
  refine bodyPost_ret (v := .tuple #[.agg ((({ safe := safe, pend := pend, dead := dead, left := left, fails := fails, ops := ops } : RA).armR a).1.cells r').toArray, blk nought, .int .i64 (({ safe := safe, pend := pend, dead := dead, left := left, fails := fails, ops := ops } : RA).armR a).2]) (results_cct (p := 4) (q := 5) (t := 6) (T1 := 31) (T2 := 39) rfl _ _ ⟨w.heap.size + 1 + 1, 0, none⟩ ⟨w.heap.size + 1 + 1 + 1, 0, none⟩ _ _ _ rfl (run_load_rcs _ _ _ rfl V1.out) rfl (run_load_blk _ _ _ _ nought _ (Row.all V2.out) Try.underlying39 rfl size39) rfl) rfl ?_
  rw [HY.out, HWR.out]
  exact ⟨_, xs', rfl, VR.out, HXC.out, VB.out⟩

set_option maxRecDepth 100000 in
set_option maxHeartbeats 8000000 in
theorem want5 (x0 : RA) (r : RX) (xs : List Nat) (k a : Int) (x : UInt8) (Ak : Option Addr) (nk ck : Nat) (l : List Bool) (w : World) (h : RVat w xs x0 r) (hg : RGood x0) (ho : OpOk w ⟨k, a, x, Ak, nk, ck, l⟩) (hkd : kindM k = 5) :
    Calls Try.prog 11 #[x0.val r, opv k a x Ak nk ck] w (WOut w xs (x0.wantR ⟨k, a, x, Ak, nk, ck, l⟩)) := by
  obtain ⟨safe, pend, dead, left, fails, ops⟩ := x0
  obtain ⟨A, n, c, A2, m, c2⟩ := r
  obtain ⟨y, hy⟩ : ∃ y, y = ({ safe := safe, pend := pend, dead := dead, left := left, fails := fails, ops := ops } : RA).wantR ⟨k, a, x, Ak, nk, ck, l⟩ := ⟨_, rfl⟩
  rw [← hy]
  have HRV : Hid (∀ w', Below w.heap.size w w' → RVat w' xs ({ safe := safe, pend := pend, dead := dead, left := left, fails := fails, ops := ops } : RA) ⟨A, n, c, A2, m, c2⟩) := (show ∀ _, _ from fun w' hb => h.below hb)
  have HGD := Lib.hid hg
  have HS : Hid (∀ w', Below w.heap.size w w' → Calls Try.prog 33 #[.agg (rcs ⟨A, n, c, A2, m, c2⟩ dead left fails ops).toArray, .int .i64 a] w' (ROut w' xs (({ safe := safe, pend := pend, dead := dead, left := left, fails := fails, ops := ops } : RA).failR a).1 (({ safe := safe, pend := pend, dead := dead, left := left, fails := fails, ops := ops } : RA).failR a).2)) := (show ∀ _, _ from fun w' hb => (rfail_any ({ safe := safe, pend := pend, dead := dead, left := left, fails := fails, ops := ops } : RA) ⟨A, n, c, A2, m, c2⟩ a w').mono fun e w'' ⟨he, hb2⟩ => ⟨⟨A, n, c, A2, m, c2⟩, xs, he, ((HRV.out w' hb).below hb2).turn (fail_safe _ _).1 (fail_safe _ _).2, fun b hb => .inl hb, hb2⟩)
  have HBZ := Lib.hid built_zero
  have HKD := Lib.hid hkd
  have HY := Lib.hid hy
  have HKC := Lib.hid (kind_any k a _ (x.toNat : Int) rfl Ak nk ck)
  have HOA := Lib.hid ho.low
  have HOB := Lib.hid ho.high
  clear hy h hg ho hkd
  obtain ⟨W1, hW1⟩ : ∃ W1, W1 = w.alloc (.cells (rcs ⟨A, n, c, A2, m, c2⟩ dead left fails ops).toArray 31) := ⟨_, rfl⟩
  obtain ⟨W2, hW2⟩ : ∃ W2, W2 = W1.alloc (.cells (ocs k a x Ak nk ck).toArray 37) := ⟨_, rfl⟩
  obtain ⟨W3, hW3⟩ : ∃ W3, W3 = W2.alloc (.cells rz.toArray 31) := ⟨_, rfl⟩
  obtain ⟨W4, hW4⟩ : ∃ W4, W4 = W3.alloc (.cells (bv nought).toArray 39) := ⟨_, rfl⟩
  have s1 : W1.heap.size = w.heap.size + 1 := by rw [hW1]; simp
  have s2 : W2.heap.size = w.heap.size + 1 + 1 := by rw [hW2]; simp [s1]
  have s3 : W3.heap.size = w.heap.size + 1 + 1 + 1 := by rw [hW3]; simp [s2]
  have HQ0 : Hid (Wq w W4 (rcs ⟨A, n, c, A2, m, c2⟩ dead left fails ops) (ocs k a x Ak nk ck)) := (show Wq _ _ _ _ from ⟨by rw [hW4, hW3, hW2, hW1]; exact (((Row.new w _ (rcs ⟨A, n, c, A2, m, c2⟩ dead left fails ops)).alloc _).alloc _).alloc _, by
    have := ((Row.new W1 37 (ocs k a x Ak nk ck)).alloc (.cells rz.toArray 31)).alloc (.cells (bv nought).toArray 39)
    rw [s1] at this
    rw [hW4, hW3, hW2]; exact this, by
    have := (Row.new W2 31 rz).alloc (.cells (bv nought).toArray 39)
    rw [s2] at this
    rw [hW4, hW3]; exact this, by
    have := Row.new W3 39 (bv nought)
    rw [s3] at this
    rw [hW4]; exact this, by
    rw [hW4, hW3, hW2, hW1]
    exact ((((Below.refl _ _).alloc (Nat.le_refl _) _).alloc (by simp) _).alloc (by simp; omega) _).alloc (by simp; omega) _⟩)
  have HW : Hid (W4 = (((w.alloc (.cells (rcs ⟨A, n, c, A2, m, c2⟩ dead left fails ops).toArray 31)).alloc (.cells (ocs k a x Ak nk ck).toArray 37)).alloc (.cells rz.toArray 31)).alloc (.cells (bv nought).toArray 39)) := (show _ = _ by rw [hW4, hW3, hW2, hW1])
  have HKW := Lib.hid (HKC.out W4)
  clear hW1 hW2 hW3 hW4 s1 s2 s3
  show Calls _ _ #[.agg #[.slice A n c, .slice A2 m c2, .bool dead, .int .i64 left, .int .i64 fails, .int .i64 ops], .agg #[.int .i64 k, .int .i64 a, .int .u8 (x.toNat : Int), .slice Ak nk ck]] w _
  go_enter Try.func11, Try.ntmps11
  go_wp2_with fail
  refine Calls.mono (HW.out ▸ HKW.out) ?_
  rintro e w1 ⟨rfl, hb1⟩
  have hb1' : Below W4.heap.size W4 w1 := by rw [HW.out]; exact hb1
  rw [HKD.out]
  have HQ1 := Lib.hid (HQ0.out.below hb1')
  clear hb1 hb1' HQ0 HW HKW HKC W1 W2 W3 W4
  have o1 : w1.cell? ⟨w.heap.size + 1, 1, none⟩ = some (.int .i64 a) := HQ1.out.ro.cell 1
  have o2 : w1.cell? ⟨w.heap.size + 1, 2, none⟩ = some (.int .u8 (x.toNat : Int)) := HQ1.out.ro.cell 2
  have o3 : w1.cell? ⟨w.heap.size + 1, 3, none⟩ = some (.slice Ak nk ck) := HQ1.out.ro.cell 3
  go_wp2_with (first
    | (with_reducible refine wpList_load_mid (op := ⟨some 54, _, _, _, _, _⟩) ?_ 31 (.tmp 2) (by rfl) w.heap.size 0 ?_ (rcs ⟨A, n, c, A2, m, c2⟩ dead left fails ops) _ ?_ Try.underlying31 ?_ ?_ ?_))
  all_goals try (first | rfl | exact Row.all HQ1.out.r0 | exact size31 | exact size39 | (show 0 + 6 ≤ 6; decide) | (show 0 + 64 ≤ 64; decide))
  refine (HS.out w1 HQ1.out.bel).mono ?_
  rintro e w2 ⟨r', xs', rfl, hrv, hxs, hb2⟩
  have HQ2 := Lib.hid (HQ1.out.below hb2)
  have HRV2 := Lib.hid hrv
  have HXS0 := Lib.hid hxs
  have hsz1 := HQ1.out.sz
  have HSZ1 : Hid (w.heap.size + 1 + 1 + 1 + 1 ≤ w1.heap.size) := hsz1
  clear hrv hxs hb2 HQ1 HS o1 o2 o3 hsz1
  go_wp2_with (first
    | (with_reducible refine wpList_store_in (op := ⟨none, _, _, _, _, _⟩) ?_ 31 (.tmp 2) (.tmp 58) (by rfl) w.heap.size 0 ((({ safe := safe, pend := pend, dead := dead, left := left, fails := fails, ops := ops } : RA).failR a).1.cells r') ?_ ?_ 31 (rcs ⟨A, n, c, A2, m, c2⟩ dead left fails ops) ?_ ?_ (cells_one _ _) ?_ ?_))
  all_goals try (first | rfl | exact HQ2.out.r0 | exact size31 | exact size39 | (show 0 + 6 ≤ 6; decide) | (show 0 + 64 ≤ 64; decide))
  intro w3 hr hgr
  rw [splice_all _ _ (by rfl)] at hr
  have HQ3 := Lib.hid (HQ2.out.put0 hr hgr)
  have HXS : Hid (∀ b ∈ xs', b < w.heap.size ∨ w1.heap.size ≤ b) := (show ∀ b ∈ _, _ from fun b hb => by
    rcases HXS0.out b hb with h | h
    · exact .inl ((HRV.out w (Below.refl _ _)).lt b h)
    · exact .inr h)
  have HXC : Hid (∀ b ∈ xs', b ∈ xs ∨ w.heap.size ≤ b) := (show ∀ b ∈ _, _ from fun b hb => by
    rcases HXS0.out b hb with h | h
    · exact .inl h
    · exact .inr (by have := HSZ1.out; omega))
  have s4 := HSZ1.out
  have HRV3 := Lib.hid (HRV2.out.off hgr.size (fun b hb => hgr.block b (HRV2.out.lt b hb) (fun e => by have := HXS.out b hb; simp at e; omega)))
  have HWR : Hid (({ safe := safe, pend := pend, dead := dead, left := left, fails := fails, ops := ops } : RA).wantR ⟨k, a, x, Ak, nk, ck, l⟩ = ((({ safe := safe, pend := pend, dead := dead, left := left, fails := fails, ops := ops } : RA).failR a).1, nought, (({ safe := safe, pend := pend, dead := dead, left := left, fails := fails, ops := ops } : RA).failR a).2)) := (show _ = _ by
    have hk := HKD.out
    unfold RA.wantR
    dsimp only
    simp only [hk]
    rfl)
  clear hr hgr HRV2 HQ2 HXS0 HSZ1
  go_wp2_with (first
    | (with_reducible refine wpList_load_mid (op := ⟨some 60, _, _, _, _, _⟩) ?_ 31 (.tmp 2) (by rfl) w.heap.size 0 ?_ ((({ safe := safe, pend := pend, dead := dead, left := left, fails := fails, ops := ops } : RA).failR a).1.cells r') _ ?_ Try.underlying31 ?_ ?_ ?_)
    | (with_reducible refine wpList_build_to (o := ⟨some 61, _, _, _, _, _⟩) (by rfl) 39 _ rfl (bv nought).toArray HBZ.out ?_)
    | (with_reducible refine wpList_store_in (op := ⟨none, _, _, _, _, _⟩) ?_ 31 (.tmp 4) (.tmp 60) (by rfl) (w.heap.size + 1 + 1) 0 ((({ safe := safe, pend := pend, dead := dead, left := left, fails := fails, ops := ops } : RA).failR a).1.cells r') ?_ ?_ 31 rz ?_ ?_ (cells_one _ _) ?_ ?_))
  all_goals try (first | rfl | exact Row.all HQ3.out.r0 | exact HQ3.out.r4 | exact size31 | exact size39 | (show 0 + 6 ≤ 6; decide) | (show 0 + 64 ≤ 64; decide))
  intro w8 hr hgr
  rw [splice_all _ _ (by rfl)] at hr
  have T1 := Lib.hid hr
  have T2 := Lib.hid (HQ3.out.r5.grown hgr (by simp))
  have TB := Lib.hid (HQ3.out.bel.grown hgr HQ3.out.bel.size (fun k hk => by simp at hk; omega))
  have TK := Lib.hid hgr
  clear hr hgr
  go_wp2_with (first
    | (with_reducible refine wpList_store_in (op := ⟨none, _, _, _, _, _⟩) ?_ 39 (.tmp 5) (.tmp 61) (by rfl) (w.heap.size + 1 + 1 + 1) 0 (bv nought) ?_ ?_ 39 (bv nought) ?_ ?_ bv_one ?_ ?_))
  all_goals try (first | rfl | exact T2.out | exact size31 | exact size39 | (show 0 + 6 ≤ 6; decide) | (show 0 + 64 ≤ 64; decide))
  intro w9 hr hgr
  rw [splice_all _ _ (by rfl)] at hr
  have V1 := Lib.hid (T1.out.grown hgr (by simp))
  have V2 := Lib.hid hr
  have VB := Lib.hid (TB.out.grown hgr TB.out.size (fun k hk => by simp at hk; omega))
  have VR := Lib.hid ((HRV3.out.off TK.out.size (fun b hb => TK.out.block b (HRV3.out.lt b hb) (fun e => by have := HXS.out b hb; simp at e; omega))).off hgr.size (fun b hb => hgr.block b (Nat.lt_of_lt_of_le (HRV3.out.lt b hb) TK.out.size) (fun e => by have := HXS.out b hb; simp at e; omega)))
  clear hr hgr T1 T2 TB TK
  go_wp2
  refine bodyPost_ret (v := .tuple #[.agg ((({ safe := safe, pend := pend, dead := dead, left := left, fails := fails, ops := ops } : RA).failR a).1.cells r').toArray, blk nought, .int .i64 (({ safe := safe, pend := pend, dead := dead, left := left, fails := fails, ops := ops } : RA).failR a).2]) (results_cct (p := 4) (q := 5) (t := 6) (T1 := 31) (T2 := 39) rfl _ _ ⟨w.heap.size + 1 + 1, 0, none⟩ ⟨w.heap.size + 1 + 1 + 1, 0, none⟩ _ _ _ rfl (run_load_rcs _ _ _ rfl V1.out) rfl (run_load_blk _ _ _ _ nought _ (Row.all V2.out) Try.underlying39 rfl size39) rfl) rfl ?_
  rw [HY.out, HWR.out]
  exact ⟨_, xs', rfl, VR.out, HXC.out, VB.out⟩

set_option maxRecDepth 100000 in
set_option maxHeartbeats 8000000 in
theorem want4 (x0 : RA) (r : RX) (xs : List Nat) (k a : Int) (x : UInt8) (Ak : Option Addr) (nk ck : Nat) (l : List Bool) (w : World) (h : RVat w xs x0 r) (hg : RGood x0) (ho : OpOk w ⟨k, a, x, Ak, nk, ck, l⟩) (hkd : kindM k = 4) :
    Calls Try.prog 11 #[x0.val r, opv k a x Ak nk ck] w (WOut w xs (x0.wantR ⟨k, a, x, Ak, nk, ck, l⟩)) := by
  obtain ⟨safe, pend, dead, left, fails, ops⟩ := x0
  obtain ⟨A, n, c, A2, m, c2⟩ := r
  obtain ⟨y, hy⟩ : ∃ y, y = ({ safe := safe, pend := pend, dead := dead, left := left, fails := fails, ops := ops } : RA).wantR ⟨k, a, x, Ak, nk, ck, l⟩ := ⟨_, rfl⟩
  rw [← hy]
  have HRV : Hid (∀ w', Below w.heap.size w w' → RVat w' xs ({ safe := safe, pend := pend, dead := dead, left := left, fails := fails, ops := ops } : RA) ⟨A, n, c, A2, m, c2⟩) := (show ∀ _, _ from fun w' hb => h.below hb)
  have HGD := Lib.hid hg
  have HS : Hid (∀ w', Below w.heap.size w w' → Calls Try.prog 34 #[.agg (rcs ⟨A, n, c, A2, m, c2⟩ dead left fails ops).toArray, .slice Ak nk ck] w' fun e w'' => ∃ gs cap, e = .returned ((({ safe := safe, pend := pend, dead := dead, left := left, fails := fails, ops := ops } : RA).crashR l).val ⟨some ⟨gs, 0, none⟩, n, cap, none, 0, 0⟩) ∧ w'.heap.size ≤ gs ∧ gs < w''.heap.size ∧ n ≤ cap ∧ Blks w'' w''.heap.size (some ⟨gs, 0, none⟩) (({ safe := safe, pend := pend, dead := dead, left := left, fails := fails, ops := ops } : RA).crashR l).safe ∧ Below w'.heap.size w' w'') := (show ∀ _, _ from fun w' hb => rcrash_any ({ safe := safe, pend := pend, dead := dead, left := left, fails := fails, ops := ops } : RA) ⟨A, n, c, A2, m, c2⟩ xs Ak nk ck l w' (HRV.out w' hb) HGD.out.toRL ho.len (Vs.moreT (ho.vs.below hb) hb.size))
  have HLN : Hid ((({ safe := safe, pend := pend, dead := dead, left := left, fails := fails, ops := ops } : RA).crashR l).safe.length = n) := (show _ = _ from (liveR_len _ _ _ _).trans h.sl)
  have HBZ := Lib.hid built_zero
  have HKD := Lib.hid hkd
  have HY := Lib.hid hy
  have HKC := Lib.hid (kind_any k a _ (x.toNat : Int) rfl Ak nk ck)
  have HOA := Lib.hid ho.low
  have HOB := Lib.hid ho.high
  clear hy h hg ho hkd
  obtain ⟨W1, hW1⟩ : ∃ W1, W1 = w.alloc (.cells (rcs ⟨A, n, c, A2, m, c2⟩ dead left fails ops).toArray 31) := ⟨_, rfl⟩
  obtain ⟨W2, hW2⟩ : ∃ W2, W2 = W1.alloc (.cells (ocs k a x Ak nk ck).toArray 37) := ⟨_, rfl⟩
  obtain ⟨W3, hW3⟩ : ∃ W3, W3 = W2.alloc (.cells rz.toArray 31) := ⟨_, rfl⟩
  obtain ⟨W4, hW4⟩ : ∃ W4, W4 = W3.alloc (.cells (bv nought).toArray 39) := ⟨_, rfl⟩
  have s1 : W1.heap.size = w.heap.size + 1 := by rw [hW1]; simp
  have s2 : W2.heap.size = w.heap.size + 1 + 1 := by rw [hW2]; simp [s1]
  have s3 : W3.heap.size = w.heap.size + 1 + 1 + 1 := by rw [hW3]; simp [s2]
  have HQ0 : Hid (Wq w W4 (rcs ⟨A, n, c, A2, m, c2⟩ dead left fails ops) (ocs k a x Ak nk ck)) := (show Wq _ _ _ _ from ⟨by rw [hW4, hW3, hW2, hW1]; exact (((Row.new w _ (rcs ⟨A, n, c, A2, m, c2⟩ dead left fails ops)).alloc _).alloc _).alloc _, by
    have := ((Row.new W1 37 (ocs k a x Ak nk ck)).alloc (.cells rz.toArray 31)).alloc (.cells (bv nought).toArray 39)
    rw [s1] at this
    rw [hW4, hW3, hW2]; exact this, by
    have := (Row.new W2 31 rz).alloc (.cells (bv nought).toArray 39)
    rw [s2] at this
    rw [hW4, hW3]; exact this, by
    have := Row.new W3 39 (bv nought)
    rw [s3] at this
    rw [hW4]; exact this, by
    rw [hW4, hW3, hW2, hW1]
    exact ((((Below.refl _ _).alloc (Nat.le_refl _) _).alloc (by simp) _).alloc (by simp; omega) _).alloc (by simp; omega) _⟩)
  have HW : Hid (W4 = (((w.alloc (.cells (rcs ⟨A, n, c, A2, m, c2⟩ dead left fails ops).toArray 31)).alloc (.cells (ocs k a x Ak nk ck).toArray 37)).alloc (.cells rz.toArray 31)).alloc (.cells (bv nought).toArray 39)) := (show _ = _ by rw [hW4, hW3, hW2, hW1])
  have HKW := Lib.hid (HKC.out W4)
  clear hW1 hW2 hW3 hW4 s1 s2 s3
  show Calls _ _ #[.agg #[.slice A n c, .slice A2 m c2, .bool dead, .int .i64 left, .int .i64 fails, .int .i64 ops], .agg #[.int .i64 k, .int .i64 a, .int .u8 (x.toNat : Int), .slice Ak nk ck]] w _
  go_enter Try.func11, Try.ntmps11
  go_wp2_with fail
  refine Calls.mono (HW.out ▸ HKW.out) ?_
  rintro e w1 ⟨rfl, hb1⟩
  have hb1' : Below W4.heap.size W4 w1 := by rw [HW.out]; exact hb1
  rw [HKD.out]
  have HQ1 := Lib.hid (HQ0.out.below hb1')
  clear hb1 hb1' HQ0 HW HKW HKC W1 W2 W3 W4
  have o1 : w1.cell? ⟨w.heap.size + 1, 1, none⟩ = some (.int .i64 a) := HQ1.out.ro.cell 1
  have o2 : w1.cell? ⟨w.heap.size + 1, 2, none⟩ = some (.int .u8 (x.toNat : Int)) := HQ1.out.ro.cell 2
  have o3 : w1.cell? ⟨w.heap.size + 1, 3, none⟩ = some (.slice Ak nk ck) := HQ1.out.ro.cell 3
  go_wp2_with (first
    | (with_reducible refine wpList_load_mid (op := ⟨some 10, _, _, _, _, _⟩) ?_ 31 (.tmp 2) (by rfl) w.heap.size 0 ?_ (rcs ⟨A, n, c, A2, m, c2⟩ dead left fails ops) _ ?_ Try.underlying31 ?_ ?_ ?_))
  all_goals try (first | rfl | exact Row.all HQ1.out.r0 | exact size31 | exact size39 | (show 0 + 6 ≤ 6; decide) | (show 0 + 64 ≤ 64; decide))
  refine (HS.out w1 HQ1.out.bel).mono ?_
  rintro e w2 ⟨gs, cap, rfl, hgs, hgl, hcap, hbl, hb2⟩
  have HQ2 := Lib.hid (HQ1.out.below hb2)
  have HRV2 : Hid (RVat w2 [gs] (({ safe := safe, pend := pend, dead := dead, left := left, fails := fails, ops := ops } : RA).crashR l) ⟨some ⟨gs, 0, none⟩, n, cap, none, 0, 0⟩) := (show RVat _ _ _ _ from RVat.of_live HLN.out rfl hcap hgl hbl)
  have hsz1 := HQ1.out.sz
  have HXS : Hid (∀ b ∈ [gs], b < w.heap.size ∨ w1.heap.size ≤ b) := (show ∀ b ∈ _, _ from fun b hb => by simp at hb; omega)
  have HXC : Hid (∀ b ∈ [gs], b ∈ xs ∨ w.heap.size ≤ b) := (show ∀ b ∈ _, _ from fun b hb => by simp at hb; exact .inr (by omega))
  clear hgl hcap hbl hb2 HQ1 HS HLN o1 o2 o3 hgs
  go_wp2_with (first
    | (with_reducible refine wpList_store_in (op := ⟨none, _, _, _, _, _⟩) ?_ 31 (.tmp 2) (.tmp 13) (by rfl) w.heap.size 0 ((({ safe := safe, pend := pend, dead := dead, left := left, fails := fails, ops := ops } : RA).crashR l).cells ⟨some ⟨gs, 0, none⟩, n, cap, none, 0, 0⟩) ?_ ?_ 31 (rcs ⟨A, n, c, A2, m, c2⟩ dead left fails ops) ?_ ?_ (cells_one _ _) ?_ ?_))
  all_goals try (first | rfl | exact HQ2.out.r0 | exact size31 | exact size39 | (show 0 + 6 ≤ 6; decide) | (show 0 + 64 ≤ 64; decide))
  intro w3 hr hgr
  rw [splice_all _ _ (by rfl)] at hr
  have HQ3 := Lib.hid (HQ2.out.put0 hr hgr)
  have HRV3 := Lib.hid (HRV2.out.off hgr.size (fun b hb => hgr.block b (HRV2.out.lt b hb) (fun e => by have := HXS.out b hb; simp at e; omega)))
  have HWR : Hid (({ safe := safe, pend := pend, dead := dead, left := left, fails := fails, ops := ops } : RA).wantR ⟨k, a, x, Ak, nk, ck, l⟩ = (({ safe := safe, pend := pend, dead := dead, left := left, fails := fails, ops := ops } : RA).crashR l, nought, 0)) := (show _ = _ by
    have hk := HKD.out
    unfold RA.wantR
    dsimp only
    simp only [hk]
    rfl)
  clear hr hgr HRV2 HQ2
  go_wp2_with (first
    | (with_reducible refine wpList_load_mid (op := ⟨some 60, _, _, _, _, _⟩) ?_ 31 (.tmp 2) (by rfl) w.heap.size 0 ?_ ((({ safe := safe, pend := pend, dead := dead, left := left, fails := fails, ops := ops } : RA).crashR l).cells ⟨some ⟨gs, 0, none⟩, n, cap, none, 0, 0⟩) _ ?_ Try.underlying31 ?_ ?_ ?_)
    | (with_reducible refine wpList_build_to (o := ⟨some 61, _, _, _, _, _⟩) (by rfl) 39 _ rfl (bv nought).toArray HBZ.out ?_)
    | (with_reducible refine wpList_store_in (op := ⟨none, _, _, _, _, _⟩) ?_ 31 (.tmp 4) (.tmp 60) (by rfl) (w.heap.size + 1 + 1) 0 ((({ safe := safe, pend := pend, dead := dead, left := left, fails := fails, ops := ops } : RA).crashR l).cells ⟨some ⟨gs, 0, none⟩, n, cap, none, 0, 0⟩) ?_ ?_ 31 rz ?_ ?_ (cells_one _ _) ?_ ?_))
  all_goals try (first | rfl | exact Row.all HQ3.out.r0 | exact HQ3.out.r4 | exact size31 | exact size39 | (show 0 + 6 ≤ 6; decide) | (show 0 + 64 ≤ 64; decide))
  intro w8 hr hgr
  rw [splice_all _ _ (by rfl)] at hr
  have T1 := Lib.hid hr
  have T2 := Lib.hid (HQ3.out.r5.grown hgr (by simp))
  have TB := Lib.hid (HQ3.out.bel.grown hgr HQ3.out.bel.size (fun k hk => by simp at hk; omega))
  have TK := Lib.hid hgr
  clear hr hgr
  go_wp2_with (first
    | (with_reducible refine wpList_store_in (op := ⟨none, _, _, _, _, _⟩) ?_ 39 (.tmp 5) (.tmp 61) (by rfl) (w.heap.size + 1 + 1 + 1) 0 (bv nought) ?_ ?_ 39 (bv nought) ?_ ?_ bv_one ?_ ?_))
  all_goals try (first | rfl | exact T2.out | exact size31 | exact size39 | (show 0 + 6 ≤ 6; decide) | (show 0 + 64 ≤ 64; decide))
  intro w9 hr hgr
  rw [splice_all _ _ (by rfl)] at hr
  have V1 := Lib.hid (T1.out.grown hgr (by simp))
  have V2 := Lib.hid hr
  have VB := Lib.hid (TB.out.grown hgr TB.out.size (fun k hk => by simp at hk; omega))
  have VR := Lib.hid ((HRV3.out.off TK.out.size (fun b hb => TK.out.block b (HRV3.out.lt b hb) (fun e => by have := HXS.out b hb; simp at e; omega))).off hgr.size (fun b hb => hgr.block b (Nat.lt_of_lt_of_le (HRV3.out.lt b hb) TK.out.size) (fun e => by have := HXS.out b hb; simp at e; omega)))
  clear hr hgr T1 T2 TB TK
  go_wp2
  refine bodyPost_ret (v := .tuple #[.agg ((({ safe := safe, pend := pend, dead := dead, left := left, fails := fails, ops := ops } : RA).crashR l).cells ⟨some ⟨gs, 0, none⟩, n, cap, none, 0, 0⟩).toArray, blk nought, .int .i64 0]) (results_cct (p := 4) (q := 5) (t := 6) (T1 := 31) (T2 := 39) rfl _ _ ⟨w.heap.size + 1 + 1, 0, none⟩ ⟨w.heap.size + 1 + 1 + 1, 0, none⟩ _ _ _ rfl (run_load_rcs _ _ _ rfl V1.out) rfl (run_load_blk _ _ _ _ nought _ (Row.all V2.out) Try.underlying39 rfl size39) rfl) rfl ?_
  rw [HY.out, HWR.out]
  exact ⟨_, [gs], rfl, VR.out, HXC.out, VB.out⟩

set_option maxRecDepth 100000 in
set_option maxHeartbeats 8000000 in
theorem want0 (x0 : RA) (r : RX) (xs : List Nat) (k a : Int) (x : UInt8) (Ak : Option Addr) (nk ck : Nat) (l : List Bool) (w : World) (h : RVat w xs x0 r) (hg : RGood x0) (ho : OpOk w ⟨k, a, x, Ak, nk, ck, l⟩) (hkd : kindM k = 0) :
    Calls Try.prog 11 #[x0.val r, opv k a x Ak nk ck] w (WOut w xs (x0.wantR ⟨k, a, x, Ak, nk, ck, l⟩)) := by
  obtain ⟨safe, pend, dead, left, fails, ops⟩ := x0
  obtain ⟨A, n, c, A2, m, c2⟩ := r
  obtain ⟨y, hy⟩ : ∃ y, y = ({ safe := safe, pend := pend, dead := dead, left := left, fails := fails, ops := ops } : RA).wantR ⟨k, a, x, Ak, nk, ck, l⟩ := ⟨_, rfl⟩
  rw [← hy]
  have HRV : Hid (∀ w', Below w.heap.size w w' → RVat w' xs ({ safe := safe, pend := pend, dead := dead, left := left, fails := fails, ops := ops } : RA) ⟨A, n, c, A2, m, c2⟩) := (show ∀ _, _ from fun w' hb => h.below hb)
  have HGD := Lib.hid hg
  have HS : Hid (∀ w', Below w.heap.size w w' → Calls Try.prog 15 #[.agg (rcs ⟨A, n, c, A2, m, c2⟩ dead left fails ops).toArray, .int .i64 a] w' fun e w'' => e = .returned (.tuple #[(({ safe := safe, pend := pend, dead := dead, left := left, fails := fails, ops := ops } : RA).readR a).1.val ⟨A, n, c, A2, m, c2⟩, blk (({ safe := safe, pend := pend, dead := dead, left := left, fails := fails, ops := ops } : RA).readR a).2.1, .int .i64 (({ safe := safe, pend := pend, dead := dead, left := left, fails := fails, ops := ops } : RA).readR a).2.2]) ∧ Below w'.heap.size w' w'') := (show ∀ _, _ from fun w' hb => rread_any ({ safe := safe, pend := pend, dead := dead, left := left, fails := fails, ops := ops } : RA) ⟨A, n, c, A2, m, c2⟩ xs a w' (HRV.out w' hb) HGD.out)
  have HLEN : Hid ((({ safe := safe, pend := pend, dead := dead, left := left, fails := fails, ops := ops } : RA).readR a).2.1.length = 64) := (show _ = _ from readR_len h hg a)
  have HBZ := Lib.hid built_zero
  have HKD := Lib.hid hkd
  have HY := Lib.hid hy
  have HKC := Lib.hid (kind_any k a _ (x.toNat : Int) rfl Ak nk ck)
  have HOA := Lib.hid ho.low
  have HOB := Lib.hid ho.high
  clear hy h hg ho hkd
  obtain ⟨W1, hW1⟩ : ∃ W1, W1 = w.alloc (.cells (rcs ⟨A, n, c, A2, m, c2⟩ dead left fails ops).toArray 31) := ⟨_, rfl⟩
  obtain ⟨W2, hW2⟩ : ∃ W2, W2 = W1.alloc (.cells (ocs k a x Ak nk ck).toArray 37) := ⟨_, rfl⟩
  obtain ⟨W3, hW3⟩ : ∃ W3, W3 = W2.alloc (.cells rz.toArray 31) := ⟨_, rfl⟩
  obtain ⟨W4, hW4⟩ : ∃ W4, W4 = W3.alloc (.cells (bv nought).toArray 39) := ⟨_, rfl⟩
  have s1 : W1.heap.size = w.heap.size + 1 := by rw [hW1]; simp
  have s2 : W2.heap.size = w.heap.size + 1 + 1 := by rw [hW2]; simp [s1]
  have s3 : W3.heap.size = w.heap.size + 1 + 1 + 1 := by rw [hW3]; simp [s2]
  have HQ0 : Hid (Wq w W4 (rcs ⟨A, n, c, A2, m, c2⟩ dead left fails ops) (ocs k a x Ak nk ck)) := (show Wq _ _ _ _ from ⟨by rw [hW4, hW3, hW2, hW1]; exact (((Row.new w _ (rcs ⟨A, n, c, A2, m, c2⟩ dead left fails ops)).alloc _).alloc _).alloc _, by
    have := ((Row.new W1 37 (ocs k a x Ak nk ck)).alloc (.cells rz.toArray 31)).alloc (.cells (bv nought).toArray 39)
    rw [s1] at this
    rw [hW4, hW3, hW2]; exact this, by
    have := (Row.new W2 31 rz).alloc (.cells (bv nought).toArray 39)
    rw [s2] at this
    rw [hW4, hW3]; exact this, by
    have := Row.new W3 39 (bv nought)
    rw [s3] at this
    rw [hW4]; exact this, by
    rw [hW4, hW3, hW2, hW1]
    exact ((((Below.refl _ _).alloc (Nat.le_refl _) _).alloc (by simp) _).alloc (by simp; omega) _).alloc (by simp; omega) _⟩)
  have HW : Hid (W4 = (((w.alloc (.cells (rcs ⟨A, n, c, A2, m, c2⟩ dead left fails ops).toArray 31)).alloc (.cells (ocs k a x Ak nk ck).toArray 37)).alloc (.cells rz.toArray 31)).alloc (.cells (bv nought).toArray 39)) := (show _ = _ by rw [hW4, hW3, hW2, hW1])
  have HKW := Lib.hid (HKC.out W4)
  clear hW1 hW2 hW3 hW4 s1 s2 s3
  show Calls _ _ #[.agg #[.slice A n c, .slice A2 m c2, .bool dead, .int .i64 left, .int .i64 fails, .int .i64 ops], .agg #[.int .i64 k, .int .i64 a, .int .u8 (x.toNat : Int), .slice Ak nk ck]] w _
  go_enter Try.func11, Try.ntmps11
  go_wp2_with fail
  refine Calls.mono (HW.out ▸ HKW.out) ?_
  rintro e w1 ⟨rfl, hb1⟩
  have hb1' : Below W4.heap.size W4 w1 := by rw [HW.out]; exact hb1
  rw [HKD.out]
  have HQ1 := Lib.hid (HQ0.out.below hb1')
  clear hb1 hb1' HQ0 HW HKW HKC W1 W2 W3 W4
  have o1 : w1.cell? ⟨w.heap.size + 1, 1, none⟩ = some (.int .i64 a) := HQ1.out.ro.cell 1
  have o2 : w1.cell? ⟨w.heap.size + 1, 2, none⟩ = some (.int .u8 (x.toNat : Int)) := HQ1.out.ro.cell 2
  have o3 : w1.cell? ⟨w.heap.size + 1, 3, none⟩ = some (.slice Ak nk ck) := HQ1.out.ro.cell 3
  go_wp2_with (first
    | (with_reducible refine wpList_load_mid (op := ⟨some 16, _, _, _, _, _⟩) ?_ 31 (.tmp 2) (by rfl) w.heap.size 0 ?_ (rcs ⟨A, n, c, A2, m, c2⟩ dead left fails ops) _ ?_ Try.underlying31 ?_ ?_ ?_))
  all_goals try (first | rfl | exact Row.all HQ1.out.r0 | exact size31 | exact size39 | (show 0 + 6 ≤ 6; decide) | (show 0 + 64 ≤ 64; decide))
  refine (HS.out w1 HQ1.out.bel).mono ?_
  rintro e w2 ⟨rfl, hb2⟩
  have HQ2 := Lib.hid (HQ1.out.below hb2)
  clear hb2 HQ1 HS o1 o2 o3
  go_wp2_with (first
    | (with_reducible refine wpList_store_in (op := ⟨none, _, _, _, _, _⟩) ?_ 31 (.tmp 4) (.tmp 20) (by rfl) (w.heap.size + 1 + 1) 0 ((({ safe := safe, pend := pend, dead := dead, left := left, fails := fails, ops := ops } : RA).readR a).1.cells ⟨A, n, c, A2, m, c2⟩) ?_ ?_ 31 rz ?_ ?_ (cells_one _ _) ?_ ?_))
  all_goals try (first | rfl | exact HQ2.out.r4 | exact size31 | exact size39 | (show 0 + 6 ≤ 6; decide) | (show 0 + 64 ≤ 64; decide))
  intro w3 hr hgr
  rw [splice_all _ _ (by rfl)] at hr
  have T1 := Lib.hid hr
  have T2 := Lib.hid (HQ2.out.r5.grown hgr (by simp))
  have TB := Lib.hid (HQ2.out.bel.grown hgr HQ2.out.bel.size (fun k hk => by simp at hk; omega))
  clear hr hgr HQ2
  go_wp2_with (first
    | (with_reducible refine wpList_store_in (op := ⟨none, _, _, _, _, _⟩) ?_ 39 (.tmp 5) (.tmp 21) (by rfl) (w.heap.size + 1 + 1 + 1) 0 (bv (({ safe := safe, pend := pend, dead := dead, left := left, fails := fails, ops := ops } : RA).readR a).2.1) ?_ ?_ 39 (bv nought) ?_ ?_ bv_one ?_ ?_))
  all_goals try (first | rfl | exact T2.out | (rw [bv_length, HLEN.out]; exact size39) | (rw [bv_length, bv_length, HLEN.out]; decide))
  intro w4 hr hgr
  rw [splice_all _ _ (by rw [bv_length, bv_length, HLEN.out]; rfl)] at hr
  have V1 := Lib.hid (T1.out.grown hgr (by simp))
  have V2 := Lib.hid hr
  have VB := Lib.hid (TB.out.grown hgr TB.out.size (fun k hk => by simp at hk; omega))
  have HWR : Hid (({ safe := safe, pend := pend, dead := dead, left := left, fails := fails, ops := ops } : RA).wantR ⟨k, a, x, Ak, nk, ck, l⟩ = ({ safe := safe, pend := pend, dead := dead, left := left, fails := fails, ops := ops } : RA).readR a) := (show _ = _ by
    have hk := HKD.out
    unfold RA.wantR
    dsimp only
    simp only [hk]
    rfl)
  clear hr hgr T1 T2 TB
  go_wp2
  refine bodyPost_ret (v := .tuple #[.agg ((({ safe := safe, pend := pend, dead := dead, left := left, fails := fails, ops := ops } : RA).readR a).1.cells ⟨A, n, c, A2, m, c2⟩).toArray, blk (({ safe := safe, pend := pend, dead := dead, left := left, fails := fails, ops := ops } : RA).readR a).2.1, .int .i64 (({ safe := safe, pend := pend, dead := dead, left := left, fails := fails, ops := ops } : RA).readR a).2.2]) (results_cct (p := 4) (q := 5) (t := 6) (T1 := 31) (T2 := 39) rfl _ _ ⟨w.heap.size + 1 + 1, 0, none⟩ ⟨w.heap.size + 1 + 1 + 1, 0, none⟩ _ _ _ rfl (run_load_rcs _ _ _ rfl V1.out) rfl (run_load_blk _ _ _ _ (({ safe := safe, pend := pend, dead := dead, left := left, fails := fails, ops := ops } : RA).readR a).2.1 _ (Row.all V2.out) Try.underlying39 rfl (by rw [HLEN.out]; exact size39)) rfl) rfl ?_
  rw [HY.out, HWR.out]
  exact ⟨⟨A, n, c, A2, m, c2⟩, xs, rfl, (HRV.out _ VB.out).turn (read_safe _ _).1 (read_safe _ _).2, fun b hb => .inl hb, VB.out⟩
end Go.Proofs.Ytbfpadilcfelbaa.Dsk
