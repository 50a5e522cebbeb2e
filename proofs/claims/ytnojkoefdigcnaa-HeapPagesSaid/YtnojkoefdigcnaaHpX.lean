/-
  Heap: the reference's Wrong.
-/
import Derived.Test.YtnojkoefdigcnaaHp6
import Derived.Test.YtnojkoefdigcnaaHpD
import Derived.LoopTactic
import Derived.Deep.RegionHeld
import Derived.Deep.Cut
import Derived.Deep.CutBlock
import Derived.WalkLawsBesides
namespace Go.Proofs.Ytnojkoefdigcnaa.Hp
set_option maxRecDepth 100000
open Go.RowKit Go.Proofs.Ytnojkoefdigcnaa.Dsk Go.Proofs.Ytnojkoefdigcnaa.Pg Go.Proofs.Ytnojkoefdigcnaa.Rec Go.Proofs.Ytnojkoefdigcnaa.Wd Go.Proofs.Ytnojkoefdigcnaa.Wi Go.Proofs.Ytnojkoefdigcnaa.Ky Go.Proofs.Ytnojkoefdigcnaa.Oct Go.Proofs.Ytnojkoefdigcnaa.Rec Go.Proofs.Ytnojkoefdigcnaa.Lift

theorem rise_len : ∀ (l : List PM) (last : Int), -1 ≤ last → riseM last l = true → last + (l.length : Int) ≤ 31 ∨ l = []
  | [], _, _, _ => .inr rfl
  | p :: l, last, hl, h => by
    simp only [riseM, Bool.and_eq_true, decide_eq_true_eq] at h
    have h1 := (okN_iff.1 h.1.1).1
    rcases rise_len l p.num (by omega) h.2 with h2 | rfl
    · left; simp only [List.length_cons]; omega
    · left; simp only [List.length_cons, List.length_nil]; omega
theorem may_len {l : List PM} (h : mayM l = true) : l.length ≤ 32 := by
  rcases rise_len l (-1) (by omega) h with h1 | rfl
  · omega
  · simp
theorem itE_no {l : List PM} (h : mayM l = false) : itE l = 160 := by unfold itE; rw [h]; rfl
theorem elE_bad (p : PM) (k : Nat) (h0 : (p.sl k).length ≠ 0) (hd : decM (p.sl k) = none) : (⟨p.num, k, zT, 200⟩ : EH) ∈ elE p k := by
  unfold elE
  rw [if_neg h0, hd]
  simp
theorem elE_good (p : PM) (k : Nat) (h : (p.sl k).length = 0 ∨ ∃ t, decM (p.sl k) = some t) : ∀ x ∈ elE p k, x.e = 0 := by
  intro x hx
  unfold elE at hx
  split at hx
  · cases hx
  · rename_i h0
    rcases h with h | ⟨t, h⟩
    · exact absurd h h0
    · rw [h] at hx
      obtain rfl : x = _ := by simpa using hx
      rfl
theorem pageE_mem (p : PM) (k : Nat) (hk : k < 4) {x : EH} (hx : x ∈ elE p k) : x ∈ pageE p 4 := by
  simp only [pageE, List.mem_append]
  match k, hk with
  | 0, _ => exact .inl (.inl (.inl (.inr hx)))
  | 1, _ => exact .inl (.inl (.inr hx))
  | 2, _ => exact .inl (.inr hx)
  | 3, _ => exact .inr hx
set_option maxHeartbeats 8000000 in
theorem wrong_any (l : List PX) (A : Option Addr) (n c : Nat) (w : World) (hn : l.length = n) (hm : n ≤ 10000) (hP : Pgs w w.heap.size A l) :
    Calls Try.prog 17 #[.slice A n c] w fun e w' => e = .returned (.int .i64 (itE (l.map pmOf))) ∧ Below w.heap.size w w' := by
  have mixed : Try.prog.follows .mixedOrders = true := by kernel_rfl
  have HN := Lib.hid hn
  have HP := Lib.hid hP
  clear hn hP
  obtain ⟨ms, hms⟩ : ∃ ms, ms = l.map pmOf := ⟨_, rfl⟩
  have HMS := Lib.hid hms
  rw [← hms]
  clear hms
  have HML : Hid (ms.length = n) := Lib.hid (by rw [HMS.out, List.length_map, HN.out])
  by_cases h33 : 32 < n
  · have h33i : (32 : Int) < (n : Int) := by omega
    have HX : Hid (itE ms = 160) := Lib.hid (itE_no (by
      rcases hb : mayM ms with _ | _
      · rfl
      · have := may_len hb; rw [HML.out] at this; omega))
    go_enter Try.func17, Try.ntmps17
    go_wp2
    go_ret
    exact ⟨by rw [HX.out]; rfl, Below.refl _ _⟩
  have h33i : ¬ (32 : Int) < (n : Int) := by omega
  go_enter Try.func17, Try.ntmps17
  go_upto_block 0 with fail
  have HI0 : Hid (Below w.heap.size w w) := Lib.hid (Below.refl _ _)
  have HT0 : Hid (mayM (ms.take 0) = true) := Lib.hid (by rfl)
  have HL0 : Hid (lastM ms 0 = -1) := Lib.hid rfl
  go_wp2_with fail
  clear h33 h33i
  go_loopw [16] (fun i wr => ∃ (k : Nat) (last : Int), k ≤ n ∧ i = .int .i64 (k : Int) ∧ Hid (lastM ms k = last) ∧ Hid (Below w.heap.size w wr) ∧ Hid (mayM (ms.take k) = true)) (fun i _ => n - (intOf i).toNat)
  case atStart => exact ⟨0, -1, by omega, rfl, HL0, HI0, HT0⟩
  case round =>
    obtain ⟨k, last, hk, rfl, HLA, HI, HT⟩ := hrel
    clear HI0 HT0 HL0
    by_cases hlt : k < n
    case neg =>
      have h1 : ¬ (k : Int) < (n : Int) := by omega
      have HMY : Hid (mayM ms = true) := Lib.hid (by have := HT.out; rwa [List.take_of_length_le (by rw [HML.out]; omega)] at this)
      clear HT HLA
      have HIK := HI
      clear HI
      have HI0 : Hid (Below w.heap.size w wr) := HIK
      have HT0 : Hid (∀ x ∈ allE (ms.take 0), x.e = 0) := Lib.hid (by intro x hx; cases hx)
      go_wp2_with fail
      go_loopw [42] (fun i wr => ∃ k' : Nat, k' ≤ n ∧ i = .int .i64 (k' : Int) ∧ Hid (Below w.heap.size w wr) ∧ Hid (∀ x ∈ allE (ms.take k'), x.e = 0)) (fun i _ => n - (intOf i).toNat)
      case atStart => exact ⟨0, by omega, rfl, HI0, HT0⟩
      case round =>
      obtain ⟨k', hk', rfl, HI, HT⟩ := hrel
      clear HI0 HT0
      by_cases hlt' : k' < n
      case neg =>
        have h1 : ¬ (k' : Int) < (n : Int) := by omega
        have HX : Hid (itE ms = 0) := Lib.hid (itE_ok HMY.out (by have := HT.out; rwa [List.take_of_length_le (by rw [HML.out]; omega)] at this))
        clear HT
        go_wp2
        go_ret
        exact ⟨by rw [HX.out]; rfl, HI.out⟩
      have h1 : (k' : Int) < (n : Int) := by omega
      obtain ⟨x, hx⟩ : ∃ x, l[k']? = some x := ⟨_, List.getElem?_eq_getElem (by rw [HN.out]; exact hlt')⟩
      have hxm : ms[k']? = some (pmOf x) := by rw [HMS.out, List.getElem?_map, hx]; rfl
      obtain ⟨b, o, rfl, hblt, c0, c1, c2, c3, c4, c5⟩ := (HP.out.below HI.out).cells hx
      have HAT := Lib.hid (HP.out.at_ x (List.mem_of_getElem? hx))
      have HXM := Lib.hid hxm
      have HB : Hid (Below wr.heap.size wr (wr.alloc (.cells (pcs x.num x.lsn x.s).toArray 73))) := Lib.hid ((Below.refl _ _).alloc (Nat.le_refl _) _)
      have HRP : Hid (Row (wr.alloc (.cells (pcs x.num x.lsn x.s).toArray 73)) wr.heap.size 73 (pcs x.num x.lsn x.s)) := Lib.hid (Row.new _ _ _)
      clear hx hxm
      obtain ⟨num, lsn, sl, st⟩ := x
      dsimp only at *
      have HIX := Lib.hid (idx_any st)
      unfold scs at HIX
      have HPC : Hid (pcs num lsn st = [.int .i64 num, .int .u64 (lsn : Int), .slice (st.A 0) (st.n 0) (st.c 0), .slice (st.A 1) (st.n 1) (st.c 1), .slice (st.A 2) (st.n 2) (st.c 2), .slice (st.A 3) (st.n 3) (st.c 3)]) := Lib.hid rfl
      obtain ⟨p, hp⟩ : ∃ p, p = pmOf ⟨num, lsn, sl, st⟩ := ⟨_, rfl⟩
      have HPL : Hid (p.sl = sl) := Lib.hid (by rw [hp]; rfl)
      rw [← hp] at HXM
      rw [HPC.out] at HB HRP
      clear hp HPC
      go_upto_region 12 with fail
      clear c0 c1 c2 c3 c4 c5
      generalize (wr.alloc (.cells #[.int .i64 num, .int .u64 (lsn : Int), .slice (st.A 0) (st.n 0) (st.c 0), .slice (st.A 1) (st.n 1) (st.c 1), .slice (st.A 2) (st.n 2) (st.c 2), .slice (st.A 3) (st.n 3) (st.c 3)] 73)) = w1 at HB HRP ⊢
      have HI1 := Lib.hid (HI.out.trans (HB.out.mono HI.out.size))
      have HP0 : Hid (∀ x ∈ pageE p 0, x.e = 0) := Lib.hid (by intro x hx; cases hx)
      have q2 := HRP.out.cell 2
      have q3 := HRP.out.cell 3
      have q4 := HRP.out.cell 4
      have q5 := HRP.out.cell 5
      simp only [List.getElem?_cons_zero, List.getElem?_cons_succ] at q2 q3 q4 q5
      clear HB HI
      go_wp2_with fail
      clear q2 q3 q4 q5 HRP
      go_loopw [48] (fun i wr => ∃ j : Nat, j ≤ 4 ∧ i = .int .i64 (j : Int) ∧ Hid (Below w.heap.size w wr) ∧ Hid (∀ x ∈ pageE p j, x.e = 0)) (fun i _ => 4 - (intOf i).toNat)
      case atStart => exact ⟨0, by omega, rfl, HI1, HP0⟩
      case round =>
      obtain ⟨j, hj, rfl, HI, HPJ⟩ := hrel
      clear HI1 HP0
      by_cases hlt4 : j < 4
      case neg =>
        have h4 : ¬ (j : Int) < 4 := by omega
        obtain rfl : j = 4 := by omega
        have HTN : Hid (∀ x ∈ allE (ms.take (k' + 1)), x.e = 0) := Lib.hid (by
          intro x hx
          have e5 : allE (ms.take (k' + 1)) = allE (ms.take k') ++ pageE p 4 := by
            rw [List.take_succ_eq_append_getElem (List.getElem?_eq_some_iff.1 HXM.out).1, (List.getElem?_eq_some_iff.1 HXM.out).2]
            simp [allE]
          rw [e5] at hx
          rcases List.mem_append.1 hx with hx | hx
          · exact HT.out x hx
          · exact HPJ.out x hx)
        clear HT HPJ
        go_wp2_with fail
        go_roundw
        case rel => exact ⟨k' + 1, by omega, by go_num, HI, HTN⟩
        case measure => simp [intOf]; omega
      have h4 : (j : Int) < 4 := by omega
      have h0 : 0 ≤ (j : Int) := by omega
      have hix := HIX.out j hlt4
      have HSJ : Hid (Sl wr wr.heap.size (st.A j) (st.n j) (st.c j) (sl j)) := Lib.hid (((HAT.out j hlt4).below HI.out).more HI.out.size)
      have HLN : Hid ((p.sl j).length = st.n j) := Lib.hid (by rw [HPL.out]; exact HSJ.out.len)
      have HSTEP : Hid (((p.sl j).length = 0 ∨ ∃ t, decM (p.sl j) = some t) → ∀ x ∈ pageE p (j + 1), x.e = 0) := Lib.hid (fun h x hx => by
        rcases List.mem_append.1 (show x ∈ pageE p j ++ elE p j from hx) with hx | hx
        · exact HPJ.out x hx
        · exact elE_good p j h x hx)
      rcases hd : decM (sl j) with _ | ⟨r_, a_, b_, x0, x1, y0, y1, v⟩
      · have HD := Lib.hid (rdec_none (st.A j) (sl j) (st.n j) (st.c j) wr hd HSJ.out)
        have HDN : Hid (decM (p.sl j) = none) := Lib.hid (by rw [HPL.out]; exact hd)
        by_cases hz : st.n j = 0
        · have hzi : ¬ (0 : Int) < (st.n j : Int) := by omega
          have HPN := Lib.hid (HSTEP.out (.inl (by rw [HLN.out]; exact hz)))
          clear hd hz HSJ HSTEP HPJ HDN
          go_wp2_with fail
          refine HD.out.mono ?_
          rintro e w5 ⟨rfl, hb⟩
          have HI5 := Lib.hid ((HI.out.trans (hb.mono HI.out.size)).alloc (Nat.le_trans HI.out.size hb.size) (.cells #[.int .u32 0, .int .u64 0, .int .u64 0, .int .i64 0, .int .i64 0, .int .i64 0, .int .i64 0, .int .i64 0] 30))
          clear hb HD HI
          go_wp2_with fail
          go_roundw
          case rel => exact ⟨j + 1, by omega, by go_num, HI5, HPN⟩
          case measure => simp [intOf]; omega
        · have hzi : (0 : Int) < (st.n j : Int) := by omega
          have HX : Hid (itE ms = 200) := Lib.hid (itE_bad (x := ⟨p.num, j, zT, 200⟩) HMY.out (List.mem_flatMap.2 ⟨p, List.mem_of_getElem? HXM.out, pageE_mem p j hlt4 (elE_bad p j (by rw [HLN.out]; exact hz) HDN.out)⟩) (by simp))
          clear hd hz HSJ HSTEP HPJ HDN
          go_wp2_with fail
          refine HD.out.mono ?_
          rintro e w5 ⟨rfl, hb⟩
          have HI5 := Lib.hid ((HI.out.trans (hb.mono HI.out.size)).alloc (Nat.le_trans HI.out.size hb.size) (.cells #[.int .u32 0, .int .u64 0, .int .u64 0, .int .i64 0, .int .i64 0, .int .i64 0, .int .i64 0, .int .i64 0] 30))
          clear hb HD HI
          go_wp2
          go_ret
          exact ⟨by rw [HX.out]; rfl, HI5.out⟩
      · have HD := Lib.hid (rdec_some (st.A j) (sl j) (st.n j) (st.c j) r_ a_ b_ x0 x1 y0 y1 v wr hd HSJ.out)
        have HPN := Lib.hid (HSTEP.out (.inr ⟨_, by rw [HPL.out]; exact hd⟩))
        clear hd HSJ HSTEP HPJ
        go_wp2_with fail
        refine HD.out.mono ?_
        rintro e w5 ⟨rfl, hb⟩
        have HI5 := Lib.hid ((HI.out.trans (hb.mono HI.out.size)).alloc (Nat.le_trans HI.out.size hb.size) (.cells #[.int .u32 (r_ : Int), .int .u64 (a_ : Int), .int .u64 (b_ : Int), .int .i64 x0, .int .i64 x1, .int .i64 y0, .int .i64 y1, .int .i64 v] 30))
        clear hb HD HI
        by_cases hz : 0 < st.n j
        · have hzi : (0 : Int) < (st.n j : Int) := by omega
          clear hz
          go_wp2_with fail
          go_roundw
          case rel => exact ⟨j + 1, by omega, by go_num, HI5, HPN⟩
          case measure => simp [intOf]; omega
        · have hzi : ¬ (0 : Int) < (st.n j : Int) := by omega
          clear hz
          go_wp2_with fail
          go_roundw
          case rel => exact ⟨j + 1, by omega, by go_num, HI5, HPN⟩
          case measure => simp [intOf]; omega
    have h1 : (k : Int) < (n : Int) := by omega
    obtain ⟨x, hx⟩ : ∃ x, l[k]? = some x := ⟨_, List.getElem?_eq_getElem (by rw [HN.out]; exact hlt)⟩
    have hxm : ms[k]? = some (pmOf x) := by rw [HMS.out, List.getElem?_map, hx]; rfl
    obtain ⟨b, o, rfl, hblt, c0, c1, c2, c3, c4, c5⟩ := (HP.out.below HI.out).cells hx
    have HAT := Lib.hid (HP.out.at_ x (List.mem_of_getElem? hx))
    have HXS := Lib.hid (may_take hxm)
    have HNX : Hid (lastM ms (k + 1) = x.num) := Lib.hid (by simp only [lastM]; rw [hxm]; rfl)
    have HK : Hid (okN x.num x.s.n = okN (pmOf x).num (lensP (pmOf x))) := Lib.hid (lens_eq HAT.out)
    rw [HT.out, Bool.true_and, HLA.out, ← HK.out] at HXS
    have HPN : Hid ((pmOf x).num = x.num) := Lib.hid rfl
    rw [HPN.out] at HXS
    have HPV : Hid (0 < k → wr.cell? ⟨b, o + (k - 1) * 6, none⟩ = some (.int .i64 last)) := Lib.hid (fun h0 => by
      obtain ⟨q, hq⟩ : ∃ q, l[k - 1]? = some q := ⟨_, List.getElem?_eq_getElem (by rw [HN.out]; omega)⟩
      obtain ⟨b', o', e, -, d0, -⟩ := (HP.out.below HI.out).cells hq
      injection e with e
      injection e with e1 e2
      subst e1 e2
      have h5 := HLA.out
      obtain ⟨k', rfl⟩ : ∃ k', k = k' + 1 := ⟨k - 1, by omega⟩
      simp only [lastM] at h5
      rw [show ms[k']? = some (pmOf q) by rw [HMS.out, List.getElem?_map]; rw [Nat.add_sub_cancel] at hq; rw [hq]; rfl] at h5
      rw [← h5]
      exact d0)
    have HB : Hid (Below wr.heap.size wr (wr.alloc (.cells (pcs x.num x.lsn x.s).toArray 73))) := Lib.hid ((Below.refl _ _).alloc (Nat.le_refl _) _)
    have HRP : Hid (Row (wr.alloc (.cells (pcs x.num x.lsn x.s).toArray 73)) wr.heap.size 73 (pcs x.num x.lsn x.s)) := Lib.hid (Row.new _ _ _)
    have HRT := Lib.hid (fun (W : World) => Pg.right_any x.num x.lsn x.s W)
    have HBLW : Hid (b < wr.heap.size) := Lib.hid (Nat.lt_of_lt_of_le hblt HI.out.size)
    have HK0 : Hid (k = 0 → last = -1) := Lib.hid (fun h => by rw [← HLA.out, h]; rfl)
    have HON : Hid (okN x.num x.s.n = true → 0 ≤ x.num) := Lib.hid (fun h => (okN_iff.1 h).1.1)
    have HF : Hid (mayM (ms.take (k + 1)) = false → itE ms = 160) := Lib.hid (fun h => itE_no (may_of_take h))
    clear hx hxm HAT HT HLA HK HPN
    obtain ⟨num, lsn, sl, st⟩ := x
    dsimp only at *
    generalize hK : okN num st.n = K at HRT HXS HON
    clear hK
    have HPC : Hid (pcs num lsn st = [.int .i64 num, .int .u64 (lsn : Int), .slice (st.A 0) (st.n 0) (st.c 0), .slice (st.A 1) (st.n 1) (st.c 1), .slice (st.A 2) (st.n 2) (st.c 2), .slice (st.A 3) (st.n 3) (st.c 3)]) := Lib.hid rfl
    rw [HPC.out] at HB HRP HRT
    clear HPC
    go_upto_region 6 with fail
    clear c0 c1 c2 c3 c4 c5
    generalize (wr.alloc (.cells #[.int .i64 num, .int .u64 (lsn : Int), .slice (st.A 0) (st.n 0) (st.c 0), .slice (st.A 1) (st.n 1) (st.c 1), .slice (st.A 2) (st.n 2) (st.c 2), .slice (st.A 3) (st.n 3) (st.c 3)] 73)) = w1 at HB HRP ⊢
    obtain ⟨gp, hgp⟩ : ∃ g, g = wr.heap.size := ⟨_, rfl⟩
    rw [← hgp] at HRP ⊢
    have HI1 := Lib.hid (HI.out.trans (HB.out.mono HI.out.size))
    have HBL : Hid (b < w1.heap.size) := Lib.hid (Nat.lt_of_lt_of_le HBLW.out HB.out.size)
    have HPV1 : Hid (0 < k → w1.cell? ⟨b, o + (k - 1) * 6, none⟩ = some (.int .i64 last)) := Lib.hid (fun h => (HB.out.cell (p := ⟨b, o + (k - 1) * 6, none⟩) HBLW.out).trans (HPV.out h))
    clear hgp HI HB HPV HBLW
    cases K
    · have HX := Lib.hid (HF.out (by rw [HXS.out]; rfl))
      clear HXS HF HPV1 HON HK0
      go_wp2_with fail
      refine wp_region_held_drew (S := fun w' => Below w1.heap.size w1 w') (by kernel_rfl) (Below.refl _ _).drew (fun hHeld => ?_)
      have S_a1 := Lib.hid hHeld
      clear hHeld
      generalize w1.drew = Da1 at S_a1 ⊢
      refine wpAnyH_take (i := 0) (oi := ⟨some 21, _, _, _, _, _⟩) (v := ?vada1_1) rfl (by kernel_rfl) (by kernel_rfl) (by kernel_rfl) (fun _ _ _ h => h) (Or.inl ⟨by rfl, ?yada1_1⟩) S_a1.out ?rada1_1
      case yada1_1 =>
        rintro w' hSw
        have k0 := (HRP.out.below hSw HRP.out.lt).cell 0
        have k1 := (HRP.out.below hSw HRP.out.lt).cell 1
        have k2 := (HRP.out.below hSw HRP.out.lt).cell 2
        have k3 := (HRP.out.below hSw HRP.out.lt).cell 3
        have k4 := (HRP.out.below hSw HRP.out.lt).cell 4
        have k5 := (HRP.out.below hSw HRP.out.lt).cell 5
        simp only [List.getElem?_cons_zero, List.getElem?_cons_succ] at k0 k1 k2 k3 k4 k5
        go_simp
        try with_reducible rfl
      try simp only [Act.put, List.setIfInBounds_toArray, List.set_cons_zero, List.set_cons_succ]
      refine wpAnyH_ready (rs := [1]) (by kernel_rfl) (by simp) ?_
      refine (AllReadyH.cons rfl (fun K hK => ?_) AllReadyH.nil)
      go_simp
      refine (HRT.out _).mono ?_
      rintro e Xada1_2 ⟨rfl, hb⟩
      have Sada1_2 := Lib.hid (S_a1.out.trans (hb.mono S_a1.out.size))
      clear hb S_a1
      refine hK _ _ Sada1_2.out (fun _ => ?_)
      clear hK K
      try simp only [Act.put, List.setIfInBounds_toArray, List.set_cons_zero, List.set_cons_succ]
      refine wpAnyH_take (i := 2) (oi := ⟨some 23, _, _, _, _, _⟩) (v := ?vada1_3) rfl (by kernel_rfl) (by kernel_rfl) (by kernel_rfl) (fun _ _ _ h => h) (Or.inl ⟨by rfl, ?yada1_3⟩) Sada1_2.out ?rada1_3
      case yada1_3 =>
        rintro w' hSw
        go_simp
        try with_reducible rfl
      try simp only [Act.put, List.setIfInBounds_toArray, List.set_cons_zero, List.set_cons_succ]
      refine wpAnyH_take (i := 3) (oi := ⟨some 24, _, _, _, _, _⟩) (v := ?vada1_4) rfl (by kernel_rfl) (by kernel_rfl) (by kernel_rfl) (fun _ _ _ h => h) (Or.inl ⟨by rfl, ?yada1_4⟩) Sada1_2.out ?rada1_4
      case yada1_4 =>
        rintro w' hSw
        go_simp
        try with_reducible rfl
      try simp only [Act.put, List.setIfInBounds_toArray, List.set_cons_zero, List.set_cons_succ]
      refine wpAnyH_take (i := 4) (oi := ⟨some 25, _, _, _, _, _⟩) (v := undef) rfl (by kernel_rfl) (by kernel_rfl) (by kernel_rfl) (fun _ _ _ h => h) (Or.inr ⟨by rfl, rfl⟩) Sada1_2.out ?rada1_5
      try simp only [Act.put, List.setIfInBounds_toArray, List.set_cons_zero, List.set_cons_succ]
      refine wpAnyH_take (i := 5) (oi := ⟨some 26, _, _, _, _, _⟩) (v := undef) rfl (by kernel_rfl) (by kernel_rfl) (by kernel_rfl) (fun _ _ _ h => h) (Or.inr ⟨by rfl, rfl⟩) Sada1_2.out ?rada1_6
      try simp only [Act.put, List.setIfInBounds_toArray, List.set_cons_zero, List.set_cons_succ]
      refine wpAnyH_take (i := 6) (oi := ⟨some 27, _, _, _, _, _⟩) (v := undef) rfl (by kernel_rfl) (by kernel_rfl) (by kernel_rfl) (fun _ _ _ h => h) (Or.inr ⟨by rfl, rfl⟩) Sada1_2.out ?rada1_7
      try simp only [Act.put, List.setIfInBounds_toArray, List.set_cons_zero, List.set_cons_succ]
      refine wpAnyH_take (i := 7) (oi := ⟨some 28, _, _, _, _, _⟩) (v := undef) rfl (by kernel_rfl) (by kernel_rfl) (by kernel_rfl) (fun _ _ _ h => h) (Or.inr ⟨by rfl, rfl⟩) Sada1_2.out ?rada1_8
      try simp only [Act.put, List.setIfInBounds_toArray, List.set_cons_zero, List.set_cons_succ]
      refine wpAnyH_take (i := 8) (oi := ⟨some 29, _, _, _, _, _⟩) (v := undef) rfl (by kernel_rfl) (by kernel_rfl) (by kernel_rfl) (fun _ _ _ h => h) (Or.inr ⟨by rfl, rfl⟩) Sada1_2.out ?rada1_9
      try simp only [Act.put, List.setIfInBounds_toArray, List.set_cons_zero, List.set_cons_succ]
      refine wpAnyH_take (i := 9) (oi := ⟨some 30, _, _, _, _, _⟩) (v := undef) rfl (by kernel_rfl) (by kernel_rfl) (by kernel_rfl) (fun _ _ _ h => h) (Or.inr ⟨by rfl, rfl⟩) Sada1_2.out ?rada1_10
      try simp only [Act.put, List.setIfInBounds_toArray, List.set_cons_zero, List.set_cons_succ]
      refine wpAnyH_take (i := 10) (oi := ⟨some 31, _, _, _, _, _⟩) (v := undef) rfl (by kernel_rfl) (by kernel_rfl) (by kernel_rfl) (fun _ _ _ h => h) (Or.inr ⟨by rfl, rfl⟩) Sada1_2.out ?rada1_11
      try simp only [Act.put, List.setIfInBounds_toArray, List.set_cons_zero, List.set_cons_succ]
      refine wpAnyH_take (i := 11) (oi := ⟨some 32, _, _, _, _, _⟩) (v := undef) rfl (by kernel_rfl) (by kernel_rfl) (by kernel_rfl) (fun _ _ _ h => h) (Or.inr ⟨by rfl, rfl⟩) Sada1_2.out ?rada1_12
      try simp only [Act.put, List.setIfInBounds_toArray, List.set_cons_zero, List.set_cons_succ]
      refine wpAnyH_take (i := 12) (oi := ⟨some 33, _, _, _, _, _⟩) (v := undef) rfl (by kernel_rfl) (by kernel_rfl) (by kernel_rfl) (fun _ _ _ h => h) (Or.inr ⟨by rfl, rfl⟩) Sada1_2.out ?rada1_13
      try simp only [Act.put, List.setIfInBounds_toArray, List.set_cons_zero, List.set_cons_succ]
      refine wpAnyH_take (i := 13) (oi := ⟨some 34, _, _, _, _, _⟩) (v := undef) rfl (by kernel_rfl) (by kernel_rfl) (by kernel_rfl) (fun _ _ _ h => h) (Or.inr ⟨by rfl, rfl⟩) Sada1_2.out ?rada1_14
      try simp only [Act.put, List.setIfInBounds_toArray, List.set_cons_zero, List.set_cons_succ]
      refine wpAnyH_take (i := 14) (oi := ⟨some 35, _, _, _, _, _⟩) (v := undef) rfl (by kernel_rfl) (by kernel_rfl) (by kernel_rfl) (fun _ _ _ h => h) (Or.inr ⟨by rfl, rfl⟩) Sada1_2.out ?rada1_15
      try simp only [Act.put, List.setIfInBounds_toArray, List.set_cons_zero, List.set_cons_succ]
      refine wpAnyH_take (i := 15) (oi := ⟨some 36, _, _, _, _, _⟩) (v := undef) rfl (by kernel_rfl) (by kernel_rfl) (by kernel_rfl) (fun _ _ _ h => h) (Or.inr ⟨by rfl, rfl⟩) Sada1_2.out ?rada1_16
      try simp only [Act.put, List.setIfInBounds_toArray, List.set_cons_zero, List.set_cons_succ]
      refine wpAnyH_take (i := 16) (oi := ⟨some 37, _, _, _, _, _⟩) (v := undef) rfl (by kernel_rfl) (by kernel_rfl) (by kernel_rfl) (fun _ _ _ h => h) (Or.inr ⟨by rfl, rfl⟩) Sada1_2.out ?rada1_17
      try simp only [Act.put, List.setIfInBounds_toArray, List.set_cons_zero, List.set_cons_succ]
      refine wpAnyH_take (i := 17) (oi := ⟨some 38, _, _, _, _, _⟩) (v := ?vada1_18) rfl (by kernel_rfl) (by kernel_rfl) (by kernel_rfl) (fun _ _ _ h => h) (Or.inl ⟨by rfl, ?yada1_18⟩) Sada1_2.out ?rada1_18
      case yada1_18 =>
        rintro w' hSw
        go_simp
        try with_reducible rfl
      try simp only [Act.put, List.setIfInBounds_toArray, List.set_cons_zero, List.set_cons_succ]
      refine wpAnyH_done (by kernel_rfl) ?_ _
      go_wp2
      go_ret
      exact ⟨by rw [HX.out]; rfl, HI1.out.trans (Sada1_2.out.mono HI1.out.size)⟩
    · have hnum := HON.out rfl
      by_cases hk0 : k = 0
      · have hkz : ¬ (0 : Int) < (k : Int) := by omega
        have HX : Hid (mayM (ms.take (k + 1)) = true) := Lib.hid (by rw [HXS.out, decide_eq_true (by have := HK0.out hk0; omega)]; rfl)
        clear HXS HF HPV1 HON HK0 hk0 hnum
        go_wp2_with fail
        refine wp_region_held_drew (S := fun w' => Below w1.heap.size w1 w') (by kernel_rfl) (Below.refl _ _).drew (fun hHeld => ?_)
        have S_b1 := Lib.hid hHeld
        clear hHeld
        generalize w1.drew = Db1 at S_b1 ⊢
        refine wpAnyH_take (i := 0) (oi := ⟨some 21, _, _, _, _, _⟩) (v := ?vbdb1_1) rfl (by kernel_rfl) (by kernel_rfl) (by kernel_rfl) (fun _ _ _ h => h) (Or.inl ⟨by rfl, ?ybdb1_1⟩) S_b1.out ?rbdb1_1
        case ybdb1_1 =>
          rintro w' hSw
          have k0 := (HRP.out.below hSw HRP.out.lt).cell 0
          have k1 := (HRP.out.below hSw HRP.out.lt).cell 1
          have k2 := (HRP.out.below hSw HRP.out.lt).cell 2
          have k3 := (HRP.out.below hSw HRP.out.lt).cell 3
          have k4 := (HRP.out.below hSw HRP.out.lt).cell 4
          have k5 := (HRP.out.below hSw HRP.out.lt).cell 5
          simp only [List.getElem?_cons_zero, List.getElem?_cons_succ] at k0 k1 k2 k3 k4 k5
          go_simp
          try with_reducible rfl
        try simp only [Act.put, List.setIfInBounds_toArray, List.set_cons_zero, List.set_cons_succ]
        refine wpAnyH_ready (rs := [1]) (by kernel_rfl) (by simp) ?_
        refine (AllReadyH.cons rfl (fun K hK => ?_) AllReadyH.nil)
        go_simp
        refine (HRT.out _).mono ?_
        rintro e Xbdb1_2 ⟨rfl, hb⟩
        have Sbdb1_2 := Lib.hid (S_b1.out.trans (hb.mono S_b1.out.size))
        clear hb S_b1
        refine hK _ _ Sbdb1_2.out (fun _ => ?_)
        clear hK K
        try simp only [Act.put, List.setIfInBounds_toArray, List.set_cons_zero, List.set_cons_succ]
        refine wpAnyH_take (i := 2) (oi := ⟨some 23, _, _, _, _, _⟩) (v := ?vbdb1_3) rfl (by kernel_rfl) (by kernel_rfl) (by kernel_rfl) (fun _ _ _ h => h) (Or.inl ⟨by rfl, ?ybdb1_3⟩) Sbdb1_2.out ?rbdb1_3
        case ybdb1_3 =>
          rintro w' hSw
          go_simp
          try with_reducible rfl
        try simp only [Act.put, List.setIfInBounds_toArray, List.set_cons_zero, List.set_cons_succ]
        refine wpAnyH_take (i := 3) (oi := ⟨some 24, _, _, _, _, _⟩) (v := ?vbdb1_4) rfl (by kernel_rfl) (by kernel_rfl) (by kernel_rfl) (fun _ _ _ h => h) (Or.inl ⟨by rfl, ?ybdb1_4⟩) Sbdb1_2.out ?rbdb1_4
        case ybdb1_4 =>
          rintro w' hSw
          go_simp
          try with_reducible rfl
        try simp only [Act.put, List.setIfInBounds_toArray, List.set_cons_zero, List.set_cons_succ]
        refine wpAnyH_take (i := 4) (oi := ⟨some 25, _, _, _, _, _⟩) (v := ?vbdb1_5) rfl (by kernel_rfl) (by kernel_rfl) (by kernel_rfl) (fun _ _ _ h => h) (Or.inl ⟨by rfl, ?ybdb1_5⟩) Sbdb1_2.out ?rbdb1_5
        case ybdb1_5 =>
          rintro w' hSw
          go_simp
          try with_reducible rfl
        try simp only [Act.put, List.setIfInBounds_toArray, List.set_cons_zero, List.set_cons_succ]
        refine wpAnyH_take (i := 5) (oi := ⟨some 26, _, _, _, _, _⟩) (v := .bool false) rfl (by kernel_rfl) (by kernel_rfl) (by kernel_rfl) (fun _ _ _ h => h) (Or.inl ⟨by rfl, ?ybdb1_6⟩) Sbdb1_2.out ?rbdb1_6
        case ybdb1_6 =>
          rintro w' hSw
          go_simp
          first | done | omega | (simp <;> omega)
        try simp only [Act.put, List.setIfInBounds_toArray, List.set_cons_zero, List.set_cons_succ]
        refine wpAnyH_take (i := 6) (oi := ⟨some 27, _, _, _, _, _⟩) (v := ?vbdb1_7) rfl (by kernel_rfl) (by kernel_rfl) (by kernel_rfl) (fun _ _ _ h => h) (Or.inl ⟨by rfl, ?ybdb1_7⟩) Sbdb1_2.out ?rbdb1_7
        case ybdb1_7 =>
          rintro w' hSw
          go_simp
          try with_reducible rfl
        try simp only [Act.put, List.setIfInBounds_toArray, List.set_cons_zero, List.set_cons_succ]
        refine wpAnyH_take (i := 7) (oi := ⟨some 28, _, _, _, _, _⟩) (v := undef) rfl (by kernel_rfl) (by kernel_rfl) (by kernel_rfl) (fun _ _ _ h => h) (Or.inr ⟨by rfl, rfl⟩) Sbdb1_2.out ?rbdb1_8
        try simp only [Act.put, List.setIfInBounds_toArray, List.set_cons_zero, List.set_cons_succ]
        refine wpAnyH_take (i := 8) (oi := ⟨some 29, _, _, _, _, _⟩) (v := undef) rfl (by kernel_rfl) (by kernel_rfl) (by kernel_rfl) (fun _ _ _ h => h) (Or.inr ⟨by rfl, rfl⟩) Sbdb1_2.out ?rbdb1_9
        try simp only [Act.put, List.setIfInBounds_toArray, List.set_cons_zero, List.set_cons_succ]
        refine wpAnyH_take (i := 9) (oi := ⟨some 30, _, _, _, _, _⟩) (v := undef) rfl (by kernel_rfl) (by kernel_rfl) (by kernel_rfl) (fun _ _ _ h => h) (Or.inr ⟨by rfl, rfl⟩) Sbdb1_2.out ?rbdb1_10
        try simp only [Act.put, List.setIfInBounds_toArray, List.set_cons_zero, List.set_cons_succ]
        refine wpAnyH_take (i := 10) (oi := ⟨some 31, _, _, _, _, _⟩) (v := undef) rfl (by kernel_rfl) (by kernel_rfl) (by kernel_rfl) (fun _ _ _ h => h) (Or.inr ⟨by rfl, rfl⟩) Sbdb1_2.out ?rbdb1_11
        try simp only [Act.put, List.setIfInBounds_toArray, List.set_cons_zero, List.set_cons_succ]
        refine wpAnyH_take (i := 11) (oi := ⟨some 32, _, _, _, _, _⟩) (v := undef) rfl (by kernel_rfl) (by kernel_rfl) (by kernel_rfl) (fun _ _ _ h => h) (Or.inr ⟨by rfl, rfl⟩) Sbdb1_2.out ?rbdb1_12
        try simp only [Act.put, List.setIfInBounds_toArray, List.set_cons_zero, List.set_cons_succ]
        refine wpAnyH_take (i := 12) (oi := ⟨some 33, _, _, _, _, _⟩) (v := undef) rfl (by kernel_rfl) (by kernel_rfl) (by kernel_rfl) (fun _ _ _ h => h) (Or.inr ⟨by rfl, rfl⟩) Sbdb1_2.out ?rbdb1_13
        try simp only [Act.put, List.setIfInBounds_toArray, List.set_cons_zero, List.set_cons_succ]
        refine wpAnyH_take (i := 13) (oi := ⟨some 34, _, _, _, _, _⟩) (v := undef) rfl (by kernel_rfl) (by kernel_rfl) (by kernel_rfl) (fun _ _ _ h => h) (Or.inr ⟨by rfl, rfl⟩) Sbdb1_2.out ?rbdb1_14
        try simp only [Act.put, List.setIfInBounds_toArray, List.set_cons_zero, List.set_cons_succ]
        refine wpAnyH_take (i := 14) (oi := ⟨some 35, _, _, _, _, _⟩) (v := undef) rfl (by kernel_rfl) (by kernel_rfl) (by kernel_rfl) (fun _ _ _ h => h) (Or.inr ⟨by rfl, rfl⟩) Sbdb1_2.out ?rbdb1_15
        try simp only [Act.put, List.setIfInBounds_toArray, List.set_cons_zero, List.set_cons_succ]
        refine wpAnyH_take (i := 15) (oi := ⟨some 36, _, _, _, _, _⟩) (v := undef) rfl (by kernel_rfl) (by kernel_rfl) (by kernel_rfl) (fun _ _ _ h => h) (Or.inr ⟨by rfl, rfl⟩) Sbdb1_2.out ?rbdb1_16
        try simp only [Act.put, List.setIfInBounds_toArray, List.set_cons_zero, List.set_cons_succ]
        refine wpAnyH_take (i := 16) (oi := ⟨some 37, _, _, _, _, _⟩) (v := ?vbdb1_17) rfl (by kernel_rfl) (by kernel_rfl) (by kernel_rfl) (fun _ _ _ h => h) (Or.inl ⟨by rfl, ?ybdb1_17⟩) Sbdb1_2.out ?rbdb1_17
        case ybdb1_17 =>
          rintro w' hSw
          go_simp
          try with_reducible rfl
        try simp only [Act.put, List.setIfInBounds_toArray, List.set_cons_zero, List.set_cons_succ]
        refine wpAnyH_take (i := 17) (oi := ⟨some 38, _, _, _, _, _⟩) (v := ?vbdb1_18) rfl (by kernel_rfl) (by kernel_rfl) (by kernel_rfl) (fun _ _ _ h => h) (Or.inl ⟨by rfl, ?ybdb1_18⟩) Sbdb1_2.out ?rbdb1_18
        case ybdb1_18 =>
          rintro w' hSw
          go_simp
          try with_reducible rfl
        try simp only [Act.put, List.setIfInBounds_toArray, List.set_cons_zero, List.set_cons_succ]
        refine wpAnyH_done (by kernel_rfl) ?_ _
        go_wp2_with fail
        go_roundw
        case rel => exact ⟨k + 1, num, by omega, by go_num, HNX, Lib.hid (HI1.out.trans (Sbdb1_2.out.mono HI1.out.size)), HX⟩
        case measure => simp [intOf]; omega
      · have hkp : (0 : Int) < (k : Int) := by omega
        have HPV := Lib.hid (HPV1.out (by omega))
        have hw1 : IntKind.i64.wrap ((k : Int) - 1) = ((k - 1 : Nat) : Int) := by simp [IntKind.wrap, IntKind.signed, IntKind.bits]; omega
        by_cases hl : num ≤ last
        · have HX := Lib.hid (HF.out (by rw [HXS.out, decide_eq_false (by omega)]; rfl))
          clear HXS HF HPV1 HON HK0 hk0 hnum
          go_wp2_with fail
          refine wp_region_held_drew (S := fun w' => Below w1.heap.size w1 w') (by kernel_rfl) (Below.refl _ _).drew (fun hHeld => ?_)
          have S_c1 := Lib.hid hHeld
          clear hHeld
          generalize w1.drew = Dc1 at S_c1 ⊢
          refine wpAnyH_take (i := 0) (oi := ⟨some 21, _, _, _, _, _⟩) (v := ?vcdc1_1) rfl (by kernel_rfl) (by kernel_rfl) (by kernel_rfl) (fun _ _ _ h => h) (Or.inl ⟨by rfl, ?ycdc1_1⟩) S_c1.out ?rcdc1_1
          case ycdc1_1 =>
            rintro w' hSw
            have k0 := (HRP.out.below hSw HRP.out.lt).cell 0
            have k1 := (HRP.out.below hSw HRP.out.lt).cell 1
            have k2 := (HRP.out.below hSw HRP.out.lt).cell 2
            have k3 := (HRP.out.below hSw HRP.out.lt).cell 3
            have k4 := (HRP.out.below hSw HRP.out.lt).cell 4
            have k5 := (HRP.out.below hSw HRP.out.lt).cell 5
            simp only [List.getElem?_cons_zero, List.getElem?_cons_succ] at k0 k1 k2 k3 k4 k5
            go_simp
            try with_reducible rfl
          try simp only [Act.put, List.setIfInBounds_toArray, List.set_cons_zero, List.set_cons_succ]
          refine wpAnyH_ready (rs := [1]) (by kernel_rfl) (by simp) ?_
          refine (AllReadyH.cons rfl (fun K hK => ?_) AllReadyH.nil)
          go_simp
          refine (HRT.out _).mono ?_
          rintro e Xcdc1_2 ⟨rfl, hb⟩
          have Scdc1_2 := Lib.hid (S_c1.out.trans (hb.mono S_c1.out.size))
          clear hb S_c1
          refine hK _ _ Scdc1_2.out (fun _ => ?_)
          clear hK K
          try simp only [Act.put, List.setIfInBounds_toArray, List.set_cons_zero, List.set_cons_succ]
          refine wpAnyH_take (i := 2) (oi := ⟨some 23, _, _, _, _, _⟩) (v := ?vcdc1_3) rfl (by kernel_rfl) (by kernel_rfl) (by kernel_rfl) (fun _ _ _ h => h) (Or.inl ⟨by rfl, ?ycdc1_3⟩) Scdc1_2.out ?rcdc1_3
          case ycdc1_3 =>
            rintro w' hSw
            go_simp
            try with_reducible rfl
          try simp only [Act.put, List.setIfInBounds_toArray, List.set_cons_zero, List.set_cons_succ]
          refine wpAnyH_take (i := 3) (oi := ⟨some 24, _, _, _, _, _⟩) (v := ?vcdc1_4) rfl (by kernel_rfl) (by kernel_rfl) (by kernel_rfl) (fun _ _ _ h => h) (Or.inl ⟨by rfl, ?ycdc1_4⟩) Scdc1_2.out ?rcdc1_4
          case ycdc1_4 =>
            rintro w' hSw
            go_simp
            try with_reducible rfl
          try simp only [Act.put, List.setIfInBounds_toArray, List.set_cons_zero, List.set_cons_succ]
          refine wpAnyH_take (i := 4) (oi := ⟨some 25, _, _, _, _, _⟩) (v := ?vcdc1_5) rfl (by kernel_rfl) (by kernel_rfl) (by kernel_rfl) (fun _ _ _ h => h) (Or.inl ⟨by rfl, ?ycdc1_5⟩) Scdc1_2.out ?rcdc1_5
          case ycdc1_5 =>
            rintro w' hSw
            go_simp
            try with_reducible rfl
          try simp only [Act.put, List.setIfInBounds_toArray, List.set_cons_zero, List.set_cons_succ]
          refine wpAnyH_take (i := 5) (oi := ⟨some 26, _, _, _, _, _⟩) (v := .bool true) rfl (by kernel_rfl) (by kernel_rfl) (by kernel_rfl) (fun _ _ _ h => h) (Or.inl ⟨by rfl, ?ycdc1_6⟩) Scdc1_2.out ?rcdc1_6
          case ycdc1_6 =>
            rintro w' hSw
            go_simp
            first | done | omega | (simp <;> omega)
          try simp only [Act.put, List.setIfInBounds_toArray, List.set_cons_zero, List.set_cons_succ]
          refine wpAnyH_take (i := 6) (oi := ⟨some 27, _, _, _, _, _⟩) (v := ?vcdc1_7) rfl (by kernel_rfl) (by kernel_rfl) (by kernel_rfl) (fun _ _ _ h => h) (Or.inl ⟨by rfl, ?ycdc1_7⟩) Scdc1_2.out ?rcdc1_7
          case ycdc1_7 =>
            rintro w' hSw
            go_simp
            try with_reducible rfl
          try simp only [Act.put, List.setIfInBounds_toArray, List.set_cons_zero, List.set_cons_succ]
          refine wpAnyH_take (i := 7) (oi := ⟨some 28, _, _, _, _, _⟩) (v := ?vcdc1_8) rfl (by kernel_rfl) (by kernel_rfl) (by kernel_rfl) (fun _ _ _ h => h) (Or.inl ⟨by rfl, ?ycdc1_8⟩) Scdc1_2.out ?rcdc1_8
          case ycdc1_8 =>
            rintro w' hSw
            go_simp
            try with_reducible rfl
          try simp only [Act.put, List.setIfInBounds_toArray, List.set_cons_zero, List.set_cons_succ]
          refine wpAnyH_take (i := 8) (oi := ⟨some 29, _, _, _, _, _⟩) (v := ?vcdc1_9) rfl (by kernel_rfl) (by kernel_rfl) (by kernel_rfl) (fun _ _ _ h => h) (Or.inl ⟨by rfl, ?ycdc1_9⟩) Scdc1_2.out ?rcdc1_9
          case ycdc1_9 =>
            rintro w' hSw
            go_simp
            try with_reducible rfl
          try simp only [Act.put, List.setIfInBounds_toArray, List.set_cons_zero, List.set_cons_succ]
          refine wpAnyH_take (i := 9) (oi := ⟨some 30, _, _, _, _, _⟩) (v := .int .i64 ((k - 1 : Nat) : Int)) rfl (by kernel_rfl) (by kernel_rfl) (by kernel_rfl) (fun _ _ _ h => h) (Or.inl ⟨by rfl, ?ycdc1_10⟩) Scdc1_2.out ?rcdc1_10
          case ycdc1_10 =>
            rintro w' hSw
            go_simp
            first | done | (rw [hw1]; done) | (simp [hw1]; done) | omega
          try simp only [Act.put, List.setIfInBounds_toArray, List.set_cons_zero, List.set_cons_succ]
          refine wpAnyH_take (i := 10) (oi := ⟨some 31, _, _, _, _, _⟩) (v := ?vcdc1_11) rfl (by kernel_rfl) (by kernel_rfl) (by kernel_rfl) (fun _ _ _ h => h) (Or.inl ⟨by rfl, ?ycdc1_11⟩) Scdc1_2.out ?rcdc1_11
          case ycdc1_11 =>
            rintro w' hSw
            have q0 : (0 : Int) ≤ ((k - 1 : Nat) : Int) := by omega
            have q1 : ((k - 1 : Nat) : Int) < (n : Int) := by omega
            go_simp
            try with_reducible rfl
          try simp only [Act.put, List.setIfInBounds_toArray, List.set_cons_zero, List.set_cons_succ]
          refine wpAnyH_take (i := 11) (oi := ⟨some 32, _, _, _, _, _⟩) (v := ?vcdc1_12) rfl (by kernel_rfl) (by kernel_rfl) (by kernel_rfl) (fun _ _ _ h => h) (Or.inl ⟨by rfl, ?ycdc1_12⟩) Scdc1_2.out ?rcdc1_12
          case ycdc1_12 =>
            rintro w' hSw
            go_simp
            try with_reducible rfl
          try simp only [Act.put, List.setIfInBounds_toArray, List.set_cons_zero, List.set_cons_succ]
          refine wpAnyH_take (i := 12) (oi := ⟨some 33, _, _, _, _, _⟩) (v := ?vcdc1_13) rfl (by kernel_rfl) (by kernel_rfl) (by kernel_rfl) (fun _ _ _ h => h) (Or.inl ⟨by rfl, ?ycdc1_13⟩) Scdc1_2.out ?rcdc1_13
          case ycdc1_13 =>
            rintro w' hSw
            have k9 : w'.cell? ⟨b, o + (k - 1) * 6, none⟩ = some (.int .i64 last) := (hSw.cell (p := ⟨b, o + (k - 1) * 6, none⟩) HBL.out).trans HPV.out
            go_simp
            try with_reducible rfl
          try simp only [Act.put, List.setIfInBounds_toArray, List.set_cons_zero, List.set_cons_succ]
          refine wpAnyH_take (i := 13) (oi := ⟨some 34, _, _, _, _, _⟩) (v := ?vcdc1_14) rfl (by kernel_rfl) (by kernel_rfl) (by kernel_rfl) (fun _ _ _ h => h) (Or.inl ⟨by rfl, ?ycdc1_14⟩) Scdc1_2.out ?rcdc1_14
          case ycdc1_14 =>
            rintro w' hSw
            go_simp
            try with_reducible rfl
          try simp only [Act.put, List.setIfInBounds_toArray, List.set_cons_zero, List.set_cons_succ]
          refine wpAnyH_take (i := 14) (oi := ⟨some 35, _, _, _, _, _⟩) (v := ?vcdc1_15) rfl (by kernel_rfl) (by kernel_rfl) (by kernel_rfl) (fun _ _ _ h => h) (Or.inl ⟨by rfl, ?ycdc1_15⟩) Scdc1_2.out ?rcdc1_15
          case ycdc1_15 =>
            rintro w' hSw
            have k0 := (HRP.out.below hSw HRP.out.lt).cell 0
            have k1 := (HRP.out.below hSw HRP.out.lt).cell 1
            have k2 := (HRP.out.below hSw HRP.out.lt).cell 2
            have k3 := (HRP.out.below hSw HRP.out.lt).cell 3
            have k4 := (HRP.out.below hSw HRP.out.lt).cell 4
            have k5 := (HRP.out.below hSw HRP.out.lt).cell 5
            simp only [List.getElem?_cons_zero, List.getElem?_cons_succ] at k0 k1 k2 k3 k4 k5
            go_simp
            try with_reducible rfl
          try simp only [Act.put, List.setIfInBounds_toArray, List.set_cons_zero, List.set_cons_succ]
          refine wpAnyH_take (i := 15) (oi := ⟨some 36, _, _, _, _, _⟩) (v := .bool true) rfl (by kernel_rfl) (by kernel_rfl) (by kernel_rfl) (fun _ _ _ h => h) (Or.inl ⟨by rfl, ?ycdc1_16⟩) Scdc1_2.out ?rcdc1_16
          case ycdc1_16 =>
            rintro w' hSw
            go_simp
            first | done | omega | (simp <;> omega)
          try simp only [Act.put, List.setIfInBounds_toArray, List.set_cons_zero, List.set_cons_succ]
          refine wpAnyH_take (i := 16) (oi := ⟨some 37, _, _, _, _, _⟩) (v := ?vcdc1_17) rfl (by kernel_rfl) (by kernel_rfl) (by kernel_rfl) (fun _ _ _ h => h) (Or.inl ⟨by rfl, ?ycdc1_17⟩) Scdc1_2.out ?rcdc1_17
          case ycdc1_17 =>
            rintro w' hSw
            go_simp
            try with_reducible rfl
          try simp only [Act.put, List.setIfInBounds_toArray, List.set_cons_zero, List.set_cons_succ]
          refine wpAnyH_take (i := 17) (oi := ⟨some 38, _, _, _, _, _⟩) (v := ?vcdc1_18) rfl (by kernel_rfl) (by kernel_rfl) (by kernel_rfl) (fun _ _ _ h => h) (Or.inl ⟨by rfl, ?ycdc1_18⟩) Scdc1_2.out ?rcdc1_18
          case ycdc1_18 =>
            rintro w' hSw
            go_simp
            try with_reducible rfl
          try simp only [Act.put, List.setIfInBounds_toArray, List.set_cons_zero, List.set_cons_succ]
          refine wpAnyH_done (by kernel_rfl) ?_ _
          go_wp2
          go_ret
          exact ⟨by rw [HX.out]; rfl, HI1.out.trans (Scdc1_2.out.mono HI1.out.size)⟩
        · have HX : Hid (mayM (ms.take (k + 1)) = true) := Lib.hid (by rw [HXS.out, decide_eq_true (by omega)]; rfl)
          clear HXS HF HPV1 HON HK0 hk0 hnum
          go_wp2_with fail
          refine wp_region_held_drew (S := fun w' => Below w1.heap.size w1 w') (by kernel_rfl) (Below.refl _ _).drew (fun hHeld => ?_)
          have S_d1 := Lib.hid hHeld
          clear hHeld
          generalize w1.drew = Dd1 at S_d1 ⊢
          refine wpAnyH_take (i := 0) (oi := ⟨some 21, _, _, _, _, _⟩) (v := ?vddd1_1) rfl (by kernel_rfl) (by kernel_rfl) (by kernel_rfl) (fun _ _ _ h => h) (Or.inl ⟨by rfl, ?yddd1_1⟩) S_d1.out ?rddd1_1
          case yddd1_1 =>
            rintro w' hSw
            have k0 := (HRP.out.below hSw HRP.out.lt).cell 0
            have k1 := (HRP.out.below hSw HRP.out.lt).cell 1
            have k2 := (HRP.out.below hSw HRP.out.lt).cell 2
            have k3 := (HRP.out.below hSw HRP.out.lt).cell 3
            have k4 := (HRP.out.below hSw HRP.out.lt).cell 4
            have k5 := (HRP.out.below hSw HRP.out.lt).cell 5
            simp only [List.getElem?_cons_zero, List.getElem?_cons_succ] at k0 k1 k2 k3 k4 k5
            go_simp
            try with_reducible rfl
          try simp only [Act.put, List.setIfInBounds_toArray, List.set_cons_zero, List.set_cons_succ]
          refine wpAnyH_ready (rs := [1]) (by kernel_rfl) (by simp) ?_
          refine (AllReadyH.cons rfl (fun K hK => ?_) AllReadyH.nil)
          go_simp
          refine (HRT.out _).mono ?_
          rintro e Xddd1_2 ⟨rfl, hb⟩
          have Sddd1_2 := Lib.hid (S_d1.out.trans (hb.mono S_d1.out.size))
          clear hb S_d1
          refine hK _ _ Sddd1_2.out (fun _ => ?_)
          clear hK K
          try simp only [Act.put, List.setIfInBounds_toArray, List.set_cons_zero, List.set_cons_succ]
          refine wpAnyH_take (i := 2) (oi := ⟨some 23, _, _, _, _, _⟩) (v := ?vddd1_3) rfl (by kernel_rfl) (by kernel_rfl) (by kernel_rfl) (fun _ _ _ h => h) (Or.inl ⟨by rfl, ?yddd1_3⟩) Sddd1_2.out ?rddd1_3
          case yddd1_3 =>
            rintro w' hSw
            go_simp
            try with_reducible rfl
          try simp only [Act.put, List.setIfInBounds_toArray, List.set_cons_zero, List.set_cons_succ]
          refine wpAnyH_take (i := 3) (oi := ⟨some 24, _, _, _, _, _⟩) (v := ?vddd1_4) rfl (by kernel_rfl) (by kernel_rfl) (by kernel_rfl) (fun _ _ _ h => h) (Or.inl ⟨by rfl, ?yddd1_4⟩) Sddd1_2.out ?rddd1_4
          case yddd1_4 =>
            rintro w' hSw
            go_simp
            try with_reducible rfl
          try simp only [Act.put, List.setIfInBounds_toArray, List.set_cons_zero, List.set_cons_succ]
          refine wpAnyH_take (i := 4) (oi := ⟨some 25, _, _, _, _, _⟩) (v := ?vddd1_5) rfl (by kernel_rfl) (by kernel_rfl) (by kernel_rfl) (fun _ _ _ h => h) (Or.inl ⟨by rfl, ?yddd1_5⟩) Sddd1_2.out ?rddd1_5
          case yddd1_5 =>
            rintro w' hSw
            go_simp
            try with_reducible rfl
          try simp only [Act.put, List.setIfInBounds_toArray, List.set_cons_zero, List.set_cons_succ]
          refine wpAnyH_take (i := 5) (oi := ⟨some 26, _, _, _, _, _⟩) (v := .bool true) rfl (by kernel_rfl) (by kernel_rfl) (by kernel_rfl) (fun _ _ _ h => h) (Or.inl ⟨by rfl, ?yddd1_6⟩) Sddd1_2.out ?rddd1_6
          case yddd1_6 =>
            rintro w' hSw
            go_simp
            first | done | omega | (simp <;> omega)
          try simp only [Act.put, List.setIfInBounds_toArray, List.set_cons_zero, List.set_cons_succ]
          refine wpAnyH_take (i := 6) (oi := ⟨some 27, _, _, _, _, _⟩) (v := ?vddd1_7) rfl (by kernel_rfl) (by kernel_rfl) (by kernel_rfl) (fun _ _ _ h => h) (Or.inl ⟨by rfl, ?yddd1_7⟩) Sddd1_2.out ?rddd1_7
          case yddd1_7 =>
            rintro w' hSw
            go_simp
            try with_reducible rfl
          try simp only [Act.put, List.setIfInBounds_toArray, List.set_cons_zero, List.set_cons_succ]
          refine wpAnyH_take (i := 7) (oi := ⟨some 28, _, _, _, _, _⟩) (v := ?vddd1_8) rfl (by kernel_rfl) (by kernel_rfl) (by kernel_rfl) (fun _ _ _ h => h) (Or.inl ⟨by rfl, ?yddd1_8⟩) Sddd1_2.out ?rddd1_8
          case yddd1_8 =>
            rintro w' hSw
            go_simp
            try with_reducible rfl
          try simp only [Act.put, List.setIfInBounds_toArray, List.set_cons_zero, List.set_cons_succ]
          refine wpAnyH_take (i := 8) (oi := ⟨some 29, _, _, _, _, _⟩) (v := ?vddd1_9) rfl (by kernel_rfl) (by kernel_rfl) (by kernel_rfl) (fun _ _ _ h => h) (Or.inl ⟨by rfl, ?yddd1_9⟩) Sddd1_2.out ?rddd1_9
          case yddd1_9 =>
            rintro w' hSw
            go_simp
            try with_reducible rfl
          try simp only [Act.put, List.setIfInBounds_toArray, List.set_cons_zero, List.set_cons_succ]
          refine wpAnyH_take (i := 9) (oi := ⟨some 30, _, _, _, _, _⟩) (v := .int .i64 ((k - 1 : Nat) : Int)) rfl (by kernel_rfl) (by kernel_rfl) (by kernel_rfl) (fun _ _ _ h => h) (Or.inl ⟨by rfl, ?yddd1_10⟩) Sddd1_2.out ?rddd1_10
          case yddd1_10 =>
            rintro w' hSw
            go_simp
            first | done | (rw [hw1]; done) | (simp [hw1]; done) | omega
          try simp only [Act.put, List.setIfInBounds_toArray, List.set_cons_zero, List.set_cons_succ]
          refine wpAnyH_take (i := 10) (oi := ⟨some 31, _, _, _, _, _⟩) (v := ?vddd1_11) rfl (by kernel_rfl) (by kernel_rfl) (by kernel_rfl) (fun _ _ _ h => h) (Or.inl ⟨by rfl, ?yddd1_11⟩) Sddd1_2.out ?rddd1_11
          case yddd1_11 =>
            rintro w' hSw
            have q0 : (0 : Int) ≤ ((k - 1 : Nat) : Int) := by omega
            have q1 : ((k - 1 : Nat) : Int) < (n : Int) := by omega
            go_simp
            try with_reducible rfl
          try simp only [Act.put, List.setIfInBounds_toArray, List.set_cons_zero, List.set_cons_succ]
          refine wpAnyH_take (i := 11) (oi := ⟨some 32, _, _, _, _, _⟩) (v := ?vddd1_12) rfl (by kernel_rfl) (by kernel_rfl) (by kernel_rfl) (fun _ _ _ h => h) (Or.inl ⟨by rfl, ?yddd1_12⟩) Sddd1_2.out ?rddd1_12
          case yddd1_12 =>
            rintro w' hSw
            go_simp
            try with_reducible rfl
          try simp only [Act.put, List.setIfInBounds_toArray, List.set_cons_zero, List.set_cons_succ]
          refine wpAnyH_take (i := 12) (oi := ⟨some 33, _, _, _, _, _⟩) (v := ?vddd1_13) rfl (by kernel_rfl) (by kernel_rfl) (by kernel_rfl) (fun _ _ _ h => h) (Or.inl ⟨by rfl, ?yddd1_13⟩) Sddd1_2.out ?rddd1_13
          case yddd1_13 =>
            rintro w' hSw
            have k9 : w'.cell? ⟨b, o + (k - 1) * 6, none⟩ = some (.int .i64 last) := (hSw.cell (p := ⟨b, o + (k - 1) * 6, none⟩) HBL.out).trans HPV.out
            go_simp
            try with_reducible rfl
          try simp only [Act.put, List.setIfInBounds_toArray, List.set_cons_zero, List.set_cons_succ]
          refine wpAnyH_take (i := 13) (oi := ⟨some 34, _, _, _, _, _⟩) (v := ?vddd1_14) rfl (by kernel_rfl) (by kernel_rfl) (by kernel_rfl) (fun _ _ _ h => h) (Or.inl ⟨by rfl, ?yddd1_14⟩) Sddd1_2.out ?rddd1_14
          case yddd1_14 =>
            rintro w' hSw
            go_simp
            try with_reducible rfl
          try simp only [Act.put, List.setIfInBounds_toArray, List.set_cons_zero, List.set_cons_succ]
          refine wpAnyH_take (i := 14) (oi := ⟨some 35, _, _, _, _, _⟩) (v := ?vddd1_15) rfl (by kernel_rfl) (by kernel_rfl) (by kernel_rfl) (fun _ _ _ h => h) (Or.inl ⟨by rfl, ?yddd1_15⟩) Sddd1_2.out ?rddd1_15
          case yddd1_15 =>
            rintro w' hSw
            have k0 := (HRP.out.below hSw HRP.out.lt).cell 0
            have k1 := (HRP.out.below hSw HRP.out.lt).cell 1
            have k2 := (HRP.out.below hSw HRP.out.lt).cell 2
            have k3 := (HRP.out.below hSw HRP.out.lt).cell 3
            have k4 := (HRP.out.below hSw HRP.out.lt).cell 4
            have k5 := (HRP.out.below hSw HRP.out.lt).cell 5
            simp only [List.getElem?_cons_zero, List.getElem?_cons_succ] at k0 k1 k2 k3 k4 k5
            go_simp
            try with_reducible rfl
          try simp only [Act.put, List.setIfInBounds_toArray, List.set_cons_zero, List.set_cons_succ]
          refine wpAnyH_take (i := 15) (oi := ⟨some 36, _, _, _, _, _⟩) (v := .bool false) rfl (by kernel_rfl) (by kernel_rfl) (by kernel_rfl) (fun _ _ _ h => h) (Or.inl ⟨by rfl, ?yddd1_16⟩) Sddd1_2.out ?rddd1_16
          case yddd1_16 =>
            rintro w' hSw
            go_simp
            first | done | omega | (simp <;> omega)
          try simp only [Act.put, List.setIfInBounds_toArray, List.set_cons_zero, List.set_cons_succ]
          refine wpAnyH_take (i := 16) (oi := ⟨some 37, _, _, _, _, _⟩) (v := ?vddd1_17) rfl (by kernel_rfl) (by kernel_rfl) (by kernel_rfl) (fun _ _ _ h => h) (Or.inl ⟨by rfl, ?yddd1_17⟩) Sddd1_2.out ?rddd1_17
          case yddd1_17 =>
            rintro w' hSw
            go_simp
            try with_reducible rfl
          try simp only [Act.put, List.setIfInBounds_toArray, List.set_cons_zero, List.set_cons_succ]
          refine wpAnyH_take (i := 17) (oi := ⟨some 38, _, _, _, _, _⟩) (v := ?vddd1_18) rfl (by kernel_rfl) (by kernel_rfl) (by kernel_rfl) (fun _ _ _ h => h) (Or.inl ⟨by rfl, ?yddd1_18⟩) Sddd1_2.out ?rddd1_18
          case yddd1_18 =>
            rintro w' hSw
            go_simp
            try with_reducible rfl
          try simp only [Act.put, List.setIfInBounds_toArray, List.set_cons_zero, List.set_cons_succ]
          refine wpAnyH_done (by kernel_rfl) ?_ _
          go_wp2_with fail
          go_roundw
          case rel => exact ⟨k + 1, num, by omega, by go_num, HNX, Lib.hid (HI1.out.trans (Sddd1_2.out.mono HI1.out.size)), HX⟩
          case measure => simp [intOf]; omega
end Go.Proofs.Ytnojkoefdigcnaa.Hp
