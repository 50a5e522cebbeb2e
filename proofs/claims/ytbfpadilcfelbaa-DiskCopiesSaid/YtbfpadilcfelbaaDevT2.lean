/-
  The reference's Read.
-/
import Derived.Test.YtbfpadilcfelbaaDevT1
import Derived.Test.YtbfpadilcfelbaaDevE
namespace Go.Proofs.Ytbfpadilcfelbaa.Dsk
open Go.RowKit Go.Proofs.Ytbfpadilcfelbaa.Wd

theorem results_cct {P : Program} {fn : Func} {p q t : Tmp} {T1 T2 : TypeId} (h : fn.results = #[.cell p T1, .cell q T2, .tmp t]) (tmps : Array Value) (w : World) (a b : Addr) (v u z : Value) (hp : tmps.getD p undef = .pointer (some a)) (hl : (loadVar T1 a).run P w = .ok v w) (hq : tmps.getD q undef = .pointer (some b)) (hm : (loadVar T2 b).run P w = .ok u w) (ht : tmps.getD t undef = z) :
    (results fn tmps).run P w = .ok (.tuple #[v, u, z]) w := by
  simp only [results, h]
  simp only [Array.getD_eq_getD_getElem?] at *
  simp [Sem.run_bind, Result.andThen, ht]
  rw [hp, hq, show (asAddr (.pointer (some a))).run P w = .ok a w from rfl]
  simp only []
  rw [hl]
  simp only []
  rw [show (asAddr (.pointer (some b))).run P w = .ok b w from rfl]
  simp only []
  rw [hm]
theorem run_load_rcs (w : World) (g : Nat) (vs : List Value) (h6 : vs.length = 6) (hr : Row w g 31 vs) : (loadVar 31 ⟨g, 0, none⟩).run Try.prog w = .ok (.agg vs.toArray) w :=
  run_loadVar_mid w g 0 31 vs _ (Row.range hr fun j v hj => by simpa using hj) Try.underlying31 rfl (by rw [h6]; exact size31)
theorem Row.all {w : World} {g : Nat} {t : TypeId} {cs : List Value} (h : Row w g t cs) : w.rangeAt g 0 cs := Row.range h fun j v hj => by simpa using hj
theorem holds_len (safe : List (List UInt8)) (pend : List (Int × List UInt8)) (i : Nat) (hp : ∀ p ∈ pend, p.2.length = 64) (hs : (safe.getD i []).length = 64) : (holdsM safe pend i).length = 64 := by
  have : ∀ (l : List (Int × List UInt8)) (b : List UInt8), b.length = 64 → (∀ p ∈ l, p.2.length = 64) → (l.foldl (fun b p => if p.1 = (i : Int) then p.2 else b) b).length = 64 := by
    intro l
    induction l with
    | nil => intro b hb _; exact hb
    | cons p l ih =>
      intro b hb hl
      rw [List.foldl_cons]
      refine ih _ ?_ (fun q hq => hl q (by simp [hq]))
      split
      · exact hl p (by simp)
      · exact hb
  exact this pend _ hs hp
theorem bv_nought_len : (bv nought).length = 64 := rfl

set_option maxRecDepth 100000 in
set_option maxHeartbeats 2000000 in
theorem rread_any (x : RA) (r : RX) (xs : List Nat) (i : Int) (w : World) (h : RVat w xs x r) (hg : RGood x) :
    Calls Try.prog 15 #[x.val r, .int .i64 i] w fun e w' => e = .returned (.tuple #[(x.readR i).1.val r, blk (x.readR i).2.1, .int .i64 (x.readR i).2.2]) ∧ Below w.heap.size w w' := by
  obtain ⟨safe, pend, dead, left, fails, ops⟩ := x
  obtain ⟨A, n, c, A2, m, c2⟩ := r
  have hsl : safe.length = n := h.sl
  have hpl : pend.length = m := h.pl
  obtain ⟨am, ham⟩ : ∃ am, am = askedM dead n fails i := ⟨_, rfl⟩
  have hf : fails ≤ 9223372036854775807 := hg.fails.2
  have hops : ops ≤ 1000001 := hg.ops.2
  have hops0 : 0 ≤ ops := hg.ops.1
  obtain ⟨y, hy⟩ : ∃ y, y = ({ safe := safe, pend := pend, dead := dead, left := left, fails := fails, ops := ops } : RA).readR i := ⟨_, rfl⟩
  rw [← hy]
  have HY := Lib.hid hy
  clear hy
  have HRV := Lib.hid h
  have HGD := Lib.hid hg
  have HSL := Lib.hid hsl
  have HPL := Lib.hid hpl
  have HAM := Lib.hid ham
  have hask := asked_any A n c A2 m c2 dead left fails ops i
  have HASK := Lib.hid hask
  have HBZ := Lib.hid built_zero
  have HS6 : Hid ((Try.prog.info? 31).map (·.size) = some (rcs ⟨A, n, c, A2, m, c2⟩ dead left fails ops).length) := size31
  have HS39 : Hid ((Try.prog.info? 39).map (·.size) = some (bv nought).length) := size39
  have HFIT : Hid (0 + 6 ≤ 6) := (show _ ≤ _ by decide)
  clear h hg hsl hpl ham hask
  obtain ⟨W1, hW1⟩ : ∃ W1, W1 = w.alloc (.cells (rcs ⟨A, n, c, A2, m, c2⟩ dead left fails ops).toArray 31) := ⟨_, rfl⟩
  obtain ⟨W2, hW2⟩ : ∃ W2, W2 = W1.alloc (.cells rz.toArray 31) := ⟨_, rfl⟩
  obtain ⟨W3, hW3⟩ : ∃ W3, W3 = W2.alloc (.cells (bv nought).toArray 39) := ⟨_, rfl⟩
  have s1 : W1.heap.size = w.heap.size + 1 := by rw [hW1]; simp
  have s2 : W2.heap.size = w.heap.size + 1 + 1 := by rw [hW2]; simp [s1]
  have s3 : W3.heap.size = w.heap.size + 1 + 1 + 1 := by rw [hW3]; simp [s2]
  have r0 : Row W3 w.heap.size 31 (rcs ⟨A, n, c, A2, m, c2⟩ dead left fails ops) := by rw [hW3, hW2, hW1]; exact ((Row.new w _ (rcs ⟨A, n, c, A2, m, c2⟩ dead left fails ops)).alloc _).alloc _
  have r1 : Row W3 (w.heap.size + 1) 31 rz := by
    have := (Row.new W1 31 rz).alloc (.cells (bv nought).toArray 39)
    rw [s1] at this
    rw [hW3, hW2]; exact this
  have r2 : Row W3 (w.heap.size + 1 + 1) 39 (bv nought) := by
    have := Row.new W2 39 (bv nought)
    rw [s2] at this
    rw [hW3]; exact this
  have hb3 : Below w.heap.size w W3 := by
    rw [hW3, hW2, hW1]
    exact (((Below.refl _ _).alloc (Nat.le_refl _) _).alloc (by simp) _).alloc (by simp; omega) _
  have HB3 := Lib.hid hb3
  have R0 := Lib.hid r0
  have R1 := Lib.hid r1
  have R2 := Lib.hid r2
  have HW : Hid (W3 = ((w.alloc (.cells (rcs ⟨A, n, c, A2, m, c2⟩ dead left fails ops).toArray 31)).alloc (.cells rz.toArray 31)).alloc (.cells (bv nought).toArray 39)) := (show _ = _ by rw [hW3, hW2, hW1])
  clear hb3 r0 r1 r2 hW1 hW2 hW3
  show Calls _ _ #[.agg #[.slice A n c, .slice A2 m c2, .bool dead, .int .i64 left, .int .i64 fails, .int .i64 ops], .int .i64 i] w _
  go_enter Try.func15, Try.ntmps15
  go_wp2_with fail
  refine (HASK.out _ hf).mono ?_
  rintro e w1 ⟨rfl, hb1⟩
  have hb1' : Below W3.heap.size W3 w1 := by rw [HW.out]; exact hb1
  rw [← HAM.out]
  have R0' := Lib.hid (R0.out.below hb1' (by omega))
  have R1' := Lib.hid (R1.out.below hb1' (by omega))
  have R2' := Lib.hid (R2.out.below hb1' (by omega))
  have HB1 := Lib.hid (HB3.out.trans (hb1'.mono HB3.out.size))
  have s4 : w.heap.size + 1 + 1 + 1 ≤ w1.heap.size := by have := hb1'.size; omega
  clear hb1 hb1' HW R0 R1 R2 HB3 HASK s1 s2 s3
  go_wp2_with (first
    | (with_reducible refine wpList_store_in (op := ⟨none, _, _, _, _, _⟩) ?_ 31 (.tmp 2) (.tmp 12) (by rfl) w.heap.size 0 (rcs ⟨A, n, c, A2, m, c2⟩ dead left am.1 ops) ?_ ?_ 31 (rcs ⟨A, n, c, A2, m, c2⟩ dead left fails ops) ?_ ?_ (rcs_one _ _ _ _ _) ?_ ?_))
  all_goals try (first | rfl | exact R0'.out | exact size31 | exact size39 | (show 0 + 6 ≤ 6; decide) | (show 0 + 64 ≤ 64; decide))
  intro w2 hr hgr
  rw [splice_all _ _ (by rfl)] at hr
  have S0 := Lib.hid hr
  have S1 := Lib.hid (R1'.out.grown hgr (by simp))
  have S2 := Lib.hid (R2'.out.grown hgr (by simp; omega))
  have HB2 := Lib.hid (HB1.out.grown hgr HB1.out.size (fun k hk => by simp at hk; omega))
  have s5 : w.heap.size + 1 + 1 + 1 ≤ w2.heap.size := Nat.le_trans s4 hgr.size
  have HAR : Hid (({ safe := safe, pend := pend, dead := dead, left := left, fails := fails, ops := ops } : RA).askR i = ({ safe := safe, pend := pend, dead := dead, left := left, fails := am.1, ops := ops }, am.2)) := (show _ = _ by
    rw [HAM.out, ← HSL.out]; rfl)
  clear hr hgr R0' R1' R2' HB1
  by_cases he : am.2 = 0
  · have hne : (am.2 != 0) = false := by simp [he]
    have HRR : Hid (({ safe := safe, pend := pend, dead := dead, left := left, fails := fails, ops := ops } : RA).readR i = ({ safe := safe, pend := pend, dead := dead, left := left, fails := am.1, ops := ops + 1 }, holdsM safe pend i.toNat, 0)) := (show _ = _ by
      unfold RA.readR
      rw [HAR.out]
      exact if_pos he)
    have hin : 0 ≤ i ∧ i < (n : Int) := by
      have := HAM.out
      unfold askedM at this
      by_cases hd : dead = true
      · rw [if_pos hd] at this; rw [this] at he; exact absurd he (by simp)
      rw [if_neg hd] at this
      by_cases hi : i < 0 ∨ (n : Int) ≤ i
      · rw [if_pos hi] at this; rw [this] at he; exact absurd he (by simp)
      · omega
    obtain ⟨k, rfl⟩ := Int.eq_ofNat_of_zero_le hin.1
    have hkn : k < n := by omega
    have c5 : w2.cell? ⟨w.heap.size, 5, none⟩ = some (.int .i64 ops) := S0.out.cell 5
    have f5 := S0.out.frozen 5
    have T0 : Hid (Row (w2.setCell ⟨w.heap.size, 5, none⟩ (.int .i64 (ops + 1))) w.heap.size 31 (rcs ⟨A, n, c, A2, m, c2⟩ dead left am.1 (ops + 1))) := S0.out.store 5 _
    have T1 : Hid (Row (w2.setCell ⟨w.heap.size, 5, none⟩ (.int .i64 (ops + 1))) (w.heap.size + 1) 31 rz) := S1.out.far (by simp) _
    have T2 : Hid (Row (w2.setCell ⟨w.heap.size, 5, none⟩ (.int .i64 (ops + 1))) (w.heap.size + 1 + 1) 39 (bv nought)) := S2.out.far (by simp; omega) _
    have HBT : Hid (Below w.heap.size w (w2.setCell ⟨w.heap.size, 5, none⟩ (.int .i64 (ops + 1)))) := HB2.out.setCell (p := ⟨w.heap.size, 5, none⟩) (Nat.le_refl _) _
    have s6 : w.heap.size + 1 + 1 + 1 ≤ (w2.setCell ⟨w.heap.size, 5, none⟩ (.int .i64 (ops + 1))).heap.size := by simpa [World.setCell] using s5
    have HRVT : Hid (∀ w', Below w.heap.size w w' → RVat w' xs { safe := safe, pend := pend, dead := dead, left := left, fails := fails, ops := ops } ⟨A, n, c, A2, m, c2⟩) := (show ∀ _, _ from fun w' hb => HRV.out.below hb)
    have hm6 : m ≤ 1048576 := by have h1 : pend.length ≤ 1000000 := HGD.out.few; have h2 := HPL.out; omega
    have hn6 : n ≤ 1048576 := by have h1 : safe.length ≤ 2048 := HGD.out.len.2; have h2 := HSL.out; omega
    have HLH : Hid ((holdsM safe pend k).length = 64) := (show _ = _ from holds_len safe pend k (fun p hp => (HGD.out.inr p hp).2.2) (by
      obtain ⟨_, _, _, _, h1⟩ := HRV.out.sb (by have := HGD.out.len.1; exact this)
      exact (h1 k (by have := HSL.out; show k < safe.length; omega)).1))
    clear he
    go_wp2_with fail
    generalize w2.setCell ⟨w.heap.size, 5, none⟩ (.int .i64 (ops + 1)) = w3 at T0 T1 T2 HBT s6 ⊢
    clear c5 f5 S0 S1 S2 HB2 s4 s5
    refine wp_region_held_drew (S := fun w' : World => w'.rangeAt w.heap.size 0 (rcs ⟨A, n, c, A2, m, c2⟩ dead left am.1 (ops + 1))) (by kernel_rfl) (Row.all T0.out) (fun hHeld => ?_)
    refine wpAnyH_take (i := 0) (oi := ⟨some 23, _, _, _, _, _⟩) rfl (by kernel_rfl) (by kernel_rfl) (by kernel_rfl) (fun _ _ _ h => h) (yieldsIf_load_mid (by rfl) 31 (.tmp 2) rfl w.heap.size 0 ?x0 (rcs ⟨A, n, c, A2, m, c2⟩ dead left am.1 (ops + 1)) _ (fun _ hS => hS) Try.underlying31 rfl size31) hHeld ?r0
    case x0 => first | rfl | (simp [Act.eval, go_sem]; done)
    try simp only [Act.put, List.setIfInBounds_toArray, List.set_cons_zero, List.set_cons_succ]
    refine wpAnyH_take (i := 1) (oi := ⟨some 24, _, _, _, _, _⟩) rfl (by kernel_rfl) (by kernel_rfl) (by kernel_rfl) (fun _ _ _ h => h) (yieldsIf_load_mid (by rfl) 31 (.tmp 2) rfl w.heap.size 0 ?x1 (rcs ⟨A, n, c, A2, m, c2⟩ dead left am.1 (ops + 1)) _ (fun _ hS => hS) Try.underlying31 rfl size31) hHeld ?r1
    case x1 => first | rfl | (simp [Act.eval, go_sem]; done)
    try simp only [Act.put, List.setIfInBounds_toArray, List.set_cons_zero, List.set_cons_succ]
    refine wpAnyH_take (i := 2) (oi := ⟨some 25, _, _, _, _, _⟩) (v := ?v2) rfl (by kernel_rfl) (by kernel_rfl) (by kernel_rfl) (fun _ _ _ h => h) (Or.inl ⟨by rfl, ?y2⟩) hHeld ?r2
    case y2 =>
      rintro w' q0
      go_simp
      try with_reducible rfl
    try simp only [Act.put, List.setIfInBounds_toArray, List.set_cons_zero, List.set_cons_succ]
    refine wpAnyH_ready (rs := [3]) (by kernel_rfl) (by simp) ?_
    refine AllReadyH.cons rfl (fun K hK => ?_) AllReadyH.nil
    go_simp
    have HBD : Hid (Below w.heap.size w w3.drew) := (show Below _ _ _ from ⟨HBT.out.os, HBT.out.tape, HBT.out.output, HBT.out.size, HBT.out.block⟩)
    refine (holds_any A n c A2 m c2 dead left am.1 (ops + 1) k safe pend _ HSL.out HPL.out (HRVT.out _ HBD.out).sb (HRVT.out _ HBD.out).pb hkn hm6 hn6).mono ?_
    rintro e w4 ⟨rfl, hb⟩
    have hb' : Below w3.heap.size w3 w4 := ⟨hb.os, hb.tape, hb.output, hb.size, hb.block⟩
    clear HBD
    have V0 := Lib.hid (T0.out.below hb' (by omega))
    have V1 := Lib.hid (T1.out.below hb' (by omega))
    have V2 := Lib.hid (T2.out.below hb' (by omega))
    have HBV := Lib.hid (HBT.out.trans (hb'.mono HBT.out.size))
    have s7 : w.heap.size + 1 + 1 + 1 ≤ w4.heap.size := by have := hb'.size; omega
    have hlen : (holdsM safe pend k).length = 64 := HLH.out
    have HLEN := Lib.hid hlen
    clear hb hb' hlen HBT
    refine hK _ _ (Row.all V0.out) (fun _ => ?_)
    clear hK K T0 T1 T2
    try simp only [Act.put, List.setIfInBounds_toArray, List.set_cons_zero, List.set_cons_succ]
    refine wpAnyH_ready (rs := [4]) (by kernel_rfl) (by simp) ?_
    refine AllReadyH.cons rfl (fun K hK => ?_) AllReadyH.nil
    rw [if_pos (by rfl)]
    refine wp_store_mid 31 (.tmp 4) (.tmp 23) rfl (w.heap.size + 1) 0 (rcs ⟨A, n, c, A2, m, c2⟩ dead left am.1 (ops + 1)).toArray rfl rfl ?_ ?_ (all_oneCell_toArray (rcs_one _ _ _ _ _)) ?_
    · rw [List.size_toArray]; exact Row.there V1.out (by show 0 + 6 ≤ 6; decide)
    · rw [List.size_toArray]; exact size31
    rw [List.toList_toArray]
    have hr5 := Row.setCells (rcs ⟨A, n, c, A2, m, c2⟩ dead left am.1 (ops + 1)) 0 rz w4 V1.out (by show 0 + 6 ≤ 6; decide)
    have hg5 := grown_setCells (w.heap.size + 1) (rcs ⟨A, n, c, A2, m, c2⟩ dead left am.1 (ops + 1)) 0 w4
    rw [splice_all _ _ (by rfl)] at hr5
    generalize w4.setCells (w.heap.size + 1) 0 (rcs ⟨A, n, c, A2, m, c2⟩ dead left am.1 (ops + 1)) = w5 at hr5 hg5 ⊢
    have X0 := Lib.hid (V0.out.grown hg5 (by simp))
    have X1 := Lib.hid hr5
    have X2 := Lib.hid (V2.out.grown hg5 (by simp))
    have HBX := Lib.hid (HBV.out.grown hg5 HBV.out.size (fun j hj => by simp at hj; omega))
    refine hK _ _ (Row.all X0.out) (fun _ => ?_)
    clear hK K V0 V1 V2 hr5 hg5 HBV
    try simp only [Act.put, List.setIfInBounds_toArray, List.set_cons_zero, List.set_cons_succ]
    refine wpAnyH_ready (rs := [5]) (by kernel_rfl) (by simp) ?_
    refine AllReadyH.cons rfl (fun K hK => ?_) AllReadyH.nil
    rw [if_pos (by rfl)]
    refine wp_store_mid 39 (.tmp 5) (.tmp 26) rfl (w.heap.size + 1 + 1) 0 (bv (holdsM safe pend k)).toArray rfl rfl ?_ ?_ (all_oneCell_toArray bv_one) ?_
    · rw [List.size_toArray]; exact Row.there X2.out (by rw [List.size_toArray, bv_length, bv_length, HLEN.out]; decide)
    · rw [List.size_toArray, bv_length, HLEN.out]; exact size39
    rw [List.toList_toArray]
    have hr6 := Row.setCells (bv (holdsM safe pend k)) 0 (bv nought) w5 X2.out (by rw [bv_length, bv_length, HLEN.out]; decide)
    have hg6 := grown_setCells (w.heap.size + 1 + 1) (bv (holdsM safe pend k)) 0 w5
    rw [splice_all _ _ (by rw [bv_length, bv_length, HLEN.out]; rfl)] at hr6
    generalize w5.setCells (w.heap.size + 1 + 1) 0 (bv (holdsM safe pend k)) = w6 at hr6 hg6 ⊢
    have Y0 := Lib.hid (X0.out.grown hg6 (by simp; omega))
    have Y1 := Lib.hid (X1.out.grown hg6 (by simp))
    have Y2 := Lib.hid hr6
    have HBY := Lib.hid (HBX.out.grown hg6 HBX.out.size (fun j hj => by simp at hj; omega))
    refine hK _ _ (Row.all Y0.out) (fun _ => ?_)
    clear hK K X0 X1 X2 hr6 hg6 HBX
    try simp only [Act.put, List.setIfInBounds_toArray, List.set_cons_zero, List.set_cons_succ]
    have hHeld := Row.all Y0.out
    refine wpAnyH_take (i := 6) (oi := ⟨some 6, _, _, _, _, _⟩) (v := ?v6) rfl (by kernel_rfl) (by kernel_rfl) (by kernel_rfl) (fun _ _ _ h => h) (Or.inl ⟨by rfl, ?y6⟩) hHeld ?r6
    case y6 =>
      rintro w' q0
      go_simp
      try with_reducible rfl
    try simp only [Act.put, List.setIfInBounds_toArray, List.set_cons_zero, List.set_cons_succ]
    refine wpAnyH_done (by kernel_rfl) ?_ _
    clear hHeld
    go_wp2
    exact bodyPost_ret (v := .tuple #[.agg (rcs ⟨A, n, c, A2, m, c2⟩ dead left am.1 (ops + 1)).toArray, blk (holdsM safe pend k), .int .i64 0]) (results_cct (p := 4) (q := 5) (t := 6) (T1 := 31) (T2 := 39) rfl _ _ ⟨w.heap.size + 1, 0, none⟩ ⟨w.heap.size + 1 + 1, 0, none⟩ _ _ _ rfl (run_load_rcs _ _ _ rfl Y1.out) rfl (run_load_blk _ _ _ _ (holdsM safe pend k) _ (Row.all Y2.out) Try.underlying39 rfl (by rw [HLEN.out]; exact size39)) rfl) rfl ⟨by rw [HY.out, HRR.out]; rfl, HBY.out⟩
  · have hne : (am.2 != 0) = true := by simp [he]
    have HRR : Hid (({ safe := safe, pend := pend, dead := dead, left := left, fails := fails, ops := ops } : RA).readR i = ({ safe := safe, pend := pend, dead := dead, left := left, fails := am.1, ops := ops }, nought, am.2)) := (show _ = _ by
      unfold RA.readR
      rw [HAR.out]
      exact if_neg he)
    clear he
    go_wp2_with (first
      | (with_reducible refine wpList_load_mid (op := ⟨some 16, _, _, _, _, _⟩) ?_ 31 (.tmp 2) (by rfl) w.heap.size 0 ?_ (rcs ⟨A, n, c, A2, m, c2⟩ dead left am.1 ops) _ ?_ Try.underlying31 ?_ ?_ ?_)
      | (with_reducible refine wpList_build_to (o := ⟨some 17, _, _, _, _, _⟩) (by rfl) 39 _ rfl (bv nought).toArray HBZ.out ?_)
      | (with_reducible refine wpList_store_in (op := ⟨none, _, _, _, _, _⟩) ?_ 31 (.tmp 4) (.tmp 16) (by rfl) (w.heap.size + 1) 0 (rcs ⟨A, n, c, A2, m, c2⟩ dead left am.1 ops) ?_ ?_ 31 rz ?_ ?_ (rcs_one _ _ _ _ _) ?_ ?_))
    all_goals try (first | rfl | exact Row.all S0.out | exact S1.out | exact size31 | exact size39 | (show 0 + 6 ≤ 6; decide) | (show 0 + 64 ≤ 64; decide))
    intro w3 hr hgr
    rw [splice_all _ _ (by rfl)] at hr
    have T1 := Lib.hid hr
    have T2 := Lib.hid (S2.out.grown hgr (by simp))
    have HB3 := Lib.hid (HB2.out.grown hgr HB2.out.size (fun k hk => by simp at hk; omega))
    clear hr hgr S0 S1 S2 HB2
    go_wp2_with (first
      | (with_reducible refine wpList_store_in (op := ⟨none, _, _, _, _, _⟩) ?_ 39 (.tmp 5) (.tmp 17) (by rfl) (w.heap.size + 1 + 1) 0 (bv nought) ?_ ?_ 39 (bv nought) ?_ ?_ bv_one ?_ ?_))
    all_goals try (first | rfl | exact T2.out | exact size31 | exact size39 | (show 0 + 6 ≤ 6; decide) | (show 0 + 64 ≤ 64; decide))
    intro w4 hr hgr
    rw [splice_all _ _ (by rfl)] at hr
    have V1 := Lib.hid (T1.out.grown hgr (by simp))
    have V2 := Lib.hid hr
    have HB4 := Lib.hid (HB3.out.grown hgr HB3.out.size (fun k hk => by simp at hk; omega))
    clear hr hgr T1 T2 HB3
    go_wp2
    exact bodyPost_ret (v := .tuple #[.agg (rcs ⟨A, n, c, A2, m, c2⟩ dead left am.1 ops).toArray, blk nought, .int .i64 am.2]) (results_cct (p := 4) (q := 5) (t := 6) (T1 := 31) (T2 := 39) rfl _ _ ⟨w.heap.size + 1, 0, none⟩ ⟨w.heap.size + 1 + 1, 0, none⟩ _ _ _ rfl (run_load_rcs _ _ _ rfl V1.out) rfl (run_load_blk _ _ _ _ nought _ (Row.all V2.out) Try.underlying39 rfl size39) rfl) rfl ⟨by rw [HY.out, HRR.out]; rfl, HB4.out⟩
end Go.Proofs.Ytbfpadilcfelbaa.Dsk
