/-
  The reference's Decode.
-/
import Derived.Test.YtnljhopikjkflaaPgY
import Derived.Test.YtnljhopikjkflaaPgM
import Derived.Test.YtnljhopikjkflaaPgR
import Derived.Test.YtnljhopikjkflaaPgG
import Derived.Deep.Cut
namespace Go.Proofs.Ytnljhopikjkflaa.Pg
set_option maxRecDepth 100000
open Go.RowKit Go.Proofs.Ytnljhopikjkflaa.Wd Go.Proofs.Ytnljhopikjkflaa.Oct Go.Proofs.Ytnljhopikjkflaa.Dsk Go.Proofs.Ytnljhopikjkflaa.Rec Go.Proofs.Ytnljhopikjkflaa.Sum Go.Proofs.Ytnljhopikjkflaa.Sm

/-- what the reference's Decode has made: the result's variable, the page so far -/
structure Rp (w : World) (P : Nat) (m lsn : Nat) (k : Nat) (l : List UInt8) (s : PS) (W : World) : Prop where
  r4 : Row W w.heap.size 48 zcs
  rp : Row W P 48 (pcs (m : Int) lsn s)
  own : ∀ j, j < k → Own W w.heap.size (.slice (s.A j) (s.n j) (s.c j)) (bS l j)
  nil : ∀ j, k ≤ j → s.A j = none ∧ s.n j = 0 ∧ s.c j = 0
  ks : ∀ j, j < k → kS l j ≤ 52
  hb : Below w.heap.size w W
  pl : w.heap.size < P ∧ P < W.heap.size
theorem Rp.then {w : World} {P m lsn k : Nat} {l : List UInt8} {s : PS} {W W' : World} (h : Rp w P m lsn k l s W) (hb : Below W.heap.size W W') : Rp w P m lsn k l s W' :=
  ⟨h.r4.below hb h.r4.lt, h.rp.below hb h.rp.lt, fun j hj => (h.own j hj).below hb, h.nil, h.ks, h.hb.trans (hb.mono h.hb.size), h.pl.1, Nat.lt_of_lt_of_le h.pl.2 hb.size⟩
theorem Rp.skip {w : World} {P m lsn k : Nat} {l : List UInt8} {s : PS} {W : World} (h : Rp w P m lsn k l s W) (h0 : kS l k = 0) : Rp w P m lsn (k + 1) l s W := by
  refine ⟨h.r4, h.rp, fun j hj => ?_, fun j hj => h.nil j (by omega), fun j hj => ?_, h.hb, h.pl⟩
  · by_cases hjk : j = k
    · subst hjk
      obtain ⟨e1, e2, e3⟩ := h.nil j (Nat.le_refl _)
      rw [e1, e2, e3, show bS l j = [] by unfold bS; rw [h0]; rfl]
      exact World.ownsRow_nil _ _ _ _
    · exact h.own j (by omega)
  · by_cases hjk : j = k
    · subst hjk; omega
    · exact h.ks j (by omega)
theorem Rp.set {w : World} {P m lsn k : Nat} {l : List UInt8} {s : PS} {W : World} (h : Rp w P m lsn k l s W) (hk : k < 4) (A : Option Addr) (n c : Nat) (hv : Own W w.heap.size (.slice A n c) (bS l k)) (h52 : kS l k ≤ 52) : Rp w P m lsn (k + 1) l (s.set k A n c) (W.setCell ⟨P, 2 + k, none⟩ (.slice A n c)) := by
  have hgr := grown_store W P (2 + k) (.slice A n c)
  have hp1 := h.pl.1
  refine ⟨h.r4.far (p := ⟨P, 2 + k, none⟩) (by show w.heap.size ≠ P; omega) _, ?_, fun j hj => ?_, fun j hj => ?_, fun j hj => ?_, h.hb.setCell (p := ⟨P, 2 + k, none⟩) (by show w.heap.size ≤ P; omega) _, h.pl.1, by simpa [World.setCell] using h.pl.2⟩
  · have := h.rp.store (2 + k) (.slice A n c)
    rwa [pcs_set hk] at this
  · by_cases hjk : j = k
    · subst hjk
      simp only [PS.set, upd_at]
      exact hv.kept hgr (own_ne hv h.rp (by decide))
    · simp only [PS.set, upd_not _ _ hjk]
      exact (h.own j (by omega)).kept hgr (own_ne (h.own j (by omega)) h.rp (by decide))
  · simp only [PS.set, upd_not _ _ (show j ≠ k by omega)]
    exact h.nil j (by omega)
  · by_cases hjk : j = k
    · subst hjk; exact h52
    · exact h.ks j (by omega)

set_option maxHeartbeats 8000000 in
theorem rdec_any (number : Int) (A : Option Addr) (n c : Nat) (l : List UInt8) (w : World) (hl : l.length = n) (hn : n ≤ 1000) (hnc : n ≤ c) (hb : Bs w w.heap.size A l) :
    Calls Try.prog 24 #[.int .i64 number, .slice A n c] w (DecP w (decM number l)) := by
  obtain ⟨i0, hi0, hz0, hz1, hz2⟩ := info_parts info5
  obtain ⟨D, hD⟩ : ∃ D, D = decM number l := ⟨_, rfl⟩
  rw [← hD]
  have HD := Lib.hid hD
  have HL := Lib.hid hl
  have HBS := Lib.hid hb
  clear hD hl hb
  unfold DecP
  go_enter Try.func24, Try.ntmps24
  go_upto_region 1 with fail
  have HR4 : Hid (Row (w.alloc (.cells zcs.toArray 48)) w.heap.size 48 zcs) := Row.new w _ _
  have HB1 : Hid (Below w.heap.size w (w.alloc (.cells zcs.toArray 48))) := (Below.refl _ _).alloc (Nat.le_refl _) _
  rw [show (#[.int .i64 0, .int .u64 0, .slice none 0 0, .slice none 0 0, .slice none 0 0, .slice none 0 0] : Array Value) = zcs.toArray from rfl]
  generalize w.alloc (.cells zcs.toArray 48) = w1 at HR4 HB1 ⊢
  by_cases h0 : number < 0
  · have HZ : Hid (D = badP 2) := (show _ = _ by rw [HD.out]; unfold decM; rw [if_neg (by omega)])
    clear HD
    have HONE : Hid (∀ v ∈ pcs 0 0 zs, v.oneCell' = true) := pcs_one
    have HPI : Hid ((Try.prog.info? 48).map (·.size) = some (pcs 0 0 zs).length) := page_info
    have HLE : Hid ((pcs 0 0 zs).length = zcs.length) := (rfl : _ = _)
    go_wp2_with ((with_reducible refine wpList_store_whole (op := ⟨none, _, _, _, _, _⟩) ?_ 48 (.tmp 4) (.tmp 15) ?_ w.heap.size (pcs 0 0 zs) ?_ ?_ 48 zcs HR4.out HLE.out HONE.out HPI.out ?_))
    all_goals try (first | rfl | (simp; done))
    intro w8 hr8 hg8
    have HRES := Lib.hid (run_loadVar_mid (P := Try.prog) w8 w.heap.size 0 48 (pcs 0 0 zs) _ (Row.all hr8) Try.underlying48 rfl HPI.out)
    have HB8 := Lib.hid (Below.grown HB1.out hg8 (Below.size HB1.out) (fun k hk => by have := Option.some.inj hk; omega))
    have HPO : Hid (PO w8 w.heap.size none_ zs) := PO.nil _ _
    clear hr8 hg8
    go_wp2
    refine bodyPost_ret (v := .tuple #[.agg (pcs 0 0 zs).toArray, .int .i64 2]) (res_cell_tmp (p := 4) (q := 5) (ty := 48) rfl _ _ ⟨w.heap.size, 0, none⟩ _ _ rfl HRES.out rfl) rfl ?_
    rw [HZ.out]
    exact ⟨_, rfl, HPO.out, HB8.out⟩
  by_cases h32 : 32 ≤ number
  · have HZ : Hid (D = badP 2) := (show _ = _ by rw [HD.out]; unfold decM; rw [if_neg (by omega)])
    clear HD
    have HONE : Hid (∀ v ∈ pcs 0 0 zs, v.oneCell' = true) := pcs_one
    have HPI : Hid ((Try.prog.info? 48).map (·.size) = some (pcs 0 0 zs).length) := page_info
    have HLE : Hid ((pcs 0 0 zs).length = zcs.length) := (rfl : _ = _)
    go_wp2_with ((with_reducible refine wpList_store_whole (op := ⟨none, _, _, _, _, _⟩) ?_ 48 (.tmp 4) (.tmp 15) ?_ w.heap.size (pcs 0 0 zs) ?_ ?_ 48 zcs HR4.out HLE.out HONE.out HPI.out ?_))
    all_goals try (first | rfl | (simp; done))
    intro w8 hr8 hg8
    have HRES := Lib.hid (run_loadVar_mid (P := Try.prog) w8 w.heap.size 0 48 (pcs 0 0 zs) _ (Row.all hr8) Try.underlying48 rfl HPI.out)
    have HB8 := Lib.hid (Below.grown HB1.out hg8 (Below.size HB1.out) (fun k hk => by have := Option.some.inj hk; omega))
    have HPO : Hid (PO w8 w.heap.size none_ zs) := PO.nil _ _
    clear hr8 hg8
    go_wp2
    refine bodyPost_ret (v := .tuple #[.agg (pcs 0 0 zs).toArray, .int .i64 2]) (res_cell_tmp (p := 4) (q := 5) (ty := 48) rfl _ _ ⟨w.heap.size, 0, none⟩ _ _ rfl HRES.out rfl) rfl ?_
    rw [HZ.out]
    exact ⟨_, rfl, HPO.out, HB8.out⟩
  have H32 : Hid (0 ≤ number ∧ number < 32) := (show _ ∧ _ from ⟨by omega, by omega⟩)
  go_upto_region 4 with fail
  obtain ⟨m, rfl⟩ := Int.eq_ofNat_of_zero_le H32.out.1
  have hm32 : m < 32 := by have := H32.out.2; omega
  have R0 : Hid (Rp w w1.heap.size m 0 0 l zs (w1.alloc (.cells (pcs (m : Int) 0 zs).toArray 48))) := (show Rp _ _ _ _ _ _ _ _ from by
    have hb : Below w1.heap.size w1 (w1.alloc (.cells (pcs (m : Int) 0 zs).toArray 48)) := (Below.refl _ _).alloc (Nat.le_refl _) _
    exact ⟨HR4.out.below hb HR4.out.lt, Row.new w1 _ _, fun j hj => by omega, fun j _ => ⟨rfl, rfl, rfl⟩, fun j hj => by omega, HB1.out.trans (hb.mono HB1.out.size), HR4.out.lt, by simp⟩)
  rw [show (#[.int .i64 (m : Int), .int .u64 0, .slice none 0 0, .slice none 0 0, .slice none 0 0, .slice none 0 0] : Array Value) = (pcs (m : Int) 0 zs).toArray from rfl]
  generalize w1.alloc (.cells (pcs (m : Int) 0 zs).toArray 48) = w2 at R0 ⊢
  generalize w1.heap.size = P at R0 ⊢
  clear HR4 HB1
  unfold pcs
  go_wp2_with fail
  refine (noughts_any A n c w.heap.size l w2 HL.out hn (HBS.out.below R0.out.hb)).mono ?_
  rintro e w3 ⟨rfl, rfl⟩
  cases hno : (l.all (· == 0) && decide (n = 256))
  case true =>
    rw [Bool.and_eq_true, decide_eq_true_eq] at hno
    have HZ : Hid (D = ⟨0, (m : Int), 0, none_⟩) := (show _ = _ by rw [HD.out]; unfold decM; rw [if_pos (by omega), if_pos (by rw [HL.out]; exact hno.2), if_pos hno.1])
    clear hno HD
    have ha0 : w2.cell? ⟨P, 0, none⟩ = some (.int .i64 (m : Int)) := R0.out.rp.cell 0
    have ha1 : w2.cell? ⟨P, 1, none⟩ = some (.int .u64 0) := R0.out.rp.cell 1
    have ha2 : w2.cell? ⟨P, 2, none⟩ = some (.slice none 0 0) := R0.out.rp.cell 2
    have ha3 : w2.cell? ⟨P, 3, none⟩ = some (.slice none 0 0) := R0.out.rp.cell 3
    have ha4 : w2.cell? ⟨P, 4, none⟩ = some (.slice none 0 0) := R0.out.rp.cell 4
    have ha5 : w2.cell? ⟨P, 5, none⟩ = some (.slice none 0 0) := R0.out.rp.cell 5
    have HONE : Hid (∀ v ∈ pcs (m : Int) 0 zs, v.oneCell' = true) := pcs_one
    have HPI : Hid ((Try.prog.info? 48).map (·.size) = some (pcs (m : Int) 0 zs).length) := page_info
    have HLE : Hid ((pcs (m : Int) 0 zs).length = zcs.length) := (rfl : _ = _)
    go_wp2_with ((with_reducible refine wpList_store_whole (op := ⟨none, _, _, _, _, _⟩) ?_ 48 (.tmp 4) (.tmp 20) ?_ w.heap.size (pcs (m : Int) 0 zs) ?_ ?_ 48 zcs R0.out.r4 HLE.out HONE.out HPI.out ?_))
    all_goals try (first | rfl | (simp; done))
    intro w8 hr8 hg8
    have HRES := Lib.hid (run_loadVar_mid (P := Try.prog) w8 w.heap.size 0 48 (pcs (m : Int) 0 zs) _ (Row.all hr8) Try.underlying48 rfl HPI.out)
    have HB8 := Lib.hid (Below.grown R0.out.hb hg8 (Below.size R0.out.hb) (fun k hk => by have := Option.some.inj hk; omega))
    have HPO : Hid (PO w8 w.heap.size none_ zs) := PO.nil _ _
    clear hr8 hg8
    go_wp2
    refine bodyPost_ret (v := .tuple #[.agg (pcs (m : Int) 0 zs).toArray, .int .i64 0]) (res_cell_tmp (p := 4) (q := 5) (ty := 48) rfl _ _ ⟨w.heap.size, 0, none⟩ _ _ rfl HRES.out rfl) rfl ?_
    rw [HZ.out]
    exact ⟨_, rfl, HPO.out, HB8.out⟩

  by_cases h256 : n = 256
  case neg =>
    have hbe : ((n : Int) != 256) = true := by simp; omega
    have HZ : Hid (D = badP 160) := (show _ = _ by rw [HD.out]; unfold decM; rw [if_pos (by omega), if_neg (by rw [HL.out]; exact h256)])
    clear h256 hno HD
    have HONE : Hid (∀ v ∈ pcs 0 0 zs, v.oneCell' = true) := pcs_one
    have HPI : Hid ((Try.prog.info? 48).map (·.size) = some (pcs 0 0 zs).length) := page_info
    have HLE : Hid ((pcs 0 0 zs).length = zcs.length) := (rfl : _ = _)
    go_wp2_with ((with_reducible refine wpList_store_whole (op := ⟨none, _, _, _, _, _⟩) ?_ 48 (.tmp 4) (.tmp 24) ?_ w.heap.size (pcs 0 0 zs) ?_ ?_ 48 zcs R0.out.r4 HLE.out HONE.out HPI.out ?_))
    all_goals try (first | rfl | (simp; done))
    intro w8 hr8 hg8
    have HRES := Lib.hid (run_loadVar_mid (P := Try.prog) w8 w.heap.size 0 48 (pcs 0 0 zs) _ (Row.all hr8) Try.underlying48 rfl HPI.out)
    have HB8 := Lib.hid (Below.grown R0.out.hb hg8 (Below.size R0.out.hb) (fun k hk => by have := Option.some.inj hk; omega))
    have HPO : Hid (PO w8 w.heap.size none_ zs) := PO.nil _ _
    clear hr8 hg8
    go_wp2
    refine bodyPost_ret (v := .tuple #[.agg (pcs 0 0 zs).toArray, .int .i64 160]) (res_cell_tmp (p := 4) (q := 5) (ty := 48) rfl _ _ ⟨w.heap.size, 0, none⟩ _ _ rfl HRES.out rfl) rfl ?_
    rw [HZ.out]
    exact ⟨_, rfl, HPO.out, HB8.out⟩

  subst h256
  have HZF : Hid (l.all (· == 0) = false) := (show _ = _ by simpa using hno)
  clear hno
  obtain ⟨b, o, rfl, hblt, hcs⟩ := HBS.out (by rw [HL.out]; omega)
  have HCS := Lib.hid hcs
  have hc2 : ¬ c = 2 := by omega
  have hc10 : (10 : Int) ≤ (c : Int) := by omega
  have HSB : Hid (Bs w2 w.heap.size (some ⟨b, o + 2, none⟩) ((l.drop 2).take 8)) := (show Bs _ _ _ _ from fun hp => ⟨b, o + 2, rfl, hblt, fun i hi => by
    have hi8 : i < 8 := by rw [List.length_take] at hi; omega
    rw [(R0.out.hb.cell (p := ⟨b, o + 2 + i, none⟩) hblt), Nat.add_assoc, hcs (2 + i) (by rw [HL.out]; omega)]
    simp [List.getD_eq_getElem?_getD, List.getElem?_take, List.getElem?_drop, hi8]⟩)
  have HS8 : Hid (((l.drop 2).take 8).length = 8) := (show _ = _ by rw [List.length_take, List.length_drop, HL.out]; rfl)
  clear hcs
  go_wp2_with fail
  refine (rnum_any (some ⟨b, o + 2, none⟩) 8 (c - 2) w.heap.size ((l.drop 2).take 8) w2 HS8.out (by omega) HSB.out).mono ?_
  rintro e w3 ⟨rfl, rfl⟩
  rw [show num ((l.drop 2).take 8) = rdLsn l from rfl]
  have ha1 : w2.cell? ⟨P, 1, none⟩ = some (.int .u64 0) := R0.out.rp.cell 1
  have hf1 := R0.out.rp.frozen 1
  go_upto_region 9 with fail
  have R1 : Hid (Rp w P m (rdLsn l) 0 l zs (w2.setCell ⟨P, 1, none⟩ (.int .u64 (rdLsn l : Int)))) := (show Rp _ _ _ _ _ _ _ _ from by
    have hp1 := R0.out.pl.1
    refine ⟨R0.out.r4.far (p := ⟨P, 1, none⟩) (by show w.heap.size ≠ P; omega) _, ?_, fun j hj => by omega, R0.out.nil, fun j hj => by omega, R0.out.hb.setCell (p := ⟨P, 1, none⟩) (by show w.heap.size ≤ P; omega) _, hp1, by simpa [World.setCell] using R0.out.pl.2⟩
    exact R0.out.rp.store 1 (.int .u64 (rdLsn l : Int)))
  generalize w2.setCell ⟨P, 1, none⟩ (.int .u64 (rdLsn l : Int)) = w4 at R1 ⊢
  clear ha1 hf1 R0 HSB HS8 hc2 hc10 HBS
  obtain ⟨L, hL⟩ : ∃ L, L = rdLsn l := ⟨_, rfl⟩
  rw [← hL] at R1 ⊢
  have HLs := Lib.hid hL
  clear hL
  go_wp2_with fail
  go_loopw [29] (fun t29 wr => ∃ k : Nat, k ≤ 4 ∧ t29 = .int .i64 (k : Int) ∧ Hid (∃ s, Rp w P m L k l s wr)) (fun t _ => 4 - (intOf t).toNat)
  case atStart => exact ⟨0, by omega, rfl, ⟨zs, R1.out⟩⟩
  case round =>
    obtain ⟨k, hk, rfl, HE⟩ := hrel
    clear R1
    obtain ⟨s, hr⟩ := HE.out
    have HR := Lib.hid hr
    clear HE hr
    obtain ⟨wk, hwk⟩ : ∃ wk : World, wk = wr := ⟨_, rfl⟩
    rw [← hwk] at HR ⊢
    clear hwk
    by_cases hlt : k < 4
    · have hki : (k : Int) < 4 := by omega
      have hk0 : 0 ≤ (k : Int) := by omega
      obtain ⟨q, hq⟩ : ∃ q, q = 53 * k := ⟨_, rfl⟩
      obtain ⟨p, hp⟩ : ∃ p, p = 10 + q := ⟨_, rfl⟩
      obtain ⟨r, hr⟩ : ∃ r, r = 11 + q := ⟨_, rfl⟩
      have hq159 : q ≤ 159 := by omega
      have h53 : 53 * (k : Int) = (q : Int) := by omega
      have hwq : IntKind.i64.wrap (q : Int) = (q : Int) := by simp [IntKind.wrap, IntKind.signed, IntKind.bits]; omega
      have h10 : 10 + (q : Int) = (p : Int) := by omega
      have hwp : IntKind.i64.wrap (p : Int) = (p : Int) := by simp [IntKind.wrap, IntKind.signed, IntKind.bits]; omega
      have h11 : 11 + (q : Int) = (r : Int) := by omega
      have hwr : IntKind.i64.wrap (r : Int) = (r : Int) := by simp [IntKind.wrap, IntKind.signed, IntKind.bits]; omega
      have hp256 : (p : Int) < 256 := by omega
      have hp0 : 0 ≤ (p : Int) := by omega
      have hr170 : r ≤ 170 := by omega
      have hx : wk.cell? ⟨b, o + p, none⟩ = some (.int .u8 (kS l k : Int)) := by
        rw [(HR.out.hb.cell (p := ⟨b, o + p, none⟩) hblt), HCS.out p (by rw [HL.out]; omega), hp, hq]
        rfl
      have HBK : Hid (bS l k = (l.drop r).take (kS l k)) := (show _ = _ by unfold bS; rw [hr, hq])
      have HQ := Lib.hid hq
      have HP := Lib.hid hp
      have HRr := Lib.hid hr
      clear hq hp hr
      obtain ⟨x, hxe⟩ : ∃ x, x = kS l k := ⟨_, rfl⟩
      rw [← hxe] at hx HBK
      have HXK := Lib.hid hxe
      have hx256 : x < 256 := by rw [hxe]; exact UInt8.toNat_lt _
      clear hxe
      have hwx : IntKind.i64.wrap (x : Int) = (x : Int) := by simp [IntKind.wrap, IntKind.signed, IntKind.bits]; omega
      by_cases h52 : 52 < x
      · have h52i : (52 : Int) < (x : Int) := by omega
        have HZ : Hid (D = badP 160) := (show _ = _ by rw [HD.out]; exact decM_long hm32 HL.out HZF.out k hlt (by rw [← HXK.out]; exact h52))
        clear HD HZF
        have HONE : Hid (∀ v ∈ pcs 0 0 zs, v.oneCell' = true) := pcs_one
        have HPI : Hid ((Try.prog.info? 48).map (·.size) = some (pcs 0 0 zs).length) := page_info
        have HLE : Hid ((pcs 0 0 zs).length = zcs.length) := (rfl : _ = _)
        go_wp2_with ((with_reducible refine wpList_store_whole (op := ⟨none, _, _, _, _, _⟩) ?_ 48 (.tmp 4) (.tmp 41) ?_ w.heap.size (pcs 0 0 zs) ?_ ?_ 48 zcs HR.out.r4 HLE.out HONE.out HPI.out ?_))
        all_goals try (first | rfl | (simp; done))
        intro w8 hr8 hg8
        have HRES := Lib.hid (run_loadVar_mid (P := Try.prog) w8 w.heap.size 0 48 (pcs 0 0 zs) _ (Row.all hr8) Try.underlying48 rfl HPI.out)
        have HB8 := Lib.hid (Below.grown HR.out.hb hg8 (Below.size HR.out.hb) (fun k hk => by have := Option.some.inj hk; omega))
        have HPO : Hid (PO w8 w.heap.size none_ zs) := PO.nil _ _
        clear hr8 hg8
        go_wp2
        refine bodyPost_ret (v := .tuple #[.agg (pcs 0 0 zs).toArray, .int .i64 160]) (res_cell_tmp (p := 4) (q := 5) (ty := 48) rfl _ _ ⟨w.heap.size, 0, none⟩ _ _ rfl HRES.out rfl) rfl ?_
        rw [HZ.out]
        exact ⟨_, rfl, HPO.out, HB8.out⟩

      have h52i : ¬ (52 : Int) < (x : Int) := by omega
      by_cases hx0 : x = 0
      · have HS := Lib.hid (HR.out.skip (by rw [← HXK.out]; exact hx0))
        subst hx0
        rw [show ((0 : Nat) : Int) = 0 from rfl] at hx
        clear HR HBK
        go_wp2
        go_roundw
        case rel => exact ⟨k + 1, by omega, by go_num, ⟨s, HS.out⟩⟩
        case measure => simp [intOf]; omega
      have hx0i : (0 : Int) < (x : Int) := by omega
      obtain ⟨y, hy⟩ : ∃ y, y = r + x := ⟨_, rfl⟩
      have hrx : (r : Int) + (x : Int) = (y : Int) := by omega
      have hwy : IntKind.i64.wrap (y : Int) = (y : Int) := by simp [IntKind.wrap, IntKind.signed, IntKind.bits]; omega
      have hyc : (y : Int) ≤ (c : Int) := by omega
      have hry : (r : Int) ≤ (y : Int) := by omega
      have hyr : y - r = x := by omega
      have hcr : ¬ c = r := by omega
      have HY := Lib.hid hy
      clear hy
      have HSB : Hid (Bs wk w.heap.size (some ⟨b, o + r, none⟩) (bS l k)) := (show Bs _ _ _ _ from fun hp => ⟨b, o + r, rfl, hblt, fun i hi => by
        rw [HBK.out] at hi ⊢
        have hi8 : i < x := by rw [List.length_take] at hi; omega
        rw [(HR.out.hb.cell (p := ⟨b, o + r + i, none⟩) hblt), Nat.add_assoc, HCS.out (r + i) (by rw [HL.out]; omega)]
        simp [List.getD_eq_getElem?_getD, List.getElem?_take, List.getElem?_drop, hi8]⟩)
      have HSL : Hid ((bS l k).length = x) := (show _ = _ by rw [HBK.out, List.length_take, List.length_drop, HL.out]; omega)
      have HSZ := Lib.hid HR.out.hb.size
      go_upto_region 17 with (first
        | (at_builtin; (refine wpList_append_bs (o := ⟨some 56, _, _, _, _, _⟩) rfl (.tmp 45) (.tmp 55) 25 rfl wk.heap.size 5 i0 (.int .u8 0) Try.underlying25 hi0 hz0 hz1 hz2 rfl (.slice (some ⟨wk.heap.size, 0, none⟩) 0 0) 0 (bv []) rfl (Own.of_row (l := []) (Row.new wk _ _) (Nat.le_refl _) rfl (Nat.zero_le _)) (some ⟨b, o + r, none⟩) x (c - r) (bS l k) rfl HSL.out w.heap.size (HSB.out.alloc HSZ.out _) (fun h => by cases h) (by omega) (by simp) ?_; intro v2 w5 hown5 hg5; have HG2 : Hid (Below wk.heap.size wk w5) := Lib.hid (((Below.refl _ _).alloc (Nat.le_refl _) _).trans (below_own hg5 (fun k hk => by cases hk; exact Nat.le_refl _) (by simp))); have HO2 : Hid (Own w5 wk.heap.size v2 (bS l k)) := Lib.hid (show Own w5 wk.heap.size v2 (bS l k) from (by have hh := hown5; rw [show bv ([] : List UInt8) = [] from rfl, List.nil_append, Nat.zero_add] at hh; unfold Own; rw [HSL.out]; exact hh)); obtain ⟨A2, n2, c2, rfl, -⟩ := HO2.out.open; have HR2 := Lib.hid (HR.out.then HG2.out); have hcl2 : w5.cell? ⟨P, 2 + k, none⟩ = some (.slice (s.A k) (s.n k) (s.c k)) := pcs_cell HR2.out.rp k hlt; have hfr2 := HR2.out.rp.frozen (2 + k); clear hown5 hg5)))
      have HR3 := Lib.hid (HR2.out.set hlt A2 n2 c2 (HO2.out.mono HSZ.out) (by rw [← HXK.out]; omega))
      generalize w5.setCell ⟨P, 2 + k, none⟩ (.slice A2 n2 c2) = w6 at HR3 ⊢
      clear hcl2 hfr2 HR2 HO2 HG2 HSZ HSL HSB HBK HR hx
      go_wp2
      go_roundw
      case rel => exact ⟨k + 1, by omega, by go_num, ⟨_, HR3.out⟩⟩
      case measure => simp [intOf]; omega
    obtain rfl : k = 4 := by omega
    have h44 : ¬ ((4 : Nat) : Int) < 4 := by omega
    have HPO : Hid (PO wk w.heap.size (bS l) s) := (show PO _ _ _ _ from fun j hj => HR.out.own j hj)
    have HOK : Hid (okN (m : Int) s.n = true) := (show _ = _ from by rw [okM_eq HPO.out.at_]; exact okM_iff.2 ⟨by omega, fun j hj => by have h1 := HR.out.ks j hj; unfold bS; rw [List.length_take]; omega⟩)
    have HDB := Lib.hid (decM_by hm32 HL.out HZF.out (fun j hj => HR.out.ks j hj))
    rw [← HLs.out, ← HD.out] at HDB
    have HBl : Hid (Bs wk w.heap.size (some ⟨b, o, none⟩) l) := (show Bs _ _ _ _ from fun hp => ⟨b, o, rfl, hblt, fun i hi => (HR.out.hb.cell (p := ⟨b, o + i, none⟩) hblt).trans (HCS.out i hi)⟩)
    go_wp2_with fail
    refine wp_region_held_drew (S := fun w' => Row w' P 48 (pcs (m : Int) L s) ∧ Bs w' w.heap.size (some ⟨b, o, none⟩) l) (by kernel_rfl) ⟨HR.out.rp, HBl.out⟩ (fun hHeld => ?_)
    have S0 := Lib.hid hHeld
    have HRd := Lib.hid (HR.out.then (⟨rfl, rfl, rfl, Nat.le_refl _, fun _ _ => rfl⟩ : Below wk.heap.size wk wk.drew))
    have HPd := Lib.hid (HPO.out.below (⟨rfl, rfl, rfl, Nat.le_refl _, fun _ _ => rfl⟩ : Below wk.heap.size wk wk.drew))
    clear hHeld HR HPO HBl
    generalize wk.drew = wd at S0 HRd HPd ⊢
    refine wpAnyH_take (i := 0) (oi := ⟨some 60, _, _, _, _, _⟩) rfl (by kernel_rfl) (by kernel_rfl) (by kernel_rfl) (fun _ _ _ h => h) (yieldsIf_load_mid (by rfl) 48 (.tmp 6) rfl P 0 ?_ (pcs (m : Int) L s) _ (fun _ h => Row.all h.1) Try.underlying48 rfl page_info) S0.out ?_
    · first | rfl | (simp [Act.eval, go_sem]; done)
    try simp only [Act.put, List.setIfInBounds_toArray, List.set_cons_zero, List.set_cons_succ]
    refine wpAnyH_take (i := 3) (oi := ⟨some 63, _, _, _, _, _⟩) (v := ?v3) rfl (by kernel_rfl) (by kernel_rfl) (by kernel_rfl) (fun _ _ _ h => h) (Or.inl ⟨by rfl, ?y3⟩) S0.out ?r3
    case y3 =>
      rintro w' hSw
      go_simp
      try with_reducible rfl
    try simp only [Act.put, List.setIfInBounds_toArray, List.set_cons_zero, List.set_cons_succ]
    refine wpAnyH_take (i := 4) (oi := ⟨some 64, _, _, _, _, _⟩) (v := ?v4) rfl (by kernel_rfl) (by kernel_rfl) (by kernel_rfl) (fun _ _ _ h => h) (Or.inl ⟨by rfl, ?y4⟩) S0.out ?r4
    case y4 =>
      rintro w' hSw
      have k0 := conv_any w' w.heap.size (some ⟨b, o, none⟩) 256 c l HL.out hSw.2
      go_simp
      try with_reducible rfl
    try simp only [Act.put, List.setIfInBounds_toArray, List.set_cons_zero, List.set_cons_succ]
    refine wpAnyH_ready (rs := [1]) (by kernel_rfl) (by simp) ?_
    refine AllReadyH.cons rfl (fun K hK => ?_) AllReadyH.nil
    go_simp
    refine (rbytes_any m L (bS l) s wd.heap.size wd HPd.out.at_ (Nat.le_refl _) HOK.out).mono ?_
    rintro e w6 ⟨vb, rfl, ho, hb6⟩
    have HR6 := Lib.hid (HRd.out.then hb6)
    have HP6 := Lib.hid (HPd.out.below hb6)
    have hBl6 : Bs w6 w.heap.size (some ⟨b, o, none⟩) l := fun hp => ⟨b, o, rfl, hblt, fun i hi => (HR6.out.hb.cell (p := ⟨b, o + i, none⟩) hblt).trans (HCS.out i hi)⟩
    have S6 : Hid (Row w6 P 48 (pcs (m : Int) L s) ∧ Bs w6 w.heap.size (some ⟨b, o, none⟩) l) := ⟨HR6.out.rp, hBl6⟩
    obtain ⟨PB, hPB⟩ : ∃ PB, PB = pageB (m : Int) L (bS l) := ⟨_, rfl⟩
    rw [← hPB] at ho HDB
    clear hPB
    obtain ⟨A6, n6, c6, rfl, hl6, -, -, -, hb6s⟩ := ho.open
    have hcv := conv_any w6 w6.heap.size A6 n6 c6 PB hl6 hb6s
    clear ho hb6 hBl6 HRd HPd S0 hl6 hb6s
    refine hK _ _ S6.out (fun _ => ?_)
    clear hK K
    try simp only [Act.put, List.setIfInBounds_toArray, List.set_cons_zero, List.set_cons_succ]
    refine wpAnyH_ready (rs := [2]) (by kernel_rfl) (by simp) ?_
    refine AllReadyH.cons rfl (fun K hK => ?_) AllReadyH.nil
    go_simp
    refine hK _ _ S6.out (fun _ => ?_)
    clear hK K hcv
    try simp only [Act.put, List.setIfInBounds_toArray, List.set_cons_zero, List.set_cons_succ]
    refine wpAnyH_ready (rs := [5]) (by kernel_rfl) (by simp) ?_
    refine AllReadyH.cons rfl (fun K hK => ?_) AllReadyH.nil
    by_cases hpl : PB = l
    · subst hpl
      have hd := HDB.out
      rw [if_pos rfl] at hd
      obtain ⟨S, hS, hDe⟩ := hd
      have HZ := Lib.hid hDe
      have HSS := Lib.hid hS
      clear hS hDe
      go_simp
      refine hK _ _ S6.out (fun _ => wpAnyH_done (by kernel_rfl) ?_ _)
      clear hK K
      have ha0 : w6.cell? ⟨P, 0, none⟩ = some (.int .i64 (m : Int)) := HR6.out.rp.cell 0
      have ha1 : w6.cell? ⟨P, 1, none⟩ = some (.int .u64 (L : Int)) := HR6.out.rp.cell 1
      have ha2 : w6.cell? ⟨P, 2, none⟩ = some (.slice (s.A 0) (s.n 0) (s.c 0)) := HR6.out.rp.cell 2
      have ha3 : w6.cell? ⟨P, 3, none⟩ = some (.slice (s.A 1) (s.n 1) (s.c 1)) := HR6.out.rp.cell 3
      have ha4 : w6.cell? ⟨P, 4, none⟩ = some (.slice (s.A 2) (s.n 2) (s.c 2)) := HR6.out.rp.cell 4
      have ha5 : w6.cell? ⟨P, 5, none⟩ = some (.slice (s.A 3) (s.n 3) (s.c 3)) := HR6.out.rp.cell 5
      have HONE : Hid (∀ v ∈ pcs (m : Int) L s, v.oneCell' = true) := pcs_one
      have HPI : Hid ((Try.prog.info? 48).map (·.size) = some (pcs (m : Int) L s).length) := page_info
      have HLE : Hid ((pcs (m : Int) L s).length = zcs.length) := (rfl : _ = _)
      go_wp2_with ((with_reducible refine wpList_store_whole (op := ⟨none, _, _, _, _, _⟩) ?_ 48 (.tmp 4) (.tmp 67) ?_ w.heap.size (pcs (m : Int) L s) ?_ ?_ 48 zcs HR6.out.r4 HLE.out HONE.out HPI.out ?_))
      all_goals try (first | rfl | (simp; done))
      intro w8 hr8 hg8
      have HRES := Lib.hid (run_loadVar_mid (P := Try.prog) w8 w.heap.size 0 48 (pcs (m : Int) L s) _ (Row.all hr8) Try.underlying48 rfl HPI.out)
      have HB8 := Lib.hid (Below.grown HR6.out.hb hg8 (Below.size HR6.out.hb) (fun k hk => by have := Option.some.inj hk; omega))
      have HPO : Hid (PO w8 w.heap.size S s) := fun j hj => by rw [HSS.out j hj]; exact (HP6.out j hj).kept hg8 (own_ne (HP6.out j hj) HR6.out.r4 (by decide))
      clear hr8 hg8
      go_wp2
      refine bodyPost_ret (v := .tuple #[.agg (pcs (m : Int) L s).toArray, .int .i64 0]) (res_cell_tmp (p := 4) (q := 5) (ty := 48) rfl _ _ ⟨w.heap.size, 0, none⟩ _ _ rfl HRES.out rfl) rfl ?_
      rw [HZ.out]
      exact ⟨_, rfl, HPO.out, HB8.out⟩
    · have hne : ((bstr PB).toList == (bstr l).toList) = false := by rw [bstr_list, bstr_list]; simpa using hpl
      have hd := HDB.out
      rw [if_neg hpl] at hd
      have HZ := Lib.hid hd
      clear hd HDB hpl
      go_simp
      refine hK _ _ S6.out (fun _ => wpAnyH_done (by kernel_rfl) ?_ _)
      clear hK K
      have HONE : Hid (∀ v ∈ pcs 0 0 zs, v.oneCell' = true) := pcs_one
      have HPI : Hid ((Try.prog.info? 48).map (·.size) = some (pcs 0 0 zs).length) := page_info
      have HLE : Hid ((pcs 0 0 zs).length = zcs.length) := (rfl : _ = _)
      go_wp2_with ((with_reducible refine wpList_store_whole (op := ⟨none, _, _, _, _, _⟩) ?_ 48 (.tmp 4) (.tmp 66) ?_ w.heap.size (pcs 0 0 zs) ?_ ?_ 48 zcs HR6.out.r4 HLE.out HONE.out HPI.out ?_))
      all_goals try (first | rfl | (simp; done))
      intro w8 hr8 hg8
      have HRES := Lib.hid (run_loadVar_mid (P := Try.prog) w8 w.heap.size 0 48 (pcs 0 0 zs) _ (Row.all hr8) Try.underlying48 rfl HPI.out)
      have HB8 := Lib.hid (Below.grown HR6.out.hb hg8 (Below.size HR6.out.hb) (fun k hk => by have := Option.some.inj hk; omega))
      have HPO : Hid (PO w8 w.heap.size none_ zs) := PO.nil _ _
      clear hr8 hg8
      go_wp2
      refine bodyPost_ret (v := .tuple #[.agg (pcs 0 0 zs).toArray, .int .i64 160]) (res_cell_tmp (p := 4) (q := 5) (ty := 48) rfl _ _ ⟨w.heap.size, 0, none⟩ _ _ rfl HRES.out rfl) rfl ?_
      rw [HZ.out]
      exact ⟨_, rfl, HPO.out, HB8.out⟩
end Go.Proofs.Ytnljhopikjkflaa.Pg
