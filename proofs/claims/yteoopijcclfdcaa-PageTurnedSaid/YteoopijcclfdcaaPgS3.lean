/-
  PageTurned: a page of which up to three bits are turned is told to be none. No condition.
-/
import Derived.Test.YteoopijcclfdcaaPgO
import Derived.Test.YteoopijcclfdcaaPar
import Derived.Deep.Cut
import Derived.Deep.CutRange
import Derived.Great.BuildSlice
import Derived.Deep.SlicePairs
namespace Go.Proofs.Yteoopijcclfdcaa.PgTurn
set_option maxRecDepth 100000
open Go.RowKit Go.Proofs.Yteoopijcclfdcaa.Wd Go.Proofs.Yteoopijcclfdcaa.Oct Go.Proofs.Yteoopijcclfdcaa.Dsk Go.Proofs.Yteoopijcclfdcaa.Rec Go.Proofs.Yteoopijcclfdcaa.Pg Go.Proofs.Yteoopijcclfdcaa.Par Go.Proofs.Yteoopijcclfdcaa.Sm Go.ChangeShapes Go.WideShapes Go.ChangeAt

theorem own : ownKnob Try.prog.godebug = none := by kernel_rfl
theorem laidOut : laidOutB Try.prog = true := by kernel_rfl
theorem same_self (n : Int) (l : Nat) (f : Nat → List UInt8) : sameM n l f n l f = true := by simp [sameM, eq4]
theorem Ph_page {num : Int} {lsn : Nat} {sl : Nat → List UInt8} (h : okM num sl = true) : Ph (pageB num lsn sl) = false :=
  Ph_sum (bodyB num lsn sl) (bodyB_len (okM_iff.1 h).2)
/-- bytes of that parity are no page -/
theorem none_odd (number : Int) (h0 : 0 ≤ number ∧ number < 32) (c : List UInt8) (hl : c.length = 256) (h : Ph c = true) : decM number c = badP 160 := by
  have hz : c.all (· == 0) = false := by
    cases hz : c.all (· == 0)
    · rfl
    · exfalso
      have e := all_zero c hz
      rw [hl] at e
      rw [e, Ph_zero _ sum_zeros (by decide)] at h
      cases h
  have hg : good number c = false := by
    cases hg : good number c
    · rfl
    · exfalso
      unfold good at hg
      simp only [Bool.and_eq_true, decide_eq_true_eq] at hg
      have := Ph_page (lsn := rdLsn c) hg.1.1
      rw [hg.2, h] at this
      cases this
  unfold decM
  rw [if_pos h0, if_pos hl, if_neg (by rw [hz]; decide), if_neg (by rw [hg]; decide)]
def ox (x : Int) : Nat := (x % 2048).toNat
def fls (b : List UInt8) (x : Nat → Int) : Nat → List UInt8
  | 0 => b
  | k + 1 => fl (fls b x k) (ox (x k))
theorem ox_lt (x : Int) : ox x < 2048 := by unfold ox; omega
theorem fls_len (b : List UInt8) (x : Nat → Int) : ∀ k, (fls b x k).length = b.length
  | 0 => rfl
  | k + 1 => by rw [fls, fl_len, fls_len b x k]
theorem fls_ph (b : List UInt8) (x : Nat → Int) (hb : b.length = 256) (h : Ph b = false) : Ph (fls b x 3) = true := by
  rw [fls, Ph_fl _ (by rw [fls_len, hb]) _ (ox_lt _), fls, Ph_fl _ (by rw [fls_len, hb]) _ (ox_lt _), fls, Ph_fl (fls b x 0) hb _ (ox_lt _), show fls b x 0 = b from rfl, h]
  rfl
/-- three numbers -/
def tri (x : Nat → Int) : List Value := [.int .i64 (x 0), .int .i64 (x 1), .int .i64 (x 2)]
theorem tri_idx (x : Nat → Int) (k : Nat) (hk : k < 3) (u : World) : (Instr.index 60 (.agg (tri x).toArray) (.int .i64 (k : Int))).run Try.prog u = .ok (.int .i64 (x k)) u := by
  match k, hk with
  | 0, _ => exact show (Instr.index 60 (.agg (tri x).toArray) (.int .i64 0)).run Try.prog u = .ok (.int .i64 (x 0)) u by kernel_rfl
  | 1, _ => exact show (Instr.index 60 (.agg (tri x).toArray) (.int .i64 1)).run Try.prog u = .ok (.int .i64 (x 1)) u by kernel_rfl
  | 2, _ => exact show (Instr.index 60 (.agg (tri x).toArray) (.int .i64 2)).run Try.prog u = .ok (.int .i64 (x 2)) u by kernel_rfl
/-- the two boxes -/
structure Bt (w : World) (num : Int) (lsn : Nat) (s : PS) (x : Nat → Int) (w' : World) : Prop where
  ra : Row w' w.heap.size 28 (pcs num lsn s)
  rb : Row w' (w.heap.size + 1) 60 (tri x)
  hb : Below w.heap.size w w'
  sz : w.heap.size + 1 + 1 ≤ w'.heap.size
theorem Bt.new (w : World) (num : Int) (lsn : Nat) (s : PS) (x : Nat → Int) : Bt w num lsn s x ((w.alloc (.cells (pcs num lsn s).toArray 28)).alloc (.cells (tri x).toArray 60)) := by
  refine ⟨(Row.new w _ _).alloc _, ?_, ((Below.refl _ _).alloc (Nat.le_refl _) _).alloc (by simp) _, by simp⟩
  have := Row.new (w.alloc (.cells (pcs num lsn s).toArray 28)) 60 (tri x)
  rwa [World.size_alloc] at this
theorem Bt.then {w w1 w2 : World} {num : Int} {lsn : Nat} {s : PS} {x : Nat → Int} (h : Bt w num lsn s x w1) (hb : Below w1.heap.size w1 w2) : Bt w num lsn s x w2 :=
  ⟨h.ra.below hb (by have := h.sz; omega), h.rb.below hb (by have := h.sz; omega), h.hb.trans (hb.mono h.hb.size), Nat.le_trans h.sz hb.size⟩
theorem Bt.seta {w W W' : World} {num : Int} {lsn : Nat} {s s3 : PS} {x : Nat → Int} (h : Bt w num lsn s x W) (hr : Row W' w.heap.size 28 (pcs num lsn s3)) (hg : W.grownBy W' (some w.heap.size)) : Bt w num lsn s3 x W' :=
  ⟨hr, h.rb.grown hg (fun e => by have := Option.some.inj e; omega), h.hb.grown hg h.hb.size (fun k hk => by have := Option.some.inj hk; omega), Nat.le_trans h.sz hg.size⟩

/-- bytes at the head of a row -/
def Ob (w : World) (g cap : Nat) (l : List UInt8) : Prop := l.length ≤ cap ∧ ∃ cur, Row w g 5 cur ∧ cur.length = cap ∧ cur.take l.length = bv l
theorem Ob.of {w : World} {base : Nat} {v : Value} {l : List UInt8} (h : Own w base v l) (hl : 0 < l.length) : ∃ g cap, v = .slice (some ⟨g, 0, none⟩) l.length cap ∧ base ≤ g ∧ Ob w g cap l := by
  rcases h.2 with ⟨rfl, h0⟩ | ⟨g, cap, cur, rfl, hb, hg, hnc, hcm, hs, ht⟩
  · omega
  · exact ⟨g, cap, rfl, hb, hnc, cur.toList, hg, by simpa using hs, by simpa using ht⟩
theorem Ob.cell {w : World} {g cap : Nat} {l : List UInt8} (h : Ob w g cap l) (i : Nat) (hi : i < l.length) : w.cell? ⟨g, i, none⟩ = some (.int .u8 ((l.getD i 0).toNat : Int)) := by
  obtain ⟨hc, cur, hr, hcl, ht⟩ := h
  rw [hr.cell]
  have h1 : (bv l)[i]? = some (.int .u8 ((l.getD i 0).toNat : Int)) := by simp [bv, hi]
  rw [← ht, List.getElem?_take, if_pos hi] at h1
  exact h1
theorem Ob.frozen {w : World} {g cap : Nat} {l : List UInt8} (h : Ob w g cap l) (i : Nat) : w.frozen? ⟨g, i, none⟩ = false := by
  obtain ⟨hc, cur, hr, _⟩ := h
  exact hr.frozen i
theorem Ob.store {w : World} {g cap : Nat} {l : List UInt8} (h : Ob w g cap l) (i : Nat) (u : UInt8) : Ob (w.setCell ⟨g, i, none⟩ (.int .u8 (u.toNat : Int))) g cap (l.set i u) := by
  obtain ⟨hc, cur, hr, hcl, ht⟩ := h
  refine ⟨by simpa using hc, cur.set i (.int .u8 (u.toNat : Int)), hr.store i _, by simpa using hcl, ?_⟩
  rw [List.length_set, List.take_set, ht]
  simp [bv, List.map_set]
theorem Ob.lt {w : World} {g cap : Nat} {l : List UInt8} (h : Ob w g cap l) : g < w.heap.size := by
  obtain ⟨hc, cur, hr, _⟩ := h
  exact hr.lt
theorem Ob.bs {w : World} {g cap : Nat} {l : List UInt8} (h : Ob w g cap l) : Bs w w.heap.size (some ⟨g, 0, none⟩) l := fun _ =>
  ⟨g, 0, rfl, h.lt, fun i hi => by rw [Nat.zero_add]; exact h.cell i hi⟩

theorem okWide_array {P : Program} {w : World} {r : Reach} {base : Nat} {t : TypeId} {v : Value} {n : Nat} {e : TypeId} (ht : P.underlying t = some (.array n e)) (h : Value.okWide P w r base t v) : ∃ cs, v = .agg cs ∧ cs.size = P.cellsOf t := by
  simp only [Value.okWide, ht] at h
  obtain ⟨cs, h1, h2, _⟩ := h
  exact ⟨cs, h1, h2⟩
theorem cells_tri : Try.prog.cellsOf 60 = 3 := by kernel_rfl
theorem open_tri {H : Type} {enc : TypeId × Value → H} {W : World} {fuel : Nat} {cs : List Value} {X : DataW H × List MemPlace} (h : DataW.trod enc Try.prog W 0 (fun _ => true) true fuel 60 cs = some X) :
    ∃ x : Nat → Int, cs = tri x ∧ ∀ k, k < 3 → -9223372036854775808 ≤ x k ∧ x k ≤ 9223372036854775807 := by
  obtain ⟨_, _, _, _, hl, _, _⟩ := DataW.trod_array Try.underlying60 h
  rw [cells_tri] at hl
  match cs, hl with
  | [c0, c1, c2], _ =>
    obtain ⟨y0, y1, y2, n, _, g0, g1, g2⟩ := trod_array3 Try.underlying60 cells_int h
    obtain ⟨a0, e0, _, w0⟩ := DataW.trod_int Try.underlying3 g0
    obtain ⟨a1, e1, _, w1⟩ := DataW.trod_int Try.underlying3 g1
    obtain ⟨a2, e2, _, w2⟩ := DataW.trod_int Try.underlying3 g2
    simp at e0 e1 e2
    have u : ∀ z : Int, Lit.wf (.int .i64 z) = true → -9223372036854775808 ≤ z ∧ z ≤ 9223372036854775807 := fun z hz => by simpa [Lit.wf, IntKind.min, IntKind.max, IntKind.signed, IntKind.bits] using hz
    refine ⟨fun k => match k with | 0 => a0 | 1 => a1 | _ => a2, by simp [tri, e0, e1, e2], fun k hk => ?_⟩
    match k, hk with
    | 0, _ => exact u _ w0
    | 1, _ => exact u _ w1
    | 2, _ => exact u _ w2

set_option maxHeartbeats 4000000 in
theorem turn_walk (y : PX) (x : Nat → Int) (w : World) (hx : PgOk w y) (hxr : ∀ k, k < 3 → -9223372036854775808 ≤ x k ∧ x k ≤ 9223372036854775807) :
    Calls Try.prog 7 #[.agg y.cells.toArray, .agg (tri x).toArray] w fun e w' => e = .returned (.bool true) ∧ Below w.heap.size w w' := by
  have mixed : Try.prog.follows .mixedOrders = true := by kernel_rfl
  obtain ⟨i0, hi0, hz0, hz1, hz2⟩ := info_parts info5
  obtain ⟨num, lsn, f, s⟩ := y
  have HX := Lib.hid hx
  have HR := Lib.hid hxr
  have HIX := Lib.hid (tri_idx x)
  clear hx hxr
  unfold PX.cells
  dsimp only
  go_enter Try.func7, Try.ntmps7
  go_upto_region 1 with fail
  have HB := Lib.hid (Bt.new w num lsn s x)
  generalize (w.alloc (.cells (pcs num lsn s).toArray 28)).alloc (.cells (tri x).toArray 60) = w1 at HB ⊢
  go_wp2_with fail
  refine (wakes_any _).mono ?_
  rintro e w2 ⟨rfl, hb2⟩
  have HB2 := Lib.hid (HB.out.then hb2)
  clear hb2 HB
  have ha0 : w2.cell? ⟨w.heap.size, 0, none⟩ = some (.int .i64 num) := HB2.out.ra.cell 0
  have ha1 : w2.cell? ⟨w.heap.size, 1, none⟩ = some (.int .u64 (lsn : Int)) := HB2.out.ra.cell 1
  have ha2 : w2.cell? ⟨w.heap.size, 2, none⟩ = some (.slice (s.A 0) (s.n 0) (s.c 0)) := HB2.out.ra.cell 2
  have ha3 : w2.cell? ⟨w.heap.size, 3, none⟩ = some (.slice (s.A 1) (s.n 1) (s.c 1)) := HB2.out.ra.cell 3
  have ha4 : w2.cell? ⟨w.heap.size, 4, none⟩ = some (.slice (s.A 2) (s.n 2) (s.c 2)) := HB2.out.ra.cell 4
  have ha5 : w2.cell? ⟨w.heap.size, 5, none⟩ = some (.slice (s.A 3) (s.n 3) (s.c 3)) := HB2.out.ra.cell 5
  have HSH := Lib.hid (short_any num lsn f s w.heap.size w2 (HX.out.at_.below HB2.out.hb) HB2.out.hb.size)
  have HRZ : Hid (Row w2 w.heap.size 28 (pcs num lsn s)) := HB2.out.ra
  unfold pcs at HSH
  go_wp2_with fail
  refine HSH.out.mono ?_
  rintro e w3 ⟨s3, rfl, hpo3, hb3⟩
  have HB3 := Lib.hid (HB2.out.then hb3)
  have HPO3 := Lib.hid hpo3
  clear hpo3 hb3 HSH HB2 HRZ
  clear ha0 ha1 ha2 ha3 ha4 ha5
  have HONE : Hid (∀ v ∈ pcs num lsn s3, v.oneCell' = true) := pcs_one
  have HPI : Hid ((Try.prog.info? 28).map (·.size) = some (pcs num lsn s3).length) := page_info
  have HLE : Hid ((pcs num lsn s3).length = (pcs num lsn s).length) := (rfl : _ = _)
  go_upto_region 4 with ((with_reducible refine wpList_store_whole (op := ⟨none, _, _, _, _, _⟩) ?_ 28 (.tmp 2) (.tmp 15) ?_ w.heap.size (pcs num lsn s3) ?_ ?_ 28 (pcs num lsn s) HB3.out.ra HLE.out HONE.out HPI.out ?_))
  all_goals try (first | rfl | (simp; done))
  intro w4 hr hg
  have HB4 := Lib.hid (HB3.out.seta hr hg)
  have HPO4 : Hid (PO w4 w2.heap.size (shortS f) s3) := fun j hj => (HPO3.out j hj).kept hg (own_ne (HPO3.out j hj) HB3.out.ra (by decide))
  clear hr hg HB3 HPO3 HX HLE HONE HPI
  have HEN := Lib.hid (encode_any num lsn (shortS f) s3 w4.heap.size w4 HPO4.out.at_ (Nat.le_refl _))
  have HOKM := Lib.hid (okM_eq (num := num) HPO4.out.at_)
  generalize shortS f = g at HEN HOKM
  obtain ⟨K, hK⟩ : ∃ K, K = okN num s3.n := ⟨_, rfl⟩
  rw [← hK] at HEN HOKM
  have HKN := Lib.hid hK
  clear hK HPO4
  unfold Enc pcs at HEN
  have ha0 : w4.cell? ⟨w.heap.size, 0, none⟩ = some (.int .i64 num) := HB4.out.ra.cell 0
  have ha1 : w4.cell? ⟨w.heap.size, 1, none⟩ = some (.int .u64 (lsn : Int)) := HB4.out.ra.cell 1
  have ha2 : w4.cell? ⟨w.heap.size, 2, none⟩ = some (.slice (s3.A 0) (s3.n 0) (s3.c 0)) := HB4.out.ra.cell 2
  have ha3 : w4.cell? ⟨w.heap.size, 3, none⟩ = some (.slice (s3.A 1) (s3.n 1) (s3.c 1)) := HB4.out.ra.cell 3
  have ha4 : w4.cell? ⟨w.heap.size, 4, none⟩ = some (.slice (s3.A 2) (s3.n 2) (s3.c 2)) := HB4.out.ra.cell 4
  have ha5 : w4.cell? ⟨w.heap.size, 5, none⟩ = some (.slice (s3.A 3) (s3.n 3) (s3.c 3)) := HB4.out.ra.cell 5
  go_wp2_with fail
  refine HEN.out.mono ?_
  rintro e w5 ⟨v5, rfl, ho5, hb5⟩
  have HB5 := Lib.hid (HB4.out.then hb5)
  have HO5 := Lib.hid ho5
  clear hb5 ho5 HEN HB4
  clear ha0 ha1 ha2 ha3 ha4 ha5
  cases K
  · rw [show errP false = 160 from rfl]
    go_wp2
    go_ret
    exact ⟨rfl, HB5.out.hb⟩
  rw [show errP true = 0 from rfl]
  have HOK := Lib.hid (show okM num g = true from HOKM.out.symm)
  have HNR := Lib.hid (okM_iff.1 HOK.out).1
  have HPH := Lib.hid (Ph_page (lsn := lsn) HOK.out)
  have HPL := Lib.hid (pageB_len (num := num) (lsn := lsn) (okM_iff.1 HOK.out).2)
  have HO5' : Hid (Own w5 w4.heap.size v5 (pageB num lsn g)) := HO5.out
  clear HOKM HKN HOK HO5
  generalize pageB num lsn g = PB at HPH HPL HO5'
  obtain ⟨A5, n5, c5, rfl, hs5⟩ := HO5'.out.sl
  have HS5 := Lib.hid hs5
  obtain rfl : n5 = 256 := by have := HS5.out.len; have := HPL.out; omega
  clear hs5 HO5'
  go_upto_region 8 with (first
        | (at_builtin; (refine wpList_append_bs (o := ⟨some 27, _, _, _, _, _⟩) rfl (.tmp 25) (.tmp 26) 25 rfl w5.heap.size 5 i0 (.int .u8 0) Try.underlying25 hi0 hz0 hz1 hz2 rfl (.slice (some ⟨w5.heap.size, 0, none⟩) 0 0) 0 (bv []) rfl (Own.of_row (l := []) (Row.new w5 _ _) (Nat.le_refl _) rfl (Nat.zero_le _)) A5 256 c5 PB rfl HS5.out.len w5.heap.size (HS5.out.bs.alloc (Nat.le_refl _) _) HS5.out.nil (by omega) (by simp) ?_; intro v2 w6 hown2 hg2; have HG2 := Lib.hid (((Below.refl _ _).alloc (Nat.le_refl _) _).trans (below_own hg2 (fun k hk => by cases hk; exact Nat.le_refl _) (by simp))); have HO2 : Hid (Own w6 w5.heap.size v2 PB) := Lib.hid (show Own w6 w5.heap.size v2 PB from (by have hh := hown2; rw [show bv ([] : List UInt8) = [] from rfl, List.nil_append, Nat.zero_add] at hh; unfold Own; rw [HS5.out.len]; exact hh)); clear hown2 hg2)))
  obtain ⟨G, cap, rfl, hG, hob⟩ := Ob.of HO2.out (by have := HPL.out; omega)
  have HOB := Lib.hid hob
  rw [HPL.out]
  have hcap : 256 ≤ cap := by have := HOB.out.1; have := HPL.out; omega
  clear hob HO2
  have HB6 := Lib.hid (HB5.out.then HG2.out)
  have ht0 : w6.cell? ⟨w.heap.size + 1, 0, none⟩ = some (.int .i64 (x 0)) := HB6.out.rb.cell 0
  have ht1 : w6.cell? ⟨w.heap.size + 1, 1, none⟩ = some (.int .i64 (x 1)) := HB6.out.rb.cell 1
  have ht2 : w6.cell? ⟨w.heap.size + 1, 2, none⟩ = some (.int .i64 (x 2)) := HB6.out.rb.cell 2
  clear HB6
  unfold tri at HIX
  go_wp2_with fail
  clear ht0 ht1 ht2
  go_loopw [29] (fun t29 wr => ∃ k : Nat, k ≤ 3 ∧ t29 = .int .i64 (k : Int) ∧ Hid (Below w5.heap.size w5 wr ∧ Ob wr G cap (fls PB x k))) (fun t29 _ => 3 - (intOf t29).toNat)
  case atStart => exact ⟨0, by omega, rfl, ⟨HG2.out, HOB.out⟩⟩
  case round =>
    obtain ⟨k, hk, rfl, HI⟩ := hrel
    have HBW := Lib.hid HI.out.1
    have HOW := Lib.hid HI.out.2
    clear HI HG2 HOB
    by_cases hlt : k < 3
    · have h1 : (k : Int) < 3 := by omega
      have hix := HIX.out k hlt
      have hxr := HR.out k hlt
      have hxl := hxr.1
      have hxu := hxr.2
      clear hxr
      go_upto_region 12 with fail
      have hox : wrap64 ((IntKind.u64.wrap (x k)).tmod 2048) = ((ox (x k) : Nat) : Int) := by
        rw [IntKind.wrap_u64, Int.tmod_eq_emod_of_nonneg (by omega)]
        unfold wrap64 ox
        omega
      rw [hox]
      have ho := ox_lt (x k)
      have HFL : Hid (fls PB x (k + 1) = fl (fls PB x k) (ox (x k))) := (rfl : _ = _)
      have HLN : Hid ((fls PB x k).length = 256) := (show _ = _ by rw [fls_len, HPL.out])
      have HLN2 : Hid ((fls PB x (k + 1)).length = 256) := (show _ = _ by rw [fls_len, HPL.out])
      clear hox hix hxl hxu
      generalize ox (x k) = o at ho HFL ⊢
      generalize fls PB x k = L at HOW HFL HLN
      obtain ⟨i, hi⟩ : ∃ i : Nat, i = o / 8 := ⟨_, rfl⟩
      obtain ⟨r, hr⟩ : ∃ r : Nat, r = o % 8 := ⟨_, rfl⟩
      have hq : (o : Int).tdiv 8 = (i : Int) := by rw [Int.tdiv_eq_ediv_of_nonneg (by omega)]; omega
      have hq' : (o : Int) / 8 = (i : Int) := by omega
      have hr1 : (o : Int).tmod 8 = (r : Int) := by rw [Int.tmod_eq_emod_of_nonneg (by omega)]; omega
      have hr1' : (o : Int) % 8 = (r : Int) := by omega
      have hi1 : IntKind.i64.wrap (i : Int) = (i : Int) := by rw [IntKind.wrap_i64]; omega
      have hi2 : IntKind.i64.wrap (r : Int) = (r : Int) := by rw [IntKind.wrap_i64]; omega
      have hi256 : (i : Int) < 256 := by omega
      have hi0' : 0 ≤ (i : Int) := by omega
      have hr8 : (r : Int) < 8 := by omega
      have hr0 : 0 ≤ (r : Int) := by omega
      have HIO := Lib.hid hi
      have HRO := Lib.hid hr
      clear hi hr
      refine wp_region_held_drew (S := fun _ => True) (by kernel_rfl) trivial (fun hHeld => ?_)
      have HBX := Lib.hid (HBW.out.drew)
      have HOX : Hid (Ob wr.drew G cap L) := HOW.out
      clear HBW HOW
      generalize wr.drew = wx at HBX HOX ⊢
      refine wpAnyH_take (i := 0) (oi := ⟨some 36, _, _, _, _, _⟩) (v := ?v0t) rfl (by kernel_rfl) (by kernel_rfl) (by kernel_rfl) (fun _ _ _ h => h) (Or.inl ⟨by rfl, ?y0t⟩) trivial ?r0t
      case y0t =>
        rintro w' hSw
        go_simp
        try with_reducible rfl
      try simp only [Act.put, List.setIfInBounds_toArray, List.set_cons_zero, List.set_cons_succ]
      refine wpAnyH_take (i := 1) (oi := ⟨some 37, _, _, _, _, _⟩) (v := ?v1t) rfl (by kernel_rfl) (by kernel_rfl) (by kernel_rfl) (fun _ _ _ h => h) (Or.inl ⟨by rfl, ?y1t⟩) trivial ?r1t
      case y1t =>
        rintro w' hSw
        go_simp
        try with_reducible rfl
      try simp only [Act.put, List.setIfInBounds_toArray, List.set_cons_zero, List.set_cons_succ]
      refine wpAnyH_take (i := 2) (oi := ⟨some 38, _, _, _, _, _⟩) (v := ?v2t) rfl (by kernel_rfl) (by kernel_rfl) (by kernel_rfl) (fun _ _ _ h => h) (Or.inl ⟨by rfl, ?y2t⟩) trivial ?r2t
      case y2t =>
        rintro w' hSw
        go_simp
        try with_reducible rfl
      try simp only [Act.put, List.setIfInBounds_toArray, List.set_cons_zero, List.set_cons_succ]
      refine wpAnyH_take (i := 3) (oi := ⟨some 39, _, _, _, _, _⟩) (v := ?v3t) rfl (by kernel_rfl) (by kernel_rfl) (by kernel_rfl) (fun _ _ _ h => h) (Or.inl ⟨by rfl, ?y3t⟩) trivial ?r3t
      case y3t =>
        rintro w' hSw
        go_simp
        try with_reducible rfl
      try simp only [Act.put, List.setIfInBounds_toArray, List.set_cons_zero, List.set_cons_succ]
      refine wpAnyH_take (i := 5) (oi := ⟨some 41, _, _, _, _, _⟩) (v := ?v5t) rfl (by kernel_rfl) (by kernel_rfl) (by kernel_rfl) (fun _ _ _ h => h) (Or.inl ⟨by rfl, ?y5t⟩) trivial ?r5t
      case y5t =>
        rintro w' hSw
        go_simp
        try with_reducible rfl
      try simp only [Act.put, List.setIfInBounds_toArray, List.set_cons_zero, List.set_cons_succ]
      refine wpAnyH_take (i := 6) (oi := ⟨some 42, _, _, _, _, _⟩) (v := ?v6t) rfl (by kernel_rfl) (by kernel_rfl) (by kernel_rfl) (fun _ _ _ h => h) (Or.inl ⟨by rfl, ?y6t⟩) trivial ?r6t
      case y6t =>
        rintro w' hSw
        go_simp
        try with_reducible rfl
      try simp only [Act.put, List.setIfInBounds_toArray, List.set_cons_zero, List.set_cons_succ]
      refine wpAnyH_take (i := 7) (oi := ⟨some 43, _, _, _, _, _⟩) (v := ?v7t) rfl (by kernel_rfl) (by kernel_rfl) (by kernel_rfl) (fun _ _ _ h => h) (Or.inl ⟨by rfl, ?y7t⟩) trivial ?r7t
      case y7t =>
        rintro w' hSw
        go_simp
        try with_reducible rfl
      try simp only [Act.put, List.setIfInBounds_toArray, List.set_cons_zero, List.set_cons_succ]
      have hmk : (128 : Int) / 2 ^ r = ((mk o).toNat : Int) := by
        have h1 : 128 / 2 ^ r < 256 := Nat.lt_of_le_of_lt (Nat.div_le_self _ _) (by omega)
        unfold mk
        rw [← HRO.out]
        show _ = ((128 / 2 ^ r % 256 : Nat) : Int)
        rw [Nat.mod_eq_of_lt h1]
        push_cast
        rfl
      rw [hmk]
      clear hmk hq hq' hr1 hr1' hi1 hi2 hr8 hr0
      obtain ⟨u, hu⟩ : ∃ u, u = L.getD i 0 := ⟨_, rfl⟩
      have hcl : wx.cell? ⟨G, i, none⟩ = some (.int .u8 (u.toNat : Int)) := by rw [hu]; exact HOX.out.cell i (by have := HLN.out; omega)
      have HU := Lib.hid hu
      clear hu
      have hfr := HOX.out.frozen i
      have hxx := u8_xor_v u (mk o)
      refine wpAnyH_ready (rs := [4]) (by kernel_rfl) (by simp) ?_
      refine AllReadyH.cons rfl (fun K hK => ?_) AllReadyH.nil
      go_simp
      refine hK _ _ trivial (fun _ => ?_)
      clear hK K
      try simp only [Act.put, List.setIfInBounds_toArray, List.set_cons_zero, List.set_cons_succ]
      refine wpAnyH_take (i := 8) (oi := ⟨some 44, _, _, _, _, _⟩) (v := ?v8t) rfl (by kernel_rfl) (by kernel_rfl) (by kernel_rfl) (fun _ _ _ h => h) (Or.inl ⟨by rfl, ?y8t⟩) trivial ?r8t
      case y8t =>
        rintro w' hSw
        go_simp
        try with_reducible rfl
      try simp only [Act.put, List.setIfInBounds_toArray, List.set_cons_zero, List.set_cons_succ]
      refine wpAnyH_take (i := 9) (oi := ⟨some 45, _, _, _, _, _⟩) (v := ?v9t) rfl (by kernel_rfl) (by kernel_rfl) (by kernel_rfl) (fun _ _ _ h => h) (Or.inl ⟨by rfl, ?y9t⟩) trivial ?r9t
      case y9t =>
        rintro w' hSw
        go_simp
        try with_reducible rfl
      try simp only [Act.put, List.setIfInBounds_toArray, List.set_cons_zero, List.set_cons_succ]
      refine wpAnyH_ready (rs := [10]) (by kernel_rfl) (by simp) ?_
      refine AllReadyH.cons rfl (fun K hK => ?_) AllReadyH.nil
      go_simp
      have HNX : Hid (Below w5.heap.size w5 (wx.setCell ⟨G, i, none⟩ (.int .u8 ((u ^^^ mk o).toNat : Int))) ∧ Ob (wx.setCell ⟨G, i, none⟩ (.int .u8 ((u ^^^ mk o).toNat : Int))) G cap (fls PB x (k + 1))) := by
        refine ⟨HBX.out.setCell (p := ⟨G, i, none⟩) hG _, ?_⟩
        rw [HFL.out]
        unfold fl
        rw [← HIO.out, ← HU.out]
        exact HOX.out.store i _
      rw [UInt8.toNat_xor] at HNX
      generalize wx.setCell ⟨G, i, none⟩ (.int .u8 ((u.toNat ^^^ (mk o).toNat : Nat) : Int)) = wy at HNX ⊢
      clear hcl hfr hxx HBX HOX HFL HLN HIO HRO
      refine hK _ _ trivial (fun _ => ?_)
      clear hK K
      try simp only [Act.put, List.setIfInBounds_toArray, List.set_cons_zero, List.set_cons_succ]
      refine wpAnyH_done (by kernel_rfl) ?_ _
      go_wp2
      go_roundw
      case rel => exact ⟨k + 1, by omega, by go_num, HNX⟩
      case measure => simp [intOf]; omega
    · obtain rfl : k = 3 := by omega
      have HPC := Lib.hid (fls_ph PB x HPL.out HPH.out)
      have HLC : Hid ((fls PB x 3).length = 256) := (show _ = _ by rw [fls_len, HPL.out])
      have HBr := Lib.hid (HB5.out.then HBW.out)
      have HSr := Lib.hid (HS5.out.below HBW.out)
      clear HB5 HS5 HPH HIX HR
      generalize fls PB x 3 = C at HOW HPC HLC
      go_wp2_with fail
      refine (bytesEq_any A5 (some ⟨G, 0, none⟩) 256 c5 256 cap PB C w5.heap.size wr.heap.size wr HSr.out.len HLC.out HSr.out.bs HOW.out.bs).mono ?_
      rintro e w7 ⟨rfl, rfl⟩
      cases hEq : decide (PB = C)
      case true =>
        clear hEq
        go_wp2
        go_ret
        exact ⟨rfl, HBr.out.hb⟩
      clear hEq HSr HPL HBW
      have hp0 : wr.cell? ⟨w.heap.size, 0, none⟩ = some (.int .i64 num) := HBr.out.ra.cell 0
      have HDE := Lib.hid (decode_any num (some ⟨G, 0, none⟩) 256 cap C wr HLC.out (by omega) HOW.out.bs (fun hh => by cases hh))
      rw [none_odd num HNR.out C HLC.out HPC.out] at HDE
      unfold badP at HDE
      clear HOW HPC HLC
      go_wp2_with fail
      refine HDE.out.mono ?_
      rintro e w8 ⟨z, rfl, hpo8, hb8⟩
      have HB8 := Lib.hid (HBr.out.hb.trans (hb8.mono HBr.out.hb.size))
      have HPG8 := Lib.hid hpo8.at_
      clear hpo8 hb8 HDE HBr hp0
      unfold pcs
      go_upto_region 17 with fail
      have HX7 := Lib.hid (boxed w8 0 0 z)
      unfold pcs at HX7
      rw [show ((0 : Nat) : Int) = 0 from rfl] at HX7
      have HB7 := Lib.hid (HB8.out.trans (HX7.out.hb.mono HB8.out.size))
      have HPG7 := Lib.hid ((HPG8.out.below HX7.out.hb).more HX7.out.hb.size)
      generalize w8.alloc (.cells #[.int .i64 0, .int .u64 0, .slice (z.A 0) (z.n 0) (z.c 0), .slice (z.A 1) (z.n 1) (z.c 1), .slice (z.A 2) (z.n 2) (z.c 2), .slice (z.A 3) (z.n 3) (z.c 3)] 28) = w7 at HX7 HB7 HPG7 ⊢
      have HR7 := Lib.hid HX7.out.row
      clear HX7 HB8 HPG8
      generalize w8.heap.size = P at HR7 ⊢
      have ha0 : w7.cell? ⟨P, 0, none⟩ = some (.int .i64 0) := HR7.out.cell 0
      have ha1 : w7.cell? ⟨P, 1, none⟩ = some (.int .u64 0) := HR7.out.cell 1
      have ha2 : w7.cell? ⟨P, 2, none⟩ = some (.slice (z.A 0) (z.n 0) (z.c 0)) := HR7.out.cell 2
      have ha3 : w7.cell? ⟨P, 3, none⟩ = some (.slice (z.A 1) (z.n 1) (z.c 1)) := HR7.out.cell 3
      have ha4 : w7.cell? ⟨P, 4, none⟩ = some (.slice (z.A 2) (z.n 2) (z.c 2)) := HR7.out.cell 4
      have ha5 : w7.cell? ⟨P, 5, none⟩ = some (.slice (z.A 3) (z.n 3) (z.c 3)) := HR7.out.cell 5
      have HSM := Lib.hid (psame_any 0 0 z none_ 0 0 zs none_ w7.heap.size w7 HPG7.out (PO.nil w7 w7.heap.size).at_ (Nat.le_refl _) (fun k hk => by rw [← HPG7.out.lens k hk]; show 0 ≤ _; omega))
      rw [same_self] at HSM
      unfold pcs zs at HSM
      go_wp2_with fail
      refine HSM.out.mono ?_
      rintro e w9 ⟨rfl, hb9⟩
      have HB9 := Lib.hid (HB7.out.trans (hb9.mono HB7.out.size))
      clear hb9
      go_wp2
      go_ret
      exact ⟨rfl, HB9.out⟩

theorem resT_PageTurned : Try.f7.resultTypes = #[4] := by kernel_rfl
set_option maxRecDepth 100000 in
theorem lifted_PageTurned (os : Os) (started : os.Started) (H : Type) (enc : TypeId × Value → H) :
    ReturnsInHanded {} Try.checked os 7 .any (Rows.pageTurnedSpec.pre6 enc Try.prog Try.f7 Rows.pageTurnedRow.domain false) (Rows.pageTurnedSpec.post enc Try.prog Try.f7 false true false false) := by
  refine Lift.law_lift (C := Try.checked) (s := Rows.pageTurnedSpec) (tb := 4) own laidOut started (by kernel_rfl) Try.func7
    (ChangeSpec.witness6 (enc := enc) (C := Try.checked) false ⟨#[], #[.agg #[.int .i64 0, .int .u64 0, .slice none 0 0, .slice none 0 0, .slice none 0 0, .slice none 0 0], .agg #[.int .i64 0, .int .i64 0, .int .i64 0]], []⟩ 8 (by kernel_rfl) (by kernel_rfl) (by kernel_rfl) (by kernel_rfl))
    rfl resT_PageTurned Try.underlying4 (by
      have hr : ∀ t ∈ ([28, 60] : List TypeId), Try.prog.readableRec t = true ∧ t < Try.prog.types.size := by
        intro t ht
        simp only [List.mem_cons, List.not_mem_nil, or_false] at ht
        rcases ht with rfl | rfl <;> exact ⟨by kernel_rfl, of_decide_eq_true (by kernel_rfl)⟩
      intro t ht
      exact hr t (by
        have ht' : t ∈ Try.f7.params.toList := ht
        rw [Try.params7] at ht'
        exact ht')) ?_
  intro W base args ds p hval0 hA0 hsz0
  have hval : ∀ (j : Nat) t v, Try.f7.params[j]? = some t → args[j]? = some v → Value.okWide Try.prog W .any base t v := hval0
  have hA : DataW.TrodAll enc Try.prog W 0 (fun _ => true) true Try.f7.params.toList args.toList ds p := hA0
  have hsz : (DataW.weightsEach Try.prog Try.f7.params.toList ds).all (· ≤ reachBytes) = true := hsz0
  clear hval0 hA0 hsz0
  rw [Try.params7] at hA hval hsz
  obtain ⟨v0, vs0, d0, ds0, p0, q0, hargs, rfl, rfl, h0, r0⟩ := trodAll_cons hA
  obtain ⟨v1, vs1, d1, ds1, p1, q1, rfl, rfl, rfl, h1, r1⟩ := trodAll_cons r0
  obtain ⟨rfl, rfl, rfl⟩ := trodAll_nil r1
  obtain rfl : args = #[v0, v1] := by cases args; simp_all
  obtain ⟨cs0, rfl, _⟩ := okWide_struct Try.underlying28 (hval 0 28 v0 rfl rfl)
  obtain ⟨fuel0, hf0⟩ := h0
  obtain ⟨o0, hcs0, hok0⟩ := open_page hf0 (by rw [List.all_eq_true] at hsz ⊢; intro z hz; exact hsz z (DataW.weights_mem_each (j := 0) (t := 28) (d := d0) rfl rfl z hz))
  have hv0 : Value.agg cs0 = .agg o0.cells.toArray := by
    have : cs0.toList = o0.cells := by simpa [Value.cells] using hcs0
    rw [← this]
  rw [hv0]
  obtain ⟨cs1, rfl, _⟩ := okWide_array Try.underlying60 (hval 1 60 v1 rfl rfl)
  obtain ⟨fuel1, hf1⟩ := h1
  obtain ⟨x1, hcs1, hxr1⟩ := open_tri hf1
  have hv1 : Value.agg cs1 = .agg (tri x1).toArray := by
    have : cs1.toList = tri x1 := by simpa [Value.cells] using hcs1
    rw [← this]
  rw [hv1]
  exact ⟨rfl, turn_walk o0 x1 W hok0 hxr1⟩

theorem proved_PageTurned : Rows.PageTurnedSaid :=
  OpenClaim.holds_of_wide 7 Try.f7 rfl rfl rfl rfl rfl rfl rfl ⟨rfl, rfl, rfl, rfl, rfl⟩ rfl rfl rfl rfl rfl (by kernel_rfl) Try.func7 (by kernel_rfl)
    (of_decide_eq_true (by kernel_rfl)) (by unfold Func.isWrapper; first | (rw [if_pos (by decide +kernel)]; kernel_rfl) | (rw [if_neg (by decide +kernel)]; exact ⟨rfl, rfl⟩))
    (fun os started H enc _ => lifted_PageTurned os started H enc)
end Go.Proofs.Yteoopijcclfdcaa.PgTurn
