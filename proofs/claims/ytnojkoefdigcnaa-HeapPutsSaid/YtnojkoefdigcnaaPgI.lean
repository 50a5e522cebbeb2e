/-
  The reference's Copy; short.
-/
import Derived.Test.YtnojkoefdigcnaaPgH
namespace Go.Proofs.Ytnojkoefdigcnaa.Pg
set_option maxRecDepth 100000
open Go.RowKit Go.Proofs.Ytnojkoefdigcnaa.Wd Go.Proofs.Ytnojkoefdigcnaa.Oct Go.Proofs.Ytnojkoefdigcnaa.Dsk Go.Proofs.Ytnojkoefdigcnaa.Rec Go.Proofs.Ytnojkoefdigcnaa.Sum Go.Proofs.Ytnojkoefdigcnaa.Sm

/-- a page in a box, and a result's variable -/
structure Cp (w : World) (num : Int) (lsn : Nat) (k : Nat) (sl : Nat → List UInt8) (s : PS) (W : World) : Prop where
  r1 : Row W w.heap.size 73 (pcs num lsn s)
  r2 : Row W (w.heap.size + 1) 73 zcs
  own : ∀ j, j < k → Own W w.heap.size (.slice (s.A j) (s.n j) (s.c j)) (sl j)
  hb : Below w.heap.size w W
  sz : w.heap.size + 1 + 1 ≤ W.heap.size
section
variable {w W W' : World} {num : Int} {lsn : Nat} {k : Nat} {sl : Nat → List UInt8} {s : PS}
theorem Cp.new (w : World) (num : Int) (lsn : Nat) (sl : Nat → List UInt8) (s : PS) : Cp w num lsn 0 sl s ((w.alloc (.cells (pcs num lsn s).toArray 73)).alloc (.cells zcs.toArray 73)) := by
  refine ⟨(Row.new w _ _).alloc _, ?_, fun j hj => by omega, ((Below.refl _ _).alloc (Nat.le_refl _) _).alloc (by simp) _, by simp⟩
  have := Row.new (w.alloc (.cells (pcs num lsn s).toArray 73)) 73 zcs
  rwa [World.size_alloc] at this
theorem Cp.then (h : Cp w num lsn k sl s W) (hb : Below W.heap.size W W') : Cp w num lsn k sl s W' :=
  ⟨h.r1.below hb (by have := h.sz; omega), h.r2.below hb (by have := h.sz; omega), fun j hj => (h.own j hj).below hb, h.hb.trans (hb.mono h.hb.size), Nat.le_trans h.sz hb.size⟩
theorem Cp.set (h : Cp w num lsn k sl s W) (hk : k < 4) (A : Option Addr) (n c : Nat) (hv : Own W w.heap.size (.slice A n c) (sl k)) : Cp w num lsn (k + 1) sl (s.set k A n c) (W.setCell ⟨w.heap.size, 2 + k, none⟩ (.slice A n c)) := by
  have hgr := grown_store W w.heap.size (2 + k) (.slice A n c)
  refine ⟨?_, h.r2.far (p := ⟨w.heap.size, 2 + k, none⟩) (by show w.heap.size + 1 ≠ w.heap.size; omega) _, fun j hj => ?_, h.hb.setCell (p := ⟨w.heap.size, 2 + k, none⟩) (Nat.le_refl _) _, by simpa [World.setCell] using h.sz⟩
  · have := h.r1.store (2 + k) (.slice A n c)
    rwa [pcs_set hk] at this
  · by_cases hjk : j = k
    · subst hjk
      simp only [PS.set, upd_at]
      exact hv.kept hgr (own_ne hv h.r1 (by decide))
    · simp only [PS.set, upd_not _ _ hjk]
      exact (h.own j (by omega)).kept hgr (own_ne (h.own j (by omega)) h.r1 (by decide))
/-- a slot is set that need not be one's own -/
theorem Cp.set0 (h : Cp w num lsn 0 sl s W) (hk : k < 4) (A : Option Addr) (n c : Nat) : Cp w num lsn 0 sl (s.set k A n c) (W.setCell ⟨w.heap.size, 2 + k, none⟩ (.slice A n c)) := by
  refine ⟨?_, h.r2.far (p := ⟨w.heap.size, 2 + k, none⟩) (by show w.heap.size + 1 ≠ w.heap.size; omega) _, fun j hj => by omega, h.hb.setCell (p := ⟨w.heap.size, 2 + k, none⟩) (Nat.le_refl _) _, by simpa [World.setCell] using h.sz⟩
  have := h.r1.store (2 + k) (.slice A n c)
  rwa [pcs_set hk] at this
end

set_option maxHeartbeats 2000000 in
theorem copy_any (num : Int) (lsn : Nat) (sl : Nat → List UInt8) (s : PS) (B : Nat) (w : World) (h : PgAt w B sl s) (hB : B ≤ w.heap.size) (hm : ∀ k, k < 4 → s.n k ≤ 100000) :
    Calls Try.prog 40 #[.agg (pcs num lsn s).toArray] w fun e w' => ∃ s', e = .returned (.agg (pcs num lsn s').toArray) ∧ PO w' w.heap.size sl s' ∧ Below w.heap.size w w' := by
  obtain ⟨i0, hi, hz0, hz1, hz2⟩ := info_parts info5
  have HP := Lib.hid h
  have HM := Lib.hid hm
  have HIX := Lib.hid (idx_any s)
  unfold scs at HIX
  clear h hm
  obtain ⟨PL, hPL⟩ : ∃ PL, PL = pcs num lsn s := ⟨_, rfl⟩
  unfold pcs
  go_enter Try.func40, Try.ntmps40
  go_upto_region 1 with fail
  have HC := Lib.hid (Cp.new w num lsn sl s)
  rw [show pcs num lsn s = [.int .i64 num, .int .u64 (lsn : Int), .slice (s.A 0) (s.n 0) (s.c 0), .slice (s.A 1) (s.n 1) (s.c 1), .slice (s.A 2) (s.n 2) (s.c 2), .slice (s.A 3) (s.n 3) (s.c 3)] from rfl, show zcs = [.int .i64 0, .int .u64 0, .slice none 0 0, .slice none 0 0, .slice none 0 0, .slice none 0 0] from rfl] at HC
  generalize (w.alloc (.cells #[.int .i64 num, .int .u64 (lsn : Int), .slice (s.A 0) (s.n 0) (s.c 0), .slice (s.A 1) (s.n 1) (s.c 1), .slice (s.A 2) (s.n 2) (s.c 2), .slice (s.A 3) (s.n 3) (s.c 3)] 73)).alloc (.cells #[.int .i64 0, .int .u64 0, .slice none 0 0, .slice none 0 0, .slice none 0 0, .slice none 0 0] 73) = w1 at HC ⊢
  clear hPL
  have ha2 : w1.cell? ⟨w.heap.size, 2, none⟩ = some (.slice (s.A 0) (s.n 0) (s.c 0)) := HC.out.r1.cell 2
  have ha3 : w1.cell? ⟨w.heap.size, 3, none⟩ = some (.slice (s.A 1) (s.n 1) (s.c 1)) := HC.out.r1.cell 3
  have ha4 : w1.cell? ⟨w.heap.size, 4, none⟩ = some (.slice (s.A 2) (s.n 2) (s.c 2)) := HC.out.r1.cell 4
  have ha5 : w1.cell? ⟨w.heap.size, 5, none⟩ = some (.slice (s.A 3) (s.n 3) (s.c 3)) := HC.out.r1.cell 5
  go_wp2_with fail
  clear ha2 ha3 ha4 ha5
  go_loopw [7] (fun t7 wr => ∃ k : Nat, k ≤ 4 ∧ t7 = .int .i64 (k : Int) ∧ Hid (∃ s', Cp w num lsn k sl s' wr)) (fun t7 _ => 4 - (intOf t7).toNat)
  case atStart => exact ⟨0, by omega, rfl, ⟨s, HC.out⟩⟩
  case round =>
    obtain ⟨k, hk, rfl, HE⟩ := hrel
    clear HC
    obtain ⟨s', hc⟩ := HE.out
    have HC := Lib.hid hc
    clear hc HE
    by_cases hlt : k < 4
    · have h1 : (k : Int) < 4 := by omega
      have h0 : 0 ≤ (k : Int) := by omega
      have hix := HIX.out k hlt
      have HSK := Lib.hid ((HP.out k hlt).below (HC.out.hb.mono hB))
      have hcl : wr.cell? ⟨w.heap.size, 2 + k, none⟩ = some (.slice (s'.A k) (s'.n k) (s'.c k)) := pcs_cell HC.out.r1 k hlt
      have hnk := HM.out k hlt
      go_upto_region 5 with (first
        | (at_builtin; (refine wpList_append_bs (o := ⟨some 14, _, _, _, _, _⟩) rfl (.tmp 12) (.tmp 13) 31 rfl wr.heap.size 5 i0 (.int .u8 0) Try.underlying31 hi hz0 hz1 hz2 rfl (.slice (some ⟨wr.heap.size, 0, none⟩) 0 0) 0 (bv []) rfl (Own.of_row (l := []) (Row.new wr _ _) (Nat.le_refl _) rfl (Nat.zero_le _)) (s.A k) (s.n k) (s.c k) (sl k) rfl HSK.out.len B (HSK.out.bs.alloc (Nat.le_trans hB HC.out.hb.size) _) HSK.out.nil (by omega) (by simp) ?_; intro v2 w2 hown2 hg2; have HG2 := Lib.hid (((Below.refl _ _).alloc (Nat.le_refl _) _).trans (below_own hg2 (fun k hk => by cases hk; exact Nat.le_refl _) (by simp))); have HO2 : Hid (Own w2 wr.heap.size v2 (sl k)) := Lib.hid (show Own w2 wr.heap.size v2 (sl k) from (by have hh := hown2; rw [show bv ([] : List UInt8) = [] from rfl, List.nil_append, Nat.zero_add] at hh; unfold Own; rw [HSK.out.len]; exact hh)); clear hown2 hg2; obtain ⟨A2, n2, c2, rfl, _⟩ := HO2.out.open; have HC2 := Lib.hid (HC.out.then HG2.out); have hcl2 : w2.cell? ⟨w.heap.size, 2 + k, none⟩ = some (.slice (s'.A k) (s'.n k) (s'.c k)) := pcs_cell HC2.out.r1 k hlt; have hfr2 := HC2.out.r1.frozen (2 + k))))
      have HC3 := Lib.hid (HC2.out.set hlt A2 n2 c2 (HO2.out.mono HC.out.hb.size))
      generalize w2.setCell ⟨w.heap.size, 2 + k, none⟩ (.slice A2 n2 c2) = w3 at HC3 ⊢
      clear hcl hcl2 hfr2 HC2 HC HO2 HG2 hix HSK
      go_wp2
      go_roundw
      case rel => exact ⟨k + 1, by omega, by go_num, ⟨_, HC3.out⟩⟩
      case measure => simp [intOf]; omega
    · obtain rfl : k = 4 := by omega
      have ha0 : wr.cell? ⟨w.heap.size, 0, none⟩ = some (.int .i64 num) := HC.out.r1.cell 0
      have ha1 : wr.cell? ⟨w.heap.size, 1, none⟩ = some (.int .u64 (lsn : Int)) := HC.out.r1.cell 1
      have ha2 : wr.cell? ⟨w.heap.size, 2, none⟩ = some (.slice (s'.A 0) (s'.n 0) (s'.c 0)) := HC.out.r1.cell 2
      have ha3 : wr.cell? ⟨w.heap.size, 3, none⟩ = some (.slice (s'.A 1) (s'.n 1) (s'.c 1)) := HC.out.r1.cell 3
      have ha4 : wr.cell? ⟨w.heap.size, 4, none⟩ = some (.slice (s'.A 2) (s'.n 2) (s'.c 2)) := HC.out.r1.cell 4
      have ha5 : wr.cell? ⟨w.heap.size, 5, none⟩ = some (.slice (s'.A 3) (s'.n 3) (s'.c 3)) := HC.out.r1.cell 5
      have HONE : Hid (∀ v ∈ pcs num lsn s', v.oneCell' = true) := pcs_one
      have HPI : Hid ((Try.prog.info? 73).map (·.size) = some (pcs num lsn s').length) := page_info
      have HLE : Hid ((pcs num lsn s').length = zcs.length) := (rfl : _ = _)
      go_wp2_with ((with_reducible refine wpList_store_whole (op := ⟨none, _, _, _, _, _⟩) ?_ 73 (.tmp 2) (.tmp 18) ?_ (w.heap.size + 1) (pcs num lsn s') ?_ ?_ 73 zcs HC.out.r2 HLE.out HONE.out HPI.out ?_))
      all_goals try (first | rfl | (simp; done))
      intro w8 hr8 hg8
      have HRES := Lib.hid (run_loadVar_mid (P := Try.prog) w8 (w.heap.size + 1) 0 73 (pcs num lsn s') _ (Row.all hr8) Try.underlying73 rfl HPI.out)
      have HB8 := Lib.hid (HC.out.hb.grown hg8 HC.out.hb.size (fun k hk => by have := Option.some.inj hk; omega))
      have HPO : Hid (PO w8 w.heap.size sl s') := fun j hj => (HC.out.own j hj).kept hg8 (own_ne (HC.out.own j hj) HC.out.r2 (by decide))
      clear hr8 hg8
      go_wp2
      exact bodyPost_ret (v := .agg (pcs num lsn s').toArray) (results_cell (p := 2) (ty := 73) rfl _ _ ⟨w.heap.size + 1, 0, none⟩ _ rfl HRES.out) rfl ⟨s', rfl, HPO.out, HB8.out⟩
def shortS (sl : Nat → List UInt8) : Nat → List UInt8 := fun k => (sl k).take 53
theorem Bs.pre {w : World} {B : Nat} {A : Option Addr} {l : List UInt8} (h : Bs w B A l) (k : Nat) : Bs w B A (l.take k) := fun hp => by
  have hp' : 0 < l.length := by rw [List.length_take] at hp; omega
  obtain ⟨b, o, e, hlt, hc⟩ := h hp'
  refine ⟨b, o, e, hlt, fun i hi => ?_⟩
  rw [List.length_take] at hi
  rw [hc i (by omega)]
  simp [List.getD_eq_getElem?_getD, List.getElem?_take, show i < k from by omega]
theorem Sl.pre {w : World} {B : Nat} {A : Option Addr} {n c : Nat} {l : List UInt8} (h : Sl w B A n c l) (k m : Nat) (hm : m = min k n) : Sl w B A m c (l.take k) :=
  ⟨by rw [List.length_take, h.len, hm], by have := h.cap; omega, h.most, h.nil, Bs.pre h.bs k⟩
end Go.Proofs.Ytnojkoefdigcnaa.Pg
