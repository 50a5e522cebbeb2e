/-
  asked, Get, Set.
-/
import Derived.Test.YtnojkoefdigcnaaPgI
namespace Go.Proofs.Ytnojkoefdigcnaa.Pg
set_option maxRecDepth 100000
open Go.RowKit Go.Proofs.Ytnojkoefdigcnaa.Wd Go.Proofs.Ytnojkoefdigcnaa.Oct Go.Proofs.Ytnojkoefdigcnaa.Dsk Go.Proofs.Ytnojkoefdigcnaa.Rec Go.Proofs.Ytnojkoefdigcnaa.Sum Go.Proofs.Ytnojkoefdigcnaa.Sm

/-- what is wrong with a page, or with a slot that is asked for -/
def askE (K : Bool) (slot : Int) : Int := if K = true then (if 0 ≤ slot ∧ slot < 4 then 0 else 2) else 160
theorem ask_no (slot : Int) : askE false slot = 160 := rfl
theorem ask_in {slot : Int} (h : 0 ≤ slot ∧ slot < 4) : askE true slot = 0 := by unfold askE; rw [if_pos rfl, if_pos h]
theorem ask_out {slot : Int} (h : ¬ (0 ≤ slot ∧ slot < 4)) : askE true slot = 2 := by unfold askE; rw [if_pos rfl, if_neg h]

set_option maxHeartbeats 1000000 in
theorem asked_any (num : Int) (lsn : Nat) (s : PS) (slot : Int) (w : World) : Calls Try.prog 50 #[.agg (pcs num lsn s).toArray, .int .i64 slot] w fun e w' => e = .returned (.int .i64 (askE (okN num s.n) slot)) ∧ Below w.heap.size w w' := by
  have HCH := Lib.hid (fun (W : World) => check_any num lsn s W)
  generalize okN num s.n = K at HCH ⊢
  obtain ⟨E, hE⟩ : ∃ E, E = askE K slot := ⟨_, rfl⟩
  rw [← hE]
  have HE := Lib.hid hE
  clear hE
  unfold pcs at HCH ⊢
  go_enter Try.func50, Try.ntmps50
  go_upto_region 1 with fail
  have HB := Lib.hid (boxed w num lsn s)
  unfold pcs at HB
  generalize w.alloc (.cells #[.int .i64 num, .int .u64 (lsn : Int), .slice (s.A 0) (s.n 0) (s.c 0), .slice (s.A 1) (s.n 1) (s.c 1), .slice (s.A 2) (s.n 2) (s.c 2), .slice (s.A 3) (s.n 3) (s.c 3)] 73) = w1 at HB ⊢
  have ha0 : w1.cell? ⟨w.heap.size, 0, none⟩ = some (.int .i64 num) := HB.out.row.cell 0
  have ha1 : w1.cell? ⟨w.heap.size, 1, none⟩ = some (.int .u64 (lsn : Int)) := HB.out.row.cell 1
  have ha2 : w1.cell? ⟨w.heap.size, 2, none⟩ = some (.slice (s.A 0) (s.n 0) (s.c 0)) := HB.out.row.cell 2
  have ha3 : w1.cell? ⟨w.heap.size, 3, none⟩ = some (.slice (s.A 1) (s.n 1) (s.c 1)) := HB.out.row.cell 3
  have ha4 : w1.cell? ⟨w.heap.size, 4, none⟩ = some (.slice (s.A 2) (s.n 2) (s.c 2)) := HB.out.row.cell 4
  have ha5 : w1.cell? ⟨w.heap.size, 5, none⟩ = some (.slice (s.A 3) (s.n 3) (s.c 3)) := HB.out.row.cell 5
  go_wp2_with fail
  refine (HCH.out _).mono ?_
  rintro e w2 ⟨rfl, hb2⟩
  have HB2 := Lib.hid (HB.out.then hb2)
  clear ha0 ha1 ha2 ha3 ha4 ha5
  clear hb2 HB HCH
  cases K
  · rw [show errP false = 160 from rfl]
    go_wp2
    go_ret
    exact ⟨ret_int (by rw [HE.out]; rfl), HB2.out.hb⟩
  · rw [show errP true = 0 from rfl]
    go_wp2_with fail
    refine (below_any _ _ _).mono ?_
    rintro e w3 ⟨rfl, rfl⟩
    by_cases h : 0 ≤ slot ∧ slot < 4
    · rw [show decide (0 ≤ slot ∧ slot < 4) = true by simp [h]]
      have HH := Lib.hid h
      clear h
      go_wp2
      go_ret
      exact ⟨ret_int (by rw [HE.out, ask_in HH.out]), HB2.out.hb⟩
    · rw [show decide (0 ≤ slot ∧ slot < 4) = false by simp; omega]
      have HH := Lib.hid h
      clear h
      go_wp2
      go_ret
      exact ⟨ret_int (by rw [HE.out, ask_out HH.out]), HB2.out.hb⟩
/-- what Get answers -/
def Gt (w : World) (E : Int) (l : List UInt8) (e : Ending) (w' : World) : Prop := ∃ v, e = .returned (.tuple #[v, .int .i64 E]) ∧ Own w' w.heap.size v l ∧ Below w.heap.size w w'
/-- what Set tells -/
def setE (K : Bool) (slot : Int) (n : Nat) : Int := if askE K slot = 0 then (if 52 < n then 3 else 0) else askE K slot
def setM (num : Int) (sl : Nat → List UInt8) (K : Bool) (slot : Int) (b : List UInt8) (lsn2 : Nat) : DP :=
  if setE K slot b.length = 0 then ⟨0, num, lsn2, upd sl slot.toNat b⟩ else badP (setE K slot b.length)
theorem Cp.setl {w W : World} {num : Int} {lsn : Nat} {k : Nat} {sl : Nat → List UInt8} {s : PS} (h : Cp w num lsn 0 sl s W) (lsn2 : Nat) : Cp w num lsn2 0 sl s (W.setCell ⟨w.heap.size, 1, none⟩ (.int .u64 (lsn2 : Int))) := by
  refine ⟨h.r1.store 1 (.int .u64 (lsn2 : Int)), h.r2.far (p := ⟨w.heap.size, 1, none⟩) (by show w.heap.size + 1 ≠ w.heap.size; omega) _, fun j hj => by omega, h.hb.setCell (p := ⟨w.heap.size, 1, none⟩) (Nat.le_refl _) _, by simpa [World.setCell] using h.sz⟩
theorem Cp.as {w W : World} {num : Int} {lsn : Nat} {sl sl' : Nat → List UInt8} {s : PS} (h : Cp w num lsn 0 sl s W) : Cp w num lsn 0 sl' s W := ⟨h.r1, h.r2, fun j hj => by omega, h.hb, h.sz⟩

set_option maxHeartbeats 4000000 in
theorem set_any (num : Int) (lsn : Nat) (sl : Nat → List UInt8) (s : PS) (slot : Int) (A : Option Addr) (n c : Nat) (b : List UInt8) (lsn2 : Nat) (B : Nat) (w : World) (h : PgAt w B sl s) (hB : B ≤ w.heap.size) (hm : ∀ k, k < 4 → s.n k ≤ 100000) (hb : Sl w B A n c b) :
    Calls Try.prog 28 #[.agg (pcs num lsn s).toArray, .int .i64 slot, .slice A n c, .int .u64 (lsn2 : Int)] w (DecP w (setM num sl (okN num s.n) slot b lsn2)) := by
  have HP := Lib.hid h
  have HM := Lib.hid hm
  have HSB := Lib.hid hb
  have HAS := Lib.hid (fun (W : World) => asked_any num lsn s slot W)
  clear h hm hb
  generalize okN num s.n = K at HAS ⊢
  obtain ⟨D, hD⟩ : ∃ D, D = setM num sl K slot b lsn2 := ⟨_, rfl⟩
  rw [← hD]
  have hways : (askE K slot = 0 ∧ 0 ≤ slot ∧ slot < 4) ∨ (askE K slot ≠ 0 ∧ D = badP (askE K slot)) := by
    by_cases h0 : askE K slot = 0
    · refine .inl ⟨h0, ?_⟩
      unfold askE at h0
      split at h0
      · split at h0
        · assumption
        · cases h0
      · cases h0
    · refine .inr ⟨h0, ?_⟩
      rw [hD]
      unfold setM setE
      rw [if_neg h0, if_neg h0]
  have HD : Hid (askE K slot = 0 → D = if 52 < n then badP 3 else ⟨0, num, lsn2, upd sl slot.toNat b⟩) := fun h0 => by
    rw [hD]
    unfold setM setE
    rw [if_pos h0, HSB.out.len]
    by_cases h : 52 < n
    · rw [if_pos h, if_pos h, if_neg (by omega)]
    · rw [if_neg h, if_neg h, if_pos rfl]
  clear hD
  obtain ⟨E, hE⟩ : ∃ E, E = askE K slot := ⟨_, rfl⟩
  rw [← hE] at hways HD
  simp only [← hE] at HAS
  clear hE
  unfold pcs at HAS ⊢
  go_enter Try.func28, Try.ntmps28
  go_upto_region 1 with fail
  have HC := Lib.hid (Cp.new w num lsn sl s)
  rw [show pcs num lsn s = [.int .i64 num, .int .u64 (lsn : Int), .slice (s.A 0) (s.n 0) (s.c 0), .slice (s.A 1) (s.n 1) (s.c 1), .slice (s.A 2) (s.n 2) (s.c 2), .slice (s.A 3) (s.n 3) (s.c 3)] from rfl, show zcs = [.int .i64 0, .int .u64 0, .slice none 0 0, .slice none 0 0, .slice none 0 0, .slice none 0 0] from rfl] at HC
  generalize (w.alloc (.cells #[.int .i64 num, .int .u64 (lsn : Int), .slice (s.A 0) (s.n 0) (s.c 0), .slice (s.A 1) (s.n 1) (s.c 1), .slice (s.A 2) (s.n 2) (s.c 2), .slice (s.A 3) (s.n 3) (s.c 3)] 73)).alloc (.cells #[.int .i64 0, .int .u64 0, .slice none 0 0, .slice none 0 0, .slice none 0 0, .slice none 0 0] 73) = w1 at HC ⊢
  have ha0 : w1.cell? ⟨w.heap.size, 0, none⟩ = some (.int .i64 num) := HC.out.r1.cell 0
  have ha1 : w1.cell? ⟨w.heap.size, 1, none⟩ = some (.int .u64 (lsn : Int)) := HC.out.r1.cell 1
  have ha2 : w1.cell? ⟨w.heap.size, 2, none⟩ = some (.slice (s.A 0) (s.n 0) (s.c 0)) := HC.out.r1.cell 2
  have ha3 : w1.cell? ⟨w.heap.size, 3, none⟩ = some (.slice (s.A 1) (s.n 1) (s.c 1)) := HC.out.r1.cell 3
  have ha4 : w1.cell? ⟨w.heap.size, 4, none⟩ = some (.slice (s.A 2) (s.n 2) (s.c 2)) := HC.out.r1.cell 4
  have ha5 : w1.cell? ⟨w.heap.size, 5, none⟩ = some (.slice (s.A 3) (s.n 3) (s.c 3)) := HC.out.r1.cell 5
  go_wp2_with fail
  refine (HAS.out _).mono ?_
  rintro e w2 ⟨rfl, hb2⟩
  have HC2 := Lib.hid (HC.out.then hb2)
  clear ha0 ha1 ha2 ha3 ha4 ha5
  clear hb2 HC HAS
  rcases hways with ⟨h0, h1, h2⟩ | ⟨h0, hd⟩
  case inr =>
    have hne : (E != 0) = true := by simp [h0]
    have HZ := Lib.hid hd
    clear h0 hd HD
    have HONE : Hid (∀ v ∈ pcs 0 0 zs, v.oneCell' = true) := pcs_one
    have HPI : Hid ((Try.prog.info? 73).map (·.size) = some (pcs 0 0 zs).length) := page_info
    have HLE : Hid ((pcs 0 0 zs).length = zcs.length) := (rfl : _ = _)
    go_wp2_with ((with_reducible refine wpList_store_whole (op := ⟨none, _, _, _, _, _⟩) ?_ 73 (.tmp 8) (.tmp 18) ?_ (w.heap.size + 1) (pcs 0 0 zs) ?_ ?_ 73 zcs HC2.out.r2 HLE.out HONE.out HPI.out ?_))
    all_goals try (first | rfl | (simp; done))
    intro w8 hr8 hg8
    have HRES := Lib.hid (run_loadVar_mid (P := Try.prog) w8 (w.heap.size + 1) 0 73 (pcs 0 0 zs) _ (Row.all hr8) Try.underlying73 rfl HPI.out)
    have HB8 := Lib.hid (HC2.out.hb.grown hg8 HC2.out.hb.size (fun k hk => by have := Option.some.inj hk; omega))
    clear hr8 hg8
    go_wp2
    refine bodyPost_ret (v := .tuple #[.agg (pcs 0 0 zs).toArray, .int .i64 E]) (res_cell_tmp (p := 8) (q := 9) (ty := 73) rfl _ _ ⟨w.heap.size + 1, 0, none⟩ _ _ rfl HRES.out rfl) rfl ?_
    rw [HZ.out]
    exact ⟨zs, rfl, PO.nil _ _, HB8.out⟩

  have HD2 := Lib.hid (HD.out h0)
  subst h0
  clear HD
  by_cases h52 : 52 < n
  case pos =>
    have HZ : Hid (D = badP 3) := (show _ = _ by rw [HD2.out, if_pos h52])
    clear HD2
    have HONE : Hid (∀ v ∈ pcs 0 0 zs, v.oneCell' = true) := pcs_one
    have HPI : Hid ((Try.prog.info? 73).map (·.size) = some (pcs 0 0 zs).length) := page_info
    have HLE : Hid ((pcs 0 0 zs).length = zcs.length) := (rfl : _ = _)
    go_wp2_with ((with_reducible refine wpList_store_whole (op := ⟨none, _, _, _, _, _⟩) ?_ 73 (.tmp 8) (.tmp 23) ?_ (w.heap.size + 1) (pcs 0 0 zs) ?_ ?_ 73 zcs HC2.out.r2 HLE.out HONE.out HPI.out ?_))
    all_goals try (first | rfl | (simp; done))
    intro w8 hr8 hg8
    have HRES := Lib.hid (run_loadVar_mid (P := Try.prog) w8 (w.heap.size + 1) 0 73 (pcs 0 0 zs) _ (Row.all hr8) Try.underlying73 rfl HPI.out)
    have HB8 := Lib.hid (HC2.out.hb.grown hg8 HC2.out.hb.size (fun k hk => by have := Option.some.inj hk; omega))
    clear hr8 hg8
    go_wp2
    refine bodyPost_ret (v := .tuple #[.agg (pcs 0 0 zs).toArray, .int .i64 3]) (res_cell_tmp (p := 8) (q := 9) (ty := 73) rfl _ _ ⟨w.heap.size + 1, 0, none⟩ _ _ rfl HRES.out rfl) rfl ?_
    rw [HZ.out]
    exact ⟨zs, rfl, PO.nil _ _, HB8.out⟩

  obtain ⟨k, rfl⟩ := Int.eq_ofNat_of_zero_le h1
  have hk4 : k < 4 := by omega
  have HD3 : Hid (D = ⟨0, num, lsn2, upd sl k b⟩) := (show _ = _ by rw [HD2.out, if_neg h52, Int.toNat_natCast])
  clear HD2
  have hc1 : w2.cell? ⟨w.heap.size, 1, none⟩ = some (.int .u64 (lsn : Int)) := HC2.out.r1.cell 1
  have hf1 := HC2.out.r1.frozen 1
  have HC3 := Lib.hid (HC2.out.setl (k := 0) lsn2)
  have hc2 : (w2.setCell ⟨w.heap.size, 1, none⟩ (.int .u64 (lsn2 : Int))).cell? ⟨w.heap.size, 2 + k, none⟩ = some (.slice (s.A k) (s.n k) (s.c k)) := pcs_cell HC3.out.r1 k hk4
  have hc2' : w2.cell? ⟨w.heap.size, 2 + k, none⟩ = some (.slice (s.A k) (s.n k) (s.c k)) := pcs_cell HC2.out.r1 k hk4
  have hf2 := HC3.out.r1.frozen (2 + k)
  have hf2' := HC2.out.r1.frozen (2 + k)
  go_upto_region 7 with fail
  have HC4 := Lib.hid ((HC3.out.set0 hk4 A n c).as (sl' := upd sl k b))
  have HPG4 : Hid (PgAt w B (upd sl k b) (s.set k A n c)) := by
    intro j hj
    by_cases hjk : j = k
    · subst hjk
      simp only [PS.set, upd_at]
      exact HSB.out
    · simp only [PS.set, upd_not _ _ hjk]
      exact HP.out j hj
  have HM4 : Hid (∀ j, j < 4 → (s.set k A n c).n j ≤ 100000) := fun j hj => by
    by_cases hjk : j = k
    · subst hjk
      simp only [PS.set, upd_at]
      omega
    · simp only [PS.set, upd_not _ _ hjk]
      exact HM.out j hj
  generalize (w2.setCell ⟨w.heap.size, 1, none⟩ (.int .u64 (lsn2 : Int))).setCell ⟨w.heap.size, 2 + k, none⟩ (.slice A n c) = w4 at HC4 ⊢
  generalize s.set k A n c = z at HC4 HPG4 HM4
  generalize upd sl k b = zl at HC4 HPG4 HD3
  clear hc1 hf1 HC3 hc2 hc2' hf2 hf2' HC2 HP HM HSB
  have HIX := Lib.hid (idx_any z)
  unfold scs at HIX
  have ha2 : w4.cell? ⟨w.heap.size, 2, none⟩ = some (.slice (z.A 0) (z.n 0) (z.c 0)) := HC4.out.r1.cell 2
  have ha3 : w4.cell? ⟨w.heap.size, 3, none⟩ = some (.slice (z.A 1) (z.n 1) (z.c 1)) := HC4.out.r1.cell 3
  have ha4 : w4.cell? ⟨w.heap.size, 4, none⟩ = some (.slice (z.A 2) (z.n 2) (z.c 2)) := HC4.out.r1.cell 4
  have ha5 : w4.cell? ⟨w.heap.size, 5, none⟩ = some (.slice (z.A 3) (z.n 3) (z.c 3)) := HC4.out.r1.cell 5
  go_wp2_with fail
  clear ha2 ha3 ha4 ha5
  go_loopw [32] (fun t7 wr => ∃ k : Nat, k ≤ 4 ∧ t7 = .int .i64 (k : Int) ∧ Hid (∃ s', Cp w num lsn2 k zl s' wr)) (fun t7 _ => 4 - (intOf t7).toNat)
  case atStart => exact ⟨0, by omega, rfl, ⟨z, HC4.out⟩⟩
  case round =>
    obtain ⟨i, hi4, rfl, HE⟩ := hrel
    obtain ⟨s', hc⟩ := HE.out
    have HC := Lib.hid hc
    clear hc HE
    by_cases hlt : i < 4
    · have h1' : (i : Int) < 4 := by omega
      have h0' : 0 ≤ (i : Int) := by omega
      have hix := HIX.out i hlt
      have HSK : Hid (Sl wr wr.heap.size (z.A i) (z.n i) (z.c i) (zl i)) := ((HPG4.out i hlt).below (HC.out.hb.mono hB)).more (Nat.le_trans hB HC.out.hb.size)
      go_wp2_with fail
      refine (copied_any (z.A i) (zl i) (z.n i) (z.c i) wr HSK.out (HM4.out i hlt)).mono ?_
      rintro e w5 ⟨v5, rfl, ho5, hb5⟩
      have HC5 := Lib.hid (HC.out.then hb5)
      have HO5 := Lib.hid (ho5.mono HC.out.hb.size)
      obtain ⟨A5, n5, c5, rfl, _⟩ := HO5.out.open
      have hcl : w5.cell? ⟨w.heap.size, 2 + i, none⟩ = some (.slice (s'.A i) (s'.n i) (s'.c i)) := pcs_cell HC5.out.r1 i hlt
      have hfr := HC5.out.r1.frozen (2 + i)
      clear ho5 hb5 HC HSK hix
      go_upto_region 11 with fail
      have HC6 := Lib.hid (HC5.out.set hlt A5 n5 c5 HO5.out)
      generalize w5.setCell ⟨w.heap.size, 2 + i, none⟩ (.slice A5 n5 c5) = w6 at HC6 ⊢
      clear hcl hfr HC5 HO5
      go_wp2
      go_roundw
      case rel => exact ⟨i + 1, by omega, by go_num, ⟨_, HC6.out⟩⟩
      case measure => simp [intOf]; omega
    · obtain rfl : i = 4 := by omega
      have ha0 : wr.cell? ⟨w.heap.size, 0, none⟩ = some (.int .i64 num) := HC.out.r1.cell 0
      have ha1 : wr.cell? ⟨w.heap.size, 1, none⟩ = some (.int .u64 (lsn2 : Int)) := HC.out.r1.cell 1
      have ha2 : wr.cell? ⟨w.heap.size, 2, none⟩ = some (.slice (s'.A 0) (s'.n 0) (s'.c 0)) := HC.out.r1.cell 2
      have ha3 : wr.cell? ⟨w.heap.size, 3, none⟩ = some (.slice (s'.A 1) (s'.n 1) (s'.c 1)) := HC.out.r1.cell 3
      have ha4 : wr.cell? ⟨w.heap.size, 4, none⟩ = some (.slice (s'.A 2) (s'.n 2) (s'.c 2)) := HC.out.r1.cell 4
      have ha5 : wr.cell? ⟨w.heap.size, 5, none⟩ = some (.slice (s'.A 3) (s'.n 3) (s'.c 3)) := HC.out.r1.cell 5
      have HONE : Hid (∀ v ∈ pcs num lsn2 s', v.oneCell' = true) := pcs_one
      have HPI : Hid ((Try.prog.info? 73).map (·.size) = some (pcs num lsn2 s').length) := page_info
      have HLE : Hid ((pcs num lsn2 s').length = zcs.length) := (rfl : _ = _)
      go_wp2_with ((with_reducible refine wpList_store_whole (op := ⟨none, _, _, _, _, _⟩) ?_ 73 (.tmp 8) (.tmp 42) ?_ (w.heap.size + 1) (pcs num lsn2 s') ?_ ?_ 73 zcs HC.out.r2 HLE.out HONE.out HPI.out ?_))
      all_goals try (first | rfl | (simp; done))
      intro w8 hr8 hg8
      have HRES := Lib.hid (run_loadVar_mid (P := Try.prog) w8 (w.heap.size + 1) 0 73 (pcs num lsn2 s') _ (Row.all hr8) Try.underlying73 rfl HPI.out)
      have HB8 := Lib.hid (HC.out.hb.grown hg8 HC.out.hb.size (fun k hk => by have := Option.some.inj hk; omega))
      have HPO : Hid (PO w8 w.heap.size zl s') := fun j hj => (HC.out.own j hj).kept hg8 (own_ne (HC.out.own j hj) HC.out.r2 (by decide))
      clear hr8 hg8
      go_wp2
      refine bodyPost_ret (v := .tuple #[.agg (pcs num lsn2 s').toArray, .int .i64 0]) (res_cell_tmp (p := 8) (q := 9) (ty := 73) rfl _ _ ⟨w.heap.size + 1, 0, none⟩ _ _ rfl HRES.out rfl) rfl ?_
      rw [HD3.out]
      exact ⟨s', rfl, HPO.out, HB8.out⟩
end Go.Proofs.Ytnojkoefdigcnaa.Pg
