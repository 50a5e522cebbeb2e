/-
  The contract of the reference's holds.
-/
import Derived.Test.YtbfpadilcfelbaaDsk2
namespace Go.Proofs.Ytbfpadilcfelbaa.Dsk
open Go.RowKit Go.Proofs.Ytbfpadilcfelbaa.Wd

/-- the cells of a pending write -/
def wcs (p : Int × List UInt8) : List Value := .int .i64 p.1 :: bv p.2
/-- The address A, with as many sectors as ls has, reads ls; it lies below block B. -/
def Blks (w : World) (B : Nat) (A : Option Addr) (ls : List (List UInt8)) : Prop :=
  0 < ls.length → ∃ b o, A = some ⟨b, o, none⟩ ∧ b < B ∧ ∀ i, i < ls.length → (ls.getD i []).length = 64 ∧ w.rangeAt b (o + i * 64) (bv (ls.getD i []))
/-- The address A, with as many writes as ps has, reads ps; it lies below block B. -/
def Wrs (w : World) (B : Nat) (A : Option Addr) (ps : List (Int × List UInt8)) : Prop :=
  0 < ps.length → ∃ b o, A = some ⟨b, o, none⟩ ∧ b < B ∧ ∀ i, i < ps.length → (ps.getD i (0, [])).2.length = 64 ∧ w.rangeAt b (o + i * 65) (wcs (ps.getD i (0, [])))
theorem size73 : (Try.prog.info? 72).map (·.size) = some 65 := by kernel_rfl
theorem zero73 (u : World) : (zeroValue 72).run Try.prog u = .ok (.agg (wcs (0, nought)).toArray) u := by kernel_rfl
theorem wcs_len (p : Int × List UInt8) (h : p.2.length = 64) : (wcs p).length = 65 := by simp [wcs, bv, h]
theorem wcs_one (p : Int × List UInt8) : ∀ v ∈ wcs p, v.oneCell' = true := by
  intro v hv
  rcases List.mem_cons.1 hv with rfl | hv
  · rfl
  · exact bv_one v hv
theorem splice_all {α : Type} (L cs : List α) (h : L.length = cs.length) : splice L 0 cs = cs := by simp [splice, ← h]
theorem range_below {w w' : World} {B b o : Nat} {cs : List Value} (h : w.rangeAt b o cs) (hb : Below B w w') (hlt : b < B) : w'.rangeAt b o cs := fun j v hj => (hb.cell (p := ⟨b, o + j, none⟩) hlt).trans (h j v hj)

/-- what a sector holds -/
def holdsM (safe : List (List UInt8)) (pend : List (Int × List UInt8)) (i : Nat) : List UInt8 :=
  pend.foldl (fun b p => if p.1 = (i : Int) then p.2 else b) (safe.getD i [])

set_option maxRecDepth 100000 in
set_option maxHeartbeats 2000000 in
theorem holds_any (A : Option Addr) (n c : Nat) (A2 : Option Addr) (m c2 : Nat) (dead : Bool) (left fails ops : Int) (i : Nat) (ls : List (List UInt8)) (ps : List (Int × List UInt8)) (w : World)
    (hl : ls.length = n) (hp : ps.length = m) (hb : Blks w w.heap.size A ls) (hw : Wrs w w.heap.size A2 ps) (hi : i < n) (hm : m ≤ 1048576) (hn : n ≤ 1048576) :
    Calls Try.prog 39 #[.agg #[.slice A n c, .slice A2 m c2, .bool dead, .int .i64 left, .int .i64 fails, .int .i64 ops], .int .i64 (i : Int)] w fun e w' =>
      e = .returned (blk (holdsM ls ps i)) ∧ Below w.heap.size w w' := by
  obtain ⟨b1, o1, rfl, hb1, hr1⟩ := hb (by omega)
  obtain ⟨h64, hrg⟩ := hr1 i (by omega)
  obtain ⟨L0, hL0⟩ : ∃ L0, L0 = ls.getD i [] := ⟨_, rfl⟩
  have hM : ∀ k, holdsM ls (ps.take k) i = (ps.take k).foldl (fun b p => if p.1 = (i : Int) then p.2 else b) L0 := fun k => by rw [holdsM, hL0]
  have hM2 : holdsM ls ps i = ps.foldl (fun b p => if p.1 = (i : Int) then p.2 else b) L0 := by rw [holdsM, hL0]
  rw [← hL0] at h64 hrg
  rw [hM2]
  clear hM hM2 hL0
  have HRG := Lib.hid hrg
  have HP := Lib.hid hp
  have HW := Lib.hid hw
  have HSZ : Hid ((Try.prog.info? 39).map (·.size) = some L0.length) := (show _ = _ by rw [h64]; exact size39)
  have H64 := Lib.hid h64
  clear hrg hr1 hl hp hw h64
  obtain ⟨W1, hW1⟩ : ∃ W1, W1 = w.alloc (.cells #[.slice (some ⟨b1, o1, none⟩) n c, .slice A2 m c2, .bool dead, .int .i64 left, .int .i64 fails, .int .i64 ops] 31) := ⟨_, rfl⟩
  have r31 : Row W1 w.heap.size 31 [.slice (some ⟨b1, o1, none⟩) n c, .slice A2 m c2, .bool dead, .int .i64 left, .int .i64 fails, .int .i64 ops] := by rw [hW1]; exact Row.new w _ [.slice (some ⟨b1, o1, none⟩) n c, .slice A2 m c2, .bool dead, .int .i64 left, .int .i64 fails, .int .i64 ops]
  have s1 : W1.heap.size = w.heap.size + 1 := by rw [hW1]; simp
  have hb1W : Below w.heap.size w W1 := by rw [hW1]; exact (Below.refl _ _).alloc (Nat.le_refl _) _
  have r39a : Row ((W1.alloc (.cells (bv nought).toArray 39)).alloc (.cells (bv nought).toArray 39)) (w.heap.size + 1) 39 (bv nought) := by
    have := (Row.new W1 39 (bv nought)).alloc (.cells (bv nought).toArray 39)
    rwa [s1] at this
  have r39b : Row ((W1.alloc (.cells (bv nought).toArray 39)).alloc (.cells (bv nought).toArray 39)) (w.heap.size + 1 + 1) 39 (bv nought) := by
    have := Row.new (W1.alloc (.cells (bv nought).toArray 39)) 39 (bv nought)
    have e : (W1.alloc (.cells (bv nought).toArray 39)).heap.size = w.heap.size + 1 + 1 := by simp [s1]
    rwa [e] at this
  have r31' := (r31.alloc (.cells (bv nought).toArray 39)).alloc (.cells (bv nought).toArray 39)
  have hb3W : Below w.heap.size w ((W1.alloc (.cells (bv nought).toArray 39)).alloc (.cells (bv nought).toArray 39)) := (hb1W.alloc (by omega) _).alloc (by simp; omega) _
  have s3 : ((W1.alloc (.cells (bv nought).toArray 39)).alloc (.cells (bv nought).toArray 39)).heap.size = w.heap.size + 3 := by simp [s1]
  subst hW1
  have RA := Lib.hid r39a
  have RB := Lib.hid r39b
  have RD := Lib.hid r31'
  have BW := Lib.hid hb3W
  have S3 := Lib.hid s3
  clear r31 s1 hb1W r39a r39b r31' hb3W s3
  have hii : (i : Int) < (n : Int) := by omega
  go_enter Try.func39, Try.ntmps39
  go_wp2_with (first
    | (with_reducible refine wpList_load_blk (op := ⟨some 12, _, _, _, _, _⟩) ?_ 39 (.tmp 11) ?_ b1 (o1 + i * 64) ?_ L0 _ ?_ Try.underlying39 ?_ HSZ.out ?_)
    | (with_reducible refine wpList_store_in (op := ⟨none, _, _, _, _, _⟩) ?_ 39 (.tmp 5) (.tmp 12) ?_ (w.heap.size + 1 + 1) 0 (bv L0) ?_ ?_ 39 (bv nought) ?_ ?_ bv_one ?_ ?_))
  all_goals try (first | rfl | exact RB.out | exact range_below HRG.out (((Below.refl _ _).alloc (Nat.le_refl _) _).alloc (by simp) _) hb1 | (rw [bv_length]; exact HSZ.out) | (rw [bv_length, H64.out]; simp [bv, nought]))
  intro w2 hr2 hg2
  have hg3 : ((((w.alloc (.cells #[.slice (some ⟨b1, o1, none⟩) n c, .slice A2 m c2, .bool dead, .int .i64 left, .int .i64 fails, .int .i64 ops] 31)).alloc (.cells (bv nought).toArray 39)).alloc (.cells (bv nought).toArray 39))).grownBy w2 (some (w.heap.size + 1 + 1)) := hg2
  have b2 : Below w.heap.size w w2 := BW.out.grown hg3 (by rw [S3.out]; omega) (fun k hk => by simp at hk; omega)
  have hcur : Row w2 (w.heap.size + 1 + 1) 39 (bv L0) := by
    rwa [splice_all _ _ (by rw [bv_length, bv_length, H64.out]; rfl)] at hr2
  have hres0 := RA.out.grown hg3 (by simp)
  have hdsk := RD.out.grown hg3 (by simp; omega)
  have hp1 : w2.cell? ⟨w.heap.size, 1, none⟩ = some (.slice A2 m c2) := hdsk.cell 1
  have s2 : w.heap.size + 3 ≤ w2.heap.size := by have := hg3.size; rw [S3.out] at this; exact this
  clear hr2 hg2 hg3 RA RB RD BW S3 hdsk
  go_wp2
  go_loopw [16] (fun i1 wr => ∃ k : Nat, k ≤ m ∧ i1 = .int .i64 k ∧ Row wr (w.heap.size + 1 + 1) 39 (bv ((ps.take k).foldl (fun b p => if p.1 = (i : Int) then p.2 else b) L0)) ∧ Row wr (w.heap.size + 1) 39 (bv nought) ∧ Hid (Below w.heap.size w wr) ∧ w.heap.size + 3 ≤ wr.heap.size ∧ Hid (((ps.take k).foldl (fun b p => if p.1 = (i : Int) then p.2 else b) L0).length = 64)) (fun i1 _ => m - (intOf i1).toNat)
  case atStart => exact ⟨0, by omega, rfl, by simpa using hcur, hres0, b2, s2, (show _ = _ by simpa using H64.out)⟩
  case round =>
    obtain ⟨k, hk, rfl, h1, h2, hbel, s4, hlen⟩ := hrel
    by_cases hlt : k < m
    · obtain ⟨b3, o3, rfl, hb3, hr3⟩ := HW.out (by rw [HP.out]; omega)
      obtain ⟨h65, hrg3⟩ := hr3 k (by rw [HP.out]; exact hlt)
      have hrg4 := range_below hrg3 hbel.out hb3
      obtain ⟨p, hpk⟩ : ∃ p, p = ps.getD k (0, []) := ⟨_, rfl⟩
      rw [← hpk] at h65 hrg4
      have HR4 := Lib.hid hrg4
      have HS4 : Hid ((Try.prog.info? 72).map (·.size) = some (wcs p).length) := (show _ = _ by rw [wcs_len p h65]; exact size73)
      have HPK := Lib.hid hpk
      have hz73 := zero73
      have rn := Row.new wr 72 (wcs (0, nought))
      have RN := Lib.hid rn
      have H65 := Lib.hid h65
      have HF : Hid (0 + (wcs p).length ≤ (wcs (0, nought)).length) := (show _ ≤ _ by rw [wcs_len p h65, wcs_len (0, nought) rfl]; exact Nat.le_refl _)
      clear hr3 hrg3 hrg4 hpk rn h65
      go_wp2_with (first
        | (with_reducible refine wpList_load_mid (op := ⟨some 19, _, _, _, _, _⟩) ?_ 72 (.tmp 18) ?_ b3 (o3 + k * 65) ?_ (wcs p) _ HR4.out Try.underlying72 ?_ HS4.out ?_)
        | (with_reducible refine wpList_store_in (op := ⟨none, _, _, _, _, _⟩) ?_ 72 (.tmp 7) (.tmp 19) ?_ wr.heap.size 0 (wcs p) ?_ ?_ 72 (wcs (0, nought)) ?_ HF.out (wcs_one p) HS4.out ?_))
      all_goals try (first | rfl | exact RN.out)
      intro w5 hr5 hg5
      have hg6 : (wr.alloc (.cells (wcs (0, nought)).toArray 72)).grownBy w5 (some wr.heap.size) := hg5
      have hp5 : Row w5 wr.heap.size 72 (wcs p) := by
        rwa [splice_all _ _ (by rw [wcs_len p H65.out, wcs_len (0, nought) rfl])] at hr5
      have h1' := (h1.alloc (.cells (wcs (0, nought)).toArray 72)).grown hg6 (by simp; omega)
      have h2' := (h2.alloc (.cells (wcs (0, nought)).toArray 72)).grown hg6 (by simp; omega)
      have hw0 : w.heap.size ≤ wr.heap.size := by omega
      have B5 : Hid (Below w.heap.size w w5) := (show Below _ _ _ from (hbel.out.alloc hw0 _).grown hg6 (by simp; omega) (fun j hj => by simp at hj; omega))
      have s5 : wr.heap.size + 1 ≤ w5.heap.size := by have := hg6.size; simpa using this
      have hq0 : w5.cell? ⟨wr.heap.size, 0, none⟩ = some (.int .i64 p.1) := hp5.cell 0
      have hrg5 : w5.rangeAt wr.heap.size 1 (bv p.2) := Row.range hp5 fun j v hj => by
        rw [Nat.add_comm]; exact hj
      have HR5 := Lib.hid hrg5
      have HSP : Hid ((Try.prog.info? 39).map (·.size) = some p.2.length) := (show _ = _ by rw [H65.out]; exact size39)
      have HSB : Hid ((Try.prog.info? 39).map (·.size) = some (bv p.2).length) := (show _ = _ by rw [bv_length]; exact HSP.out)
      have hstep : (ps.take (k + 1)).foldl (fun b p => if p.1 = (i : Int) then p.2 else b) L0 = if p.1 = (i : Int) then p.2 else (ps.take k).foldl (fun b p => if p.1 = (i : Int) then p.2 else b) L0 := by
        have hkp : k < ps.length := by rw [HP.out]; exact hlt
        rw [List.take_succ_eq_append_getElem hkp, List.foldl_append]
        have : p = ps[k] := by rw [HPK.out]; simp [hkp]
        simp [← this]
      have HST := Lib.hid hstep
      clear hr5 hg5 hg6 h1 h2 hbel hrg5 hstep hz73
      by_cases hpi : p.1 = (i : Int)
      · have hb0 : (p.1 == (i : Int)) = true := by simpa using hpi
        have HPI := Lib.hid hpi
        clear hpi
        go_wp2_with (first
          | (with_reducible refine wpList_load_blk (op := ⟨some 25, _, _, _, _, _⟩) ?_ 39 (.tmp 24) ?_ wr.heap.size 1 ?_ p.2 _ HR5.out Try.underlying39 ?_ HSP.out ?_)
          | (with_reducible refine wpList_store_in (op := ⟨none, _, _, _, _, _⟩) ?_ 39 (.tmp 5) (.tmp 25) ?_ (w.heap.size + 1 + 1) 0 (bv p.2) ?_ ?_ 39 _ h1' ?_ bv_one HSB.out ?_))
        all_goals try (first | rfl | (rw [bv_length, bv_length, hlen.out, H65.out]; exact Nat.le_refl _))
        intro w6 hr6 hg6
        rw [splice_all _ _ (by rw [bv_length, bv_length, hlen.out, H65.out])] at hr6
        have h26 := h2'.grown hg6 (by simp)
        have B6 : Hid (Below w.heap.size w w6) := (show Below _ _ _ from B5.out.grown hg6 B5.out.size (fun j hj => by simp at hj; omega))
        have s6 : w5.heap.size ≤ w6.heap.size := hg6.size
        have HST2 : Hid ((ps.take (k + 1)).foldl (fun b p => if p.1 = (i : Int) then p.2 else b) L0 = p.2) := (show _ = _ by rw [HST.out, if_pos HPI.out])
        clear hg6
        go_wp2
        go_roundw
        case rel => exact ⟨k + 1, by omega, by go_num, by rw [HST2.out]; exact hr6, h26, B6, by omega, (show _ = _ by rw [HST2.out]; exact H65.out)⟩
        case measure => simp [intOf]; omega
      · have hb0 : (p.1 == (i : Int)) = false := by simpa using hpi
        have HST2 : Hid ((ps.take (k + 1)).foldl (fun b p => if p.1 = (i : Int) then p.2 else b) L0 = (ps.take k).foldl (fun b p => if p.1 = (i : Int) then p.2 else b) L0) := (show _ = _ by rw [HST.out, if_neg hpi])
        clear hpi
        go_wp2
        go_roundw
        case rel => exact ⟨k + 1, by omega, by go_num, by rw [HST2.out]; exact h1', h2', B5, by omega, (show _ = _ by rw [HST2.out]; exact hlen.out)⟩
        case measure => simp [intOf]; omega
    · obtain rfl : k = m := by omega
      obtain ⟨R, hR⟩ : ∃ R, R = ps.foldl (fun b p => if p.1 = (i : Int) then p.2 else b) L0 := ⟨_, rfl⟩
      rw [List.take_of_length_le (by rw [HP.out]; exact Nat.le_refl _), ← hR] at h1 hlen
      have HRR := Lib.hid hR
      have hrng : wr.rangeAt (w.heap.size + 1 + 1) 0 (bv R) := Row.range h1 fun j v hj => by simpa using hj
      have HRG5 := Lib.hid hrng
      have HSR : Hid ((Try.prog.info? 39).map (·.size) = some R.length) := (show _ = _ by rw [hlen.out]; exact size39)
      have HSB : Hid ((Try.prog.info? 39).map (·.size) = some (bv R).length) := (show _ = _ by rw [bv_length]; exact HSR.out)
      have H2 := Lib.hid h2
      clear hR hrng h1 h2
      go_wp2_with (first
        | (with_reducible refine wpList_load_blk (op := ⟨some 27, _, _, _, _, _⟩) ?_ 39 (.tmp 5) ?_ (w.heap.size + 1 + 1) 0 ?_ R _ HRG5.out Try.underlying39 ?_ HSR.out ?_)
        | (with_reducible refine wpList_store_in (op := ⟨none, _, _, _, _, _⟩) ?_ 39 (.tmp 4) (.tmp 27) ?_ (w.heap.size + 1) 0 (bv R) ?_ ?_ 39 (bv nought) H2.out ?_ bv_one HSB.out ?_))
      all_goals try (first | rfl | (rw [bv_length, hlen.out]; exact Nat.le_refl _))
      intro w6 hr6 hg6
      rw [splice_all _ _ (by rw [bv_length, bv_length, hlen.out]; rfl)] at hr6
      have hres := run_load_blk (P := Try.prog) w6 (w.heap.size + 1) 0 39 R _ (Row.range hr6 fun j v hj => by simpa using hj) Try.underlying39 rfl HSR.out
      have B6 : Below w.heap.size w w6 := hbel.out.grown hg6 hbel.out.size (fun j hj => by simp at hj; omega)
      clear hg6
      go_wp2
      rw [← HRR.out]
      exact bodyPost_ret (v := blk R) (results_cell (p := 4) (ty := 39) rfl _ _ ⟨w.heap.size + 1, 0, none⟩ _ rfl hres) rfl ⟨rfl, B6⟩
end Go.Proofs.Ytbfpadilcfelbaa.Dsk
