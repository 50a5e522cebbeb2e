/-
  The iterator over records: its contract.
-/
import Derived.Test.YtnljhopikjkflaaRfW
import Derived.Test.YtnljhopikjkflaaRec14
import Derived.Test.YtnljhopikjkflaaRec10
import Derived.Test.YtnljhopikjkflaaRec18
namespace Go.Proofs.Ytnljhopikjkflaa.Rec
set_option maxRecDepth 100000
open Go.RowKit Go.Proofs.Ytnljhopikjkflaa.Wd Go.Proofs.Ytnljhopikjkflaa.Oct Go.Proofs.Ytnljhopikjkflaa.Dsk
attribute [local go_sem] Oper.semAt_some

/-- after i records: the error, the place, the records -/
def rdE (l : List UInt8) : Nat → Int × Nat × List RM
  | 0 => (0, 2, [])
  | i + 1 => if (rdE l i).1 ≠ 0 then rdE l i else if (recM l (rdE l i).2.1).1 = 0 then (0, (recM l (rdE l i).2.1).2.2.1, (rdE l i).2.2 ++ [(recM l (rdE l i).2.1).2.1]) else ((recM l (rdE l i).2.1).1, (rdE l i).2.1, [])
theorem rdE_next {l : List UInt8} {i p : Nat} {rs : List RM} (h : rdE l i = (0, p, rs)) (hz : (recM l p).1 = 0) : rdE l (i + 1) = (0, (recM l p).2.2.1, rs ++ [(recM l p).2.1]) := by
  show (if (rdE l i).1 ≠ 0 then _ else _) = _
  rw [h, if_neg (by simp), if_pos hz]
theorem rdE_fail {l : List UInt8} {i p : Nat} {rs : List RM} (h : rdE l i = (0, p, rs)) (hz : (recM l p).1 ≠ 0) : rdE l (i + 1) = ((recM l p).1, p, []) := by
  show (if (rdE l i).1 ≠ 0 then _ else _) = _
  rw [h, if_neg (by simp), if_neg hz]
theorem rdE_stays {l : List UInt8} {i : Nat} (h : (rdE l i).1 ≠ 0) : ∀ k, i ≤ k → rdE l k = rdE l i
  | 0, hk => by obtain rfl : i = 0 := by omega
                rfl
  | k + 1, hk => by
    by_cases hik : i = k + 1
    · rw [hik]
    · have ih := rdE_stays h k (by omega)
      show (if (rdE l k).1 ≠ 0 then _ else _) = _
      rw [ih, if_pos h]
theorem recM_err0 {l : List UInt8} {p : Nat} (h : (recM l p).1 = 0) : (recM l p).2.2.2 = 0 := by
  unfold recM at h ⊢
  simp only at h ⊢
  split at h
  · cases h
  · split at h
    · rename_i h2
      exact absurd h h2
    · rename_i h1 h2
      rw [if_neg h1, if_neg h2]
      split at h
      · rename_i h3
        rw [if_pos h3]
        simpa using h2
      · cases h
/-- what a round is given: the error, the record and its slices -/
def encR (x : Int × RM × RS) : Array Value := #[.agg (rcs x.2.1 x.2.2).toArray, .int .i64 x.1]
/-- blocks of K lie as they lay -/
def KeepB (K : Nat → Prop) (W W' : World) : Prop := ∀ k, K k → W'.heap[k]? = W.heap[k]?
theorem KeepB.trans {K : Nat → Prop} {A B C : World} (h : KeepB K A B) (k : KeepB K B C) : KeepB K A C := fun i hi => (k i hi).trans (h i hi)
def KpR (g Bn Br : Nat) : World → World → Prop := KeepB (fun k => k ≤ g ∨ k = Bn ∨ k = Br)
/-- a step of the iterator's: it reads on -/
def StR (g : Nat) (l : List UInt8) (A B : World) : Prop := A.grownBy B (some g) ∧ (∃ p e, Rdr A g l p e) ∧ ∃ p e, Rdr B g l p e
/-- what is known of an element in its round -/
structure TR (l : List UInt8) (n : Nat) (pre : List (Int × RM × RS)) (x : Int × RM × RS) (W : World) : Prop where
  lt : pre.length < n
  at_ : ∃ p, rdE l pre.length = (0, p, pre.map (·.2.1)) ∧ x.1 = (recM l p).1 ∧ x.2.1 = (recM l p).2.1
  rec_ : RecAt W W.heap.size x.2.1 x.2.2
def SR (g : Nat) (l : List UInt8) (n : Nat) (xs : List (Int × RM × RS)) (W : World) : Prop := xs.length = n ∧ ∃ p, rdE l n = (0, p, xs.map (·.2.1)) ∧ Rdr W g l p 0
/-- what the iterator's rounds hold -/
structure IR (g Bn Br : Nat) (l : List UInt8) (n : Nat) (J : List (Int × RM × RS) → World → Prop) (i : Nat) (W : World) : Prop where
  cn : W.cell? ⟨Bn, 0, none⟩ = some (.int .i64 (n : Int))
  cr : W.cell? ⟨Br, 0, none⟩ = some (.pointer (some ⟨g, 0, none⟩))
  st : ∃ xs p, xs.length = i ∧ J xs W ∧ rdE l i = (0, p, xs.map (·.2.1)) ∧ Rdr W g l p 0

set_option maxHeartbeats 4000000 in
theorem records_in (g Bn Br : Nat) (l : List UInt8) (n nn : Nat) (w : World) (hl : l.length ≤ 140737488355328) (hn : n ≤ 100000) (hnn : 1 ≤ nn) (hgn : g ≠ Bn) (hgr : g ≠ Br)
    (hcn : w.cell? ⟨Bn, 0, none⟩ = some (.int .i64 (n : Int))) (hcr : w.cell? ⟨Br, 0, none⟩ = some (.pointer (some ⟨g, 0, none⟩))) (hbn : Bn < w.heap.size) (hbr : Br < w.heap.size)
    (p0 : Nat) (hp0 : rdE l 0 = (0, p0, [])) (hR : Rdr w g l p0 0) :
    Feeds nn Try.prog 64 #[.pointer (some ⟨Bn, 0, none⟩), .pointer (some ⟨Br, 0, none⟩)] encR (StR g l) (TR l n) (fun x => x.1 = 0) (KpR g Bn Br) (SR g l n) (fun _ _ => True) w := by
  intro yl J Jx W1 hW1 hJ hJx hY hJ0
  have HY := Lib.hid hY
  have HJ := Lib.hid hJ
  have HL := Lib.hid hl
  clear hY hJ hl hJx
  have HI0 : Hid (IR g Bn Br l n J 0 W1) := ⟨(hW1.cell (p := ⟨Bn, 0, none⟩) hbn).trans hcn, (hW1.cell (p := ⟨Br, 0, none⟩) hbr).trans hcr, [], p0, rfl, hJ0, hp0, hR.below hW1 hR.lt⟩
  clear hcn hcr hJ0 hR hW1
  refine callsIn_of_wp Try.func64 rfl trivial ?_ rfl
  simp only [Try.ntmps64, List.size_toArray, List.length_cons, List.length_nil, Nat.reduceAdd, Nat.reduceSub, Array.replicate_succ, Array.replicate_zero, List.push_toArray, List.append_toArray, List.nil_append, List.cons_append]
  have hc0 := HI0.out.cn
  gi_wp2
  gi_loopw [5] (fun t5 wr => ∃ i : Nat, i ≤ n ∧ t5 = .int .i64 (i : Int) ∧ Hid (IR g Bn Br l n J i wr)) (fun t5 _ => n - (intOf t5).toNat)
  case atStart => exact ⟨0, by omega, rfl, HI0⟩
  case round =>
    obtain ⟨i, hi, rfl, HI⟩ := hrel
    clear HI0 hc0
    by_cases hlt : i < n
    case neg =>
      have h1 : ¬ (i : Int) < (n : Int) := by omega
      obtain rfl : i = n := by omega
      obtain ⟨xs, p, hxl, hj, hr, hR⟩ := HI.out.st
      have HX := Lib.hid (show _ ∧ _ ∧ _ ∧ _ from ⟨hxl, hj, hr, hR⟩)
      clear hxl hj hr hR HI
      gi_wp2
      go_end0
      exact ⟨⟨_, rfl⟩, .inl ⟨xs, ⟨HX.out.1, p, HX.out.2.2.1, HX.out.2.2.2⟩, HX.out.2.1⟩⟩
    have h1 : (i : Int) < (n : Int) := by omega
    have hcr := HI.out.cr
    obtain ⟨xs, p, hxl, hj, hr, hR⟩ := HI.out.st
    have HRD := Lib.hid (record_any g l p wr hR HL.out)
    have HXL := Lib.hid hxl
    have HR0 := Lib.hid hR
    have HJX := Lib.hid hj
    have HRE := Lib.hid hr
    have HCN := Lib.hid HI.out.cn
    have HCR := Lib.hid HI.out.cr
    clear hxl hj hr hR HI
    gi_wp2_with fail
    refine ⟨trivial, callsIn_wide.2 (HRD.out.mono ?_)⟩
    rintro e w3 ⟨s, rfl, hrec, hrd, hgr3⟩
    have hJ3 : J xs w3 := HJ.out _ _ _ HJX.out ⟨hgr3, ⟨_, _, HR0.out⟩, _, _, hrd⟩
    have HCN3 : Hid (w3.cell? ⟨Bn, 0, none⟩ = some (.int .i64 (n : Int))) := hgr3.cell HCN.out (fun e => hgn (Option.some.inj e).symm)
    have HCR3 : Hid (w3.cell? ⟨Br, 0, none⟩ = some (.pointer (some ⟨g, 0, none⟩))) := hgr3.cell HCR.out (fun e => hgr (Option.some.inj e).symm)
    have HRD3 := Lib.hid hrd
    have htr : TR l n xs ((recM l p).1, (recM l p).2.1, s) w3 := ⟨by rw [HXL.out]; exact hlt, ⟨p, by rw [HXL.out]; exact HRE.out, rfl, rfl⟩, hrec⟩
    obtain ⟨fn, tmps, assign, body, hy, hR⟩ := HY.out xs _ w3 htr hJ3
    unfold encR at hy
    dsimp only at hy
    obtain ⟨Z, hZ⟩ : ∃ Z, Z = recM l p := ⟨_, rfl⟩
    have HZ := Lib.hid hZ
    rw [← hZ] at hy hR HRD3 ⊢
    clear hZ htr HR0 hJ3 hrec hrd hgr3 HRD HCN HCR HJX hcr
    obtain ⟨z1, z2, z3, z4⟩ := Z
    dsimp only at hy hR HRD3
    gi_wp2_with fail
    refine hR.mono ?_
    rintro e W3 (⟨rfl, hok, hJ4, hk4⟩ | ⟨rfl, hJx4⟩)
    · have hok' : z1 = 0 := hok
      have hz4 : z4 = 0 := by have := recM_err0 (l := l) (p := p) (by rw [← HZ.out]; exact hok'); rw [← HZ.out] at this; exact this
      have HN : Hid (IR g Bn Br l n J (i + 1) W3) := ⟨(World.cell?_of_block (a := ⟨Bn, 0, none⟩) (hk4 _ (.inr (.inl rfl)))).trans HCN3.out, (World.cell?_of_block (a := ⟨Br, 0, none⟩) (hk4 _ (.inr (.inr rfl)))).trans HCR3.out,
        _, z3, by simp [HXL.out], hJ4, by
          have := rdE_next HRE.out (by rw [← HZ.out]; exact hok')
          rw [← HZ.out] at this
          rw [this, List.map_append]
          rfl, by
          have := HRD3.out.keep (fun k hk => hk4 k (.inl hk))
          rwa [hz4] at this⟩
      clear hk4 hJ4 hok hok' hz4 HRD3 HCN3 HCR3 hR hy
      gi_wp2
      go_roundw
      case rel => exact ⟨i + 1, by omega, by go_num, HN⟩
      case measure => simp [intOf]; omega
    · gi_wp2
      refine bodyPost_ret (results_none rfl _ _ _) rfl ?_
      exact ⟨⟨_, rfl⟩, .inr ⟨_, trivial, hJx4⟩⟩
end Go.Proofs.Ytnljhopikjkflaa.Rec
