/-
  How records open that came in.
-/
import Derived.Test.YtnljhopikjkflaaRec12
import Derived.Test.YtnljhopikjkflaaLift
import Derived.Deep.Grids
namespace Go.Proofs.Ytnljhopikjkflaa.Rec
set_option maxRecDepth 100000
open Go.RowKit Go.Proofs.Ytnljhopikjkflaa.Wd Go.ChangeShapes Go.WideShapes Go.Deep

/-- a record that can be read in a world -/
structure RecOk (W : World) (o : RM × RS) : Prop where
  at_ : RecAt W W.heap.size o.1 o.2
  u1 : InU64 o.1.lsn
  u2 : InU64 o.1.txn
  u3 : InU64 o.1.back
  u4 : InU64 o.1.next
section
variable {H : Type} {enc : TypeId × Value → H} {W : World}
theorem bytes_u8 : Try.prog.bytesOf 5 = 1 := by kernel_rfl
theorem cells_u8 : Try.prog.cellsOf 5 = 1 := by kernel_rfl
theorem cells_rec : Try.prog.cellsOf 34 = 9 := by kernel_rfl
theorem cells_u64 : Try.prog.cellsOf 32 = 1 := by kernel_rfl
theorem cells_int : Try.prog.cellsOf 3 = 1 := by kernel_rfl
theorem cells_bs : Try.prog.cellsOf 25 = 1 := by kernel_rfl
theorem rec_fields : ∃ f0 f1 f2 f3 f4 f5 f6 f7 f8 : Field, Try.prog.underlying 34 = some (.struct #[f0, f1, f2, f3, f4, f5, f6, f7, f8]) ∧
    (f0.type = 32 ∧ f1.type = 3 ∧ f2.type = 32 ∧ f3.type = 32 ∧ f4.type = 3 ∧ f5.type = 3 ∧ f6.type = 25 ∧ f7.type = 25 ∧ f8.type = 32) ∧
    (f0.offset = 0 ∧ f1.offset = 1 ∧ f2.offset = 2 ∧ f3.offset = 3 ∧ f4.offset = 4 ∧ f5.offset = 5 ∧ f6.offset = 6 ∧ f7.offset = 7 ∧ f8.offset = 8) :=
  ⟨_, _, _, _, _, _, _, _, _, Try.underlying34, ⟨rfl, rfl, rfl, rfl, rfl, rfl, rfl, rfl, rfl⟩, ⟨rfl, rfl, rfl, rfl, rfl, rfl, rfl, rfl, rfl⟩⟩
/-- a slice of bytes that came in -/
theorem open_by {fuel : Nat} {cs : List Value} {X : DataW H × List MemPlace} (h : DataW.trod enc Try.prog W 0 (fun _ => true) true fuel 25 cs = some X) :
    ∃ A n c l, cs = [.slice A n c] ∧ l.length = n ∧ n ≤ c ∧ (A = none → c = 0) ∧ Bs W W.heap.size A l ∧ ((X.1.weights Try.prog 25).all (· ≤ reachBytes) = true → c ≤ 140737488351232) := by
  rcases open_ints Try.underlying25 Try.underlying5 cells_u8 h with ⟨hcs, _⟩ | ⟨x, n, c, zs, hcs, _, hl, hm, hz, hx, hcell, hwz⟩
  · exact ⟨none, 0, 0, [], hcs, rfl, Nat.le_refl _, fun _ => rfl, Bs.nil _ _ _, fun _ => Nat.zero_le _⟩
  · have hz' : zs.length = c := by simpa using hz
    refine ⟨some x, n, c, (zs.take n).map (fun z => UInt8.ofNat z.toNat), hcs, by simp; omega, hl, (fun hh => by cases hh), ?_, fun hw => ?_⟩
    · intro hp
      have hp' : 0 < n := by simp at hp; omega
      have hc0 := hcell 0 (by omega)
      obtain ⟨b, off, spot⟩ := x
      have hspot : spot = none := by simpa [Addr.add] using World.cell?_spot hc0
      subst hspot
      refine ⟨b, off, rfl, World.block_lt_of_cell? W _ (by simpa [Addr.add_lit] using hc0), fun i hi => ?_⟩
      simp at hi
      have h1 := hcell i (by omega)
      rw [Addr.add_lit] at h1
      rw [h1]
      have hi' : i < zs.length := by omega
      have hw := hwz (zs.getD i 0) (by simp [List.getD_eq_getElem?_getD, hi'])
      have hw' : 0 ≤ zs.getD i 0 ∧ zs.getD i 0 ≤ 255 := by simpa [Lit.wf, IntKind.min, IntKind.max, IntKind.signed, IntKind.bits] using hw
      have e2 : ((zs.take n).map (fun z => UInt8.ofNat z.toNat)).getD i 0 = UInt8.ofNat (zs.getD i 0).toNat := by
        simp [List.getD_eq_getElem?_getD, hi', hi]
      rw [e2]
      generalize zs.getD i 0 = z at hw' ⊢
      obtain ⟨m, rfl⟩ := Int.eq_ofNat_of_zero_le hw'.1
      congr 2
      simp
      omega
    · have hd := congrArg Prod.fst hx
      simp only at hd
      rw [hd] at hw
      have hb := bytes_u8
      have hh := List.all_eq_true.1 hw
      have h2 := hh (c * 1) (by
        simp only [DataW.weights, Try.underlying25, hb, List.mem_cons]
        left
        simp [lits]
        omega)
      simp [reachBytes] at h2
      omega
theorem open_rec {fuel : Nat} {cs : List Value} {x : DataW H × List MemPlace} (h : DataW.trod enc Try.prog W 0 (fun _ => true) true fuel 34 cs = some x) (hw : (x.1.weights Try.prog 34).all (· ≤ reachBytes) = true) :
    ∃ o : RM × RS, cs = rcs o.1 o.2 ∧ RecOk W o := by
  obtain ⟨f0, f1, f2, f3, f4, f5, f6, f7, f8, hu, ⟨t0, t1, t2, t3, t4, t5, t6, t7, t8⟩, ⟨o0, o1, o2, o3, o4, o5, o6, o7, o8⟩⟩ := rec_fields
  obtain ⟨xs, n, _, hx, hl, hlen, hf⟩ := DataW.trod_struct hu h
  rw [cells_rec] at hl
  match xs, hlen, cs, hl with
  | [y0, y1, y2, y3, y4, y5, y6, y7, y8], _, [v0, v1, v2, v3, v4, v5, v6, v7, v8], _ =>
    have g0 := hf 0 f0 rfl
    have g1 := hf 1 f1 rfl
    have g2 := hf 2 f2 rfl
    have g3 := hf 3 f3 rfl
    have g4 := hf 4 f4 rfl
    have g5 := hf 5 f5 rfl
    have g6 := hf 6 f6 rfl
    have g7 := hf 7 f7 rfl
    have g8 := hf 8 f8 rfl
    simp [t0, t1, t2, t3, t4, t5, t6, t7, t8, o0, o1, o2, o3, o4, o5, o6, o7, o8, cells_int, cells_u64, cells_bs] at g0 g1 g2 g3 g4 g5 g6 g7 g8
    obtain ⟨a0, e0, _, w0⟩ := DataW.trod_int Try.underlying32 g0
    obtain ⟨a1, e1, _, w1⟩ := DataW.trod_int Try.underlying3 g1
    obtain ⟨a2, e2, _, w2⟩ := DataW.trod_int Try.underlying32 g2
    obtain ⟨a3, e3, _, w3⟩ := DataW.trod_int Try.underlying32 g3
    obtain ⟨a4, e4, _, w4⟩ := DataW.trod_int Try.underlying3 g4
    obtain ⟨a5, e5, _, w5⟩ := DataW.trod_int Try.underlying3 g5
    obtain ⟨A6, n6, c6, l6, e6, hl6, hc6, hn6, hv6, hr6⟩ := open_by g6
    obtain ⟨A7, n7, c7, l7, e7, hl7, hc7, hn7, hv7, hr7⟩ := open_by g7
    obtain ⟨a8, e8, _, w8⟩ := DataW.trod_int Try.underlying32 g8
    have wu : ∀ z : Int, Lit.wf (.int .u64 z) = true → 0 ≤ z ∧ z ≤ 18446744073709551615 := fun z hz => by simpa [Lit.wf, IntKind.min, IntKind.max, IntKind.signed, IntKind.bits] using hz
    have k0 := wu a0 w0
    have k2 := wu a2 w2
    have k3 := wu a3 w3
    have k8 := wu a8 w8
    have hmem : ∀ (j : Nat) (d : DataW H), ([y0.1, y1.1, y2.1, y3.1, y4.1, y5.1, y6.1, y7.1, y8.1] : List (DataW H))[j]? = some d → ((#[f0, f1, f2, f3, f4, f5, f6, f7, f8] : Array Field).toList.map (·.type))[j]? = some 25 → (d.weights Try.prog 25).all (· ≤ reachBytes) = true := fun j d hd ht => by
      rw [List.all_eq_true] at hw ⊢
      intro z hz
      refine hw z ?_
      rw [hx]
      have := DataW.weights_mem_each (P := Try.prog) (ts := (#[f0, f1, f2, f3, f4, f5, f6, f7, f8] : Array Field).toList.map (·.type)) (ds := [y0.1, y1.1, y2.1, y3.1, y4.1, y5.1, y6.1, y7.1, y8.1]) (j := j) (t := 25) (d := d) ht hd z hz
      simp only [DataW.weights, hu]
      simpa using this
    have hc6' := hr6 (hmem 6 y6.1 rfl (by simp [t6]))
    have hc7' := hr7 (hmem 7 y7.1 rfl (by simp [t7]))
    simp at e0 e1 e2 e3 e4 e5 e6 e7 e8
    obtain ⟨p0, rfl⟩ := Int.eq_ofNat_of_zero_le k0.1
    obtain ⟨p2, rfl⟩ := Int.eq_ofNat_of_zero_le k2.1
    obtain ⟨p3, rfl⟩ := Int.eq_ofNat_of_zero_le k3.1
    obtain ⟨p8, rfl⟩ := Int.eq_ofNat_of_zero_le k8.1
    refine ⟨(⟨p0, a1, p2, p3, a4, a5, l6, l7, p8⟩, ⟨A6, n6, c6, A7, n7, c7⟩), ?_, ⟨⟨hl6, hl7, by show n6 ≤ _; omega, by show n7 ≤ _; omega, hv6, hv7, hn6, hn7⟩, by show p0 < _; omega, by show p2 < _; omega, by show p3 < _; omega, by show p8 < _; omega⟩⟩
    simp [rcs, e0, e1, e2, e3, e4, e5, e6, e7, e8]
theorem weights_mem_all {P : Program} {e : TypeId} : ∀ {ds : List (DataW H)} {d : DataW H}, d ∈ ds → ∀ n ∈ d.weights P e, n ∈ DataW.weightsAll P e ds
  | d0 :: ds, d, hd, n, hn => by
    simp only [DataW.weightsAll, List.mem_append]
    rcases List.mem_cons.1 hd with rfl | hd
    · exact .inl hn
    · exact .inr (weights_mem_all hd n hn)
theorem open_recs {v : Value} {d : DataW H} {ps : List MemPlace} {base : Nat} (hval : Value.okWide Try.prog W .any base 22 v) (h : DataW.Trod enc Try.prog W 0 (fun _ => true) true 22 v d ps) (hw : (d.weights Try.prog 22).all (· ≤ reachBytes) = true) :
    ∃ A n c os, v = .slice A n c ∧ os.length = n ∧ n ≤ c ∧ (A = none → c = 0) ∧ c ≤ maxLen ∧ Rl W W.heap.size A os ∧ ∀ o ∈ os, RecOk W o := by
  obtain ⟨a0, len0, cap0, rfl⟩ := okWide_slice Try.underlying22 hval
  obtain ⟨fuel, hf⟩ := h
  have hf' : DataW.trod enc Try.prog W 0 (fun _ => true) true fuel 22 [.slice a0 len0 cap0] = some (d, ps) := hf
  rcases open_slice Try.underlying22 hf' with ⟨h0, _⟩ | ⟨a, n, c, m, q, D, Pl, hcs, _, hl, hm, hmm, hx, hcell⟩
  · simp at h0
    obtain ⟨rfl, rfl, rfl⟩ := h0
    exact ⟨none, 0, 0, [], rfl, rfl, Nat.le_refl _, fun _ => rfl, Nat.zero_le _, ⟨fun hp => absurd hp (by simp), fun x hx => by cases hx⟩, fun o ho => by cases ho⟩
  · simp at hcs
    obtain ⟨rfl, rfl, rfl⟩ := hcs
    simp only [if_true] at hmm
    subst hmm
    have hd : d = .slice ((List.range len0).map D) ((List.range (m - len0)).map fun j => D (len0 + j)) := congrArg Prod.fst hx
    by_cases hz : len0 = 0
    · subst hz
      exact ⟨some a, 0, m, [], rfl, rfl, hl, (fun hh => by cases hh), hm, ⟨fun hp => absurd hp (by simp), fun x hx => by cases hx⟩, fun o ho => by cases ho⟩
    have hs : a.spot = none := by
      obtain ⟨cs', h1, h2⟩ := hcell 0 (by omega)
      rw [cells_rec] at h1
      obtain ⟨_, hlen, hc⟩ := World.cells?_some h1
      have h00 := hc 0 (by omega)
      rw [add_add] at h00
      rw [List.getElem?_eq_getElem (by omega)] at h00
      simpa [Addr.add] using World.cell?_spot h00
    obtain ⟨b, off, spot⟩ := a
    have hs' : spot = none := hs
    subst hs'
    have each : ∀ i, i < len0 → ∃ o : RM × RS, W.rangeAt b (off + i * 9) (rcs o.1 o.2) ∧ RecOk W o := fun i hi => by
      obtain ⟨cs', h1, h2⟩ := hcell i (by omega)
      rw [cells_rec] at h1
      obtain ⟨_, hlen, hc⟩ := World.cells?_some h1
      obtain ⟨o, rfl, hok⟩ := open_rec h2 (by
        rw [List.all_eq_true] at hw ⊢
        intro z hz
        refine hw z ?_
        rw [hd]
        simp only [DataW.weights, Try.underlying22, List.mem_cons, List.mem_append]
        exact .inr (.inl (weights_mem_all (List.mem_map.2 ⟨i, List.mem_range.2 hi, rfl⟩) z hz)))
      refine ⟨o, fun j v hj => ?_, hok⟩
      have h3 := hc j (by rw [← hlen]; exact (List.getElem?_eq_some_iff.1 hj).1)
      rw [add_add, Addr.add_lit] at h3
      rw [Nat.add_assoc, h3, hj]
    have : Inhabited (RM × RS) := ⟨(⟨0, 0, 0, 0, 0, 0, [], [], 0⟩, ⟨none, 0, 0, none, 0, 0⟩)⟩
    obtain ⟨f, hf⟩ := choose_lt each
    have hall : ∀ o ∈ (List.range len0).map f, RecOk W o := fun o ho => by
      obtain ⟨i, hi, rfl⟩ := List.mem_map.1 ho
      exact (hf i (List.mem_range.1 hi)).2
    refine ⟨_, len0, m, (List.range len0).map f, rfl, by simp, hl, (fun hh => by cases hh), hm, ⟨fun hp => ?_, fun o ho => (hall o ho).at_⟩, hall⟩
    refine ⟨b, off, rfl, ?_, fun i o hi => ?_⟩
    · have := (hf 0 (by omega)).1 0 (.int .u64 ((f 0).1.lsn : Int)) rfl
      exact World.block_lt_of_cell? W _ this
    · have hi' : i < len0 := by have := (List.getElem?_eq_some_iff.1 hi).1; simpa using this
      have : o = f i := by simpa [hi'] using hi.symm
      rw [this]; exact (hf i hi').1
end
end Go.Proofs.Ytnljhopikjkflaa.Rec
