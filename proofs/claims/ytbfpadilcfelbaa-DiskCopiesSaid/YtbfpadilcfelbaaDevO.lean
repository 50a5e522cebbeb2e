/-
  How ops open that came in.
-/
import Derived.Test.YtbfpadilcfelbaaDev10
import Derived.Test.YtbfpadilcfelbaaLift
import Derived.Deep.Grids
namespace Go.Proofs.Ytbfpadilcfelbaa.Dsk
open Go.RowKit Go.Proofs.Ytbfpadilcfelbaa.Wd Go.ChangeShapes Go.WideShapes Go.Deep

/-- an op -/
structure OM where
  k : Int
  a : Int
  x : UInt8
  A : Option Addr
  n : Nat
  c : Nat
  l : List Bool
def OM.cells (o : OM) : List Value := ocs o.k o.a o.x o.A o.n o.c
def OM.val (o : OM) : Value := opv o.k o.a o.x o.A o.n o.c
/-- an op that can be read in a world -/
structure OpOk (W : World) (o : OM) : Prop where
  len : o.l.length = o.n
  vs : Vs W W.heap.size o.A (bools o.l)
  nil : o.A = none → o.c = 0
  most : o.n ≤ 140737488351232
  low : -9223372036854775808 ≤ o.a
  high : o.a < 9223372036854775808
/-- The address A, with as many ops as os has, reads os; it lies below block B. -/
def Opl (w : World) (B : Nat) (A : Option Addr) (os : List OM) : Prop :=
  0 < os.length → ∃ b o, A = some ⟨b, o, none⟩ ∧ b < B ∧ ∀ i m, os[i]? = some m → w.rangeAt b (o + i * 4) m.cells
section
variable {H : Type} {enc : TypeId × Value → H} {W : World}
theorem bytes_bool : Try.prog.bytesOf 4 = 1 := by kernel_rfl
theorem cells_bool : Try.prog.cellsOf 4 = 1 := by kernel_rfl
theorem cells_op : Try.prog.cellsOf 37 = 4 := by kernel_rfl
theorem op_fields : ∃ f0 f1 f2 f3 : Field, Try.prog.underlying 37 = some (.struct #[f0, f1, f2, f3]) ∧ f0.type = 3 ∧ f1.type = 3 ∧ f2.type = 5 ∧ f3.type = 35 ∧ f0.offset = 0 ∧ f1.offset = 1 ∧ f2.offset = 2 ∧ f3.offset = 3 :=
  ⟨_, _, _, _, Try.underlying37, rfl, rfl, rfl, rfl, rfl, rfl, rfl, rfl⟩
theorem cells_int : Try.prog.cellsOf 3 = 1 := by kernel_rfl
theorem cells_u8 : Try.prog.cellsOf 5 = 1 := by kernel_rfl
theorem cells_bs : Try.prog.cellsOf 35 = 1 := by kernel_rfl
/-- a slice of bools that came in -/
theorem open_bs {fuel : Nat} {cs : List Value} {x : DataW H × List MemPlace} (h : DataW.trod enc Try.prog W 0 (fun _ => true) true fuel 35 cs = some x) :
    ∃ A n c l, cs = [.slice A n c] ∧ l.length = n ∧ n ≤ c ∧ (A = none → c = 0) ∧ Vs W W.heap.size A (bools l) ∧ ((x.1.weights Try.prog 35).all (· ≤ reachBytes) = true → c ≤ 140737488351232) := by
  rcases open_bools Try.underlying35 Try.underlying4 cells_bool h with ⟨rfl, rfl⟩ | ⟨a, n, c, B, rfl, _, hl, hm, rfl, hcell⟩
  · exact ⟨none, 0, 0, [], rfl, rfl, Nat.le_refl _, fun _ => rfl, (fun hp => absurd hp (by simp [bools])), fun _ => Nat.zero_le _⟩
  · refine ⟨some a, n, c, (List.range n).map B, rfl, by simp, hl, (fun hh => by cases hh), fun hp => ?_, fun hw => ?_⟩
    · have hp' : 0 < n := by simpa [bools] using hp
      have hc0 := hcell 0 (by omega)
      obtain ⟨b, off, spot⟩ := a
      have hspot : spot = none := by simpa [Addr.add] using World.cell?_spot hc0
      subst hspot
      refine ⟨b, off, rfl, World.block_lt_of_cell? W _ (by simpa [Addr.add_lit] using hc0), fun j v hj => ?_⟩
      have hj' : j < n := by have := (List.getElem?_eq_some_iff.1 hj).1; simpa [bools] using this
      have h1 := hcell j (by omega)
      rw [Addr.add_lit] at h1
      rw [h1]
      simpa [bools, hj'] using hj
    · have hb := bytes_bool
      have hh := List.all_eq_true.1 hw
      have h2 := hh (((List.range n).length + (List.range (c - n)).length) * 1) (by
        simp [boolRow, DataW.weights, Try.underlying35, hb])
      simp [reachBytes] at h2
      omega
theorem open_op {fuel : Nat} {cs : List Value} {x : DataW H × List MemPlace} (h : DataW.trod enc Try.prog W 0 (fun _ => true) true fuel 37 cs = some x) (hw : (x.1.weights Try.prog 37).all (· ≤ reachBytes) = true) :
    ∃ o : OM, cs = o.cells ∧ OpOk W o := by
  obtain ⟨f0, f1, f2, f3, hu, t0, t1, t2, t3, o0, o1, o2, o3⟩ := op_fields
  obtain ⟨xs, n, _, hx, hl, hlen, hf⟩ := DataW.trod_struct hu h
  rw [cells_op] at hl
  match xs, hlen, cs, hl with
  | [y0, y1, y2, y3], _, [v0, v1, v2, v3], _ =>
    have g0 := hf 0 f0 rfl
    have g1 := hf 1 f1 rfl
    have g2 := hf 2 f2 rfl
    have g3 := hf 3 f3 rfl
    simp [t0, t1, t2, t3, o0, o1, o2, o3, cells_int, cells_u8, cells_bs] at g0 g1 g2 g3
    obtain ⟨k, e0, _, w0⟩ := DataW.trod_int Try.underlying3 g0
    obtain ⟨a, e1, _, w1⟩ := DataW.trod_int Try.underlying3 g1
    obtain ⟨b, e2, _, w2⟩ := DataW.trod_int Try.underlying5 g2
    obtain ⟨A, m, c, l, e3, hl3, hmc, hn3, hv3, hr3⟩ := open_bs g3
    have w1' : -9223372036854775808 ≤ a ∧ a ≤ 9223372036854775807 := by simpa [Lit.wf, IntKind.min, IntKind.max, IntKind.signed, IntKind.bits] using w1
    have w2' : 0 ≤ b ∧ b ≤ 255 := by simpa [Lit.wf, IntKind.min, IntKind.max, IntKind.signed, IntKind.bits] using w2
    have hc := hr3 (by
      rw [List.all_eq_true] at hw ⊢
      intro z hz
      refine hw z ?_
      rw [hx]
      have := DataW.weights_mem_each (P := Try.prog) (ts := (#[f0, f1, f2, f3] : Array Field).toList.map (·.type)) (ds := [y0.1, y1.1, y2.1, y3.1]) (j := 3) (t := 35) (d := y3.1) (by simp [t3]) rfl z hz
      simp only [DataW.weights, hu]
      simpa using this)
    refine ⟨⟨k, a, UInt8.ofNat b.toNat, A, m, c, l⟩, ?_, hl3, hv3, hn3, by show m ≤ _; omega, by show _ ≤ a; omega, by show a < _; omega⟩
    simp at e0 e1 e2 e3
    obtain ⟨q, rfl⟩ := Int.eq_ofNat_of_zero_le w2'.1
    have hq : q % 256 = q := by omega
    simp [OM.cells, ocs, e0, e1, e2, e3]
    omega
theorem weights_mem_all {P : Program} {e : TypeId} : ∀ {ds : List (DataW H)} {d : DataW H}, d ∈ ds → ∀ n ∈ d.weights P e, n ∈ DataW.weightsAll P e ds
  | d0 :: ds, d, hd, n, hn => by
    simp only [DataW.weightsAll, List.mem_append]
    rcases List.mem_cons.1 hd with rfl | hd
    · exact .inl hn
    · exact .inr (weights_mem_all hd n hn)
theorem open_ops {v : Value} {d : DataW H} {ps : List MemPlace} {base : Nat} (hval : Value.okWide Try.prog W .any base 22 v) (h : DataW.Trod enc Try.prog W 0 (fun _ => true) true 22 v d ps) (hw : (d.weights Try.prog 22).all (· ≤ reachBytes) = true) :
    ∃ A n c os, v = .slice A n c ∧ os.length = n ∧ n ≤ c ∧ (A = none → c = 0) ∧ c ≤ maxLen ∧ Opl W W.heap.size A os ∧ ∀ o ∈ os, OpOk W o := by
  obtain ⟨a0, len0, cap0, rfl⟩ := okWide_slice Try.underlying22 hval
  obtain ⟨fuel, hf⟩ := h
  have hf' : DataW.trod enc Try.prog W 0 (fun _ => true) true fuel 22 [.slice a0 len0 cap0] = some (d, ps) := hf
  rcases open_slice Try.underlying22 hf' with ⟨h0, _⟩ | ⟨a, n, c, m, q, D, Pl, hcs, _, hl, hm, hmm, hx, hcell⟩
  · simp at h0
    obtain ⟨rfl, rfl, rfl⟩ := h0
    exact ⟨none, 0, 0, [], rfl, rfl, Nat.le_refl _, fun _ => rfl, Nat.zero_le _, (fun hp => absurd hp (by simp)), fun o ho => by cases ho⟩
  · simp at hcs
    obtain ⟨rfl, rfl, rfl⟩ := hcs
    simp only [if_true] at hmm
    subst hmm
    have hd : d = .slice ((List.range len0).map D) ((List.range (m - len0)).map fun j => D (len0 + j)) := congrArg Prod.fst hx
    by_cases hz : len0 = 0
    · subst hz
      exact ⟨some a, 0, m, [], rfl, rfl, hl, (fun hh => by cases hh), hm, (fun hp => absurd hp (by simp)), fun o ho => by cases ho⟩
    have hs : a.spot = none := by
      obtain ⟨cs', h1, h2⟩ := hcell 0 (by omega)
      rw [cells_op] at h1
      obtain ⟨_, hlen, hc⟩ := World.cells?_some h1
      have h00 := hc 0 (by omega)
      rw [add_add] at h00
      rw [List.getElem?_eq_getElem (by omega)] at h00
      simpa [Addr.add] using World.cell?_spot h00
    obtain ⟨b, off, spot⟩ := a
    have hs' : spot = none := hs
    subst hs'
    have each : ∀ i, i < len0 → ∃ o : OM, W.rangeAt b (off + i * 4) o.cells ∧ OpOk W o := fun i hi => by
      obtain ⟨cs', h1, h2⟩ := hcell i (by omega)
      rw [cells_op] at h1
      obtain ⟨_, hlen, hc⟩ := World.cells?_some h1
      obtain ⟨o, rfl, hok⟩ := open_op h2 (by
        rw [List.all_eq_true] at hw ⊢
        intro z hz
        refine hw z ?_
        rw [hd]
        simp only [DataW.weights, Try.underlying22, List.mem_cons, List.mem_append]
        exact .inr (.inl (weights_mem_all (List.mem_map.2 ⟨i, List.mem_range.2 hi, rfl⟩) z hz)))
      refine ⟨o, fun j v hj => ?_, hok⟩
      have h3 := hc j (by rw [← hlen]; exact (List.getElem?_eq_some_iff.1 hj).1)
      rw [add_add, Addr.add_lit] at h3
      rw [Nat.add_assoc, h3, hj]
    have : Inhabited OM := ⟨⟨0, 0, 0, none, 0, 0, []⟩⟩
    obtain ⟨f, hf⟩ := choose_lt each
    refine ⟨_, len0, m, (List.range len0).map f, rfl, by simp, hl, (fun hh => by cases hh), hm, fun hp => ?_, fun o ho => ?_⟩
    · refine ⟨b, off, rfl, ?_, fun i o hi => ?_⟩
      · have := (hf 0 (by omega)).1 0 (.int .i64 (f 0).k) rfl
        exact World.block_lt_of_cell? W _ this
      · have hi' : i < len0 := by have := (List.getElem?_eq_some_iff.1 hi).1; simpa using this
        have : o = f i := by simpa [hi'] using hi.symm
        rw [this]; exact (hf i hi').1
    · obtain ⟨i, hi, rfl⟩ := List.mem_map.1 ho
      exact (hf i (List.mem_range.1 hi)).2
end
end Go.Proofs.Ytbfpadilcfelbaa.Dsk
