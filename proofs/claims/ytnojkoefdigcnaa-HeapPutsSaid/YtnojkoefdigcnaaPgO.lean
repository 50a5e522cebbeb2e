/-
  How pages open that came in.
-/
import Derived.Test.YtnojkoefdigcnaaPgK
import Derived.Test.YtnojkoefdigcnaaOpenL
namespace Go.Proofs.Ytnojkoefdigcnaa.Pg
set_option maxRecDepth 100000
open Go.RowKit Go.Proofs.Ytnojkoefdigcnaa.Wd Go.Proofs.Ytnojkoefdigcnaa.Rec Go.ChangeShapes Go.WideShapes Go.Deep

/-- a page that came in: its number, its Lsn, its slots -/
structure PX where
  num : Int
  lsn : Nat
  sl : Nat → List UInt8
  s : PS
def PX.cells (x : PX) : List Value := pcs x.num x.lsn x.s
structure PgOk (W : World) (o : PX) : Prop where
  at_ : PgAt W W.heap.size o.sl o.s
  u1 : InU64 o.lsn
  n0 : -9223372036854775808 ≤ o.num
  n1 : o.num ≤ 9223372036854775807
  most : ∀ k, k < 4 → o.s.n k ≤ 140737488351232
section
variable {H : Type} {enc : TypeId × Value → H} {W : World}
theorem bytes_u8 : Try.prog.bytesOf 5 = 1 := by kernel_rfl
theorem cells_u8 : Try.prog.cellsOf 5 = 1 := by kernel_rfl
theorem cells_page : Try.prog.cellsOf 73 = 6 := by kernel_rfl
theorem cells_arr : Try.prog.cellsOf 71 = 4 := by kernel_rfl
theorem cells_u64 : Try.prog.cellsOf 26 = 1 := by kernel_rfl
theorem cells_int : Try.prog.cellsOf 3 = 1 := by kernel_rfl
theorem cells_bs : Try.prog.cellsOf 31 = 1 := by kernel_rfl
theorem page_fields : ∃ f0 f1 f2 : Field, Try.prog.underlying 73 = some (.struct #[f0, f1, f2]) ∧
    (f0.type = 3 ∧ f1.type = 26 ∧ f2.type = 71) ∧ (f0.offset = 0 ∧ f1.offset = 1 ∧ f2.offset = 2) :=
  ⟨_, _, _, Try.underlying73, ⟨rfl, rfl, rfl⟩, ⟨rfl, rfl, rfl⟩⟩
theorem open_bs {fuel : Nat} {cs : List Value} {X : DataW H × List MemPlace} (h : DataW.trod enc Try.prog W 0 (fun _ => true) true fuel 31 cs = some X) (hw : (X.1.weights Try.prog 31).all (· ≤ reachBytes) = true) :
    ∃ A n c l, cs = [.slice A n c] ∧ Sl W W.heap.size A n c l ∧ c ≤ 140737488351232 := by
  obtain ⟨A, n, c, l, e, h1, h2, h3, h4, h5⟩ := Lift.open_by Try.underlying31 Try.underlying5 cells_u8 bytes_u8 h
  have := h5 hw
  exact ⟨A, n, c, l, e, ⟨h1, h2, by unfold maxLen; omega, h3, h4⟩, this⟩
theorem open_page {fuel : Nat} {cs : List Value} {x : DataW H × List MemPlace} (h : DataW.trod enc Try.prog W 0 (fun _ => true) true fuel 73 cs = some x) (hw : (x.1.weights Try.prog 73).all (· ≤ reachBytes) = true) :
    ∃ o : PX, cs = o.cells ∧ PgOk W o := by
  obtain ⟨f0, f1, f2, hu, ⟨t0, t1, t2⟩, ⟨o0, o1, o2⟩⟩ := page_fields
  obtain ⟨xs, n, _, hx, hl, hlen, hf⟩ := DataW.trod_struct hu h
  rw [cells_page] at hl
  match xs, hlen, cs, hl with
  | [y0, y1, y2], _, [v0, v1, v2, v3, v4, v5], _ =>
    have g0 := hf 0 f0 rfl
    have g1 := hf 1 f1 rfl
    have g2 := hf 2 f2 rfl
    simp [t0, t1, t2, o0, o1, o2, cells_int, cells_u64, cells_arr] at g0 g1 g2
    obtain ⟨a0, e0, _, w0⟩ := DataW.trod_int Try.underlying3 g0
    obtain ⟨a1, e1, _, w1⟩ := DataW.trod_int Try.underlying26 g1
    obtain ⟨z0, z1, z2, z3, m, hz, k0, k1, k2, k3⟩ := trod_array4 Try.underlying71 cells_bs g2
    have hwa : (y2.1.weights Try.prog 71).all (· ≤ reachBytes) = true := by
      rw [List.all_eq_true] at hw ⊢
      intro z hz'
      refine hw z ?_
      rw [hx]
      have := DataW.weights_mem_each (P := Try.prog) (ts := (#[f0, f1, f2] : Array Field).toList.map (·.type)) (ds := [y0.1, y1.1, y2.1]) (j := 2) (t := 71) (d := y2.1) (by simp [t2]) rfl z hz'
      simp only [DataW.weights, hu]
      simpa using this
    rw [hz] at hwa
    simp only [DataW.weights, Try.underlying71] at hwa
    obtain ⟨A0, n0, c0, l0, q0, s0, b0⟩ := open_bs k0 (Lift.weights_all (by simp) hwa)
    obtain ⟨A1, n1, c1, l1, q1, s1, b1⟩ := open_bs k1 (Lift.weights_all (by simp) hwa)
    obtain ⟨A2, n2, c2, l2, q2, s2, b2⟩ := open_bs k2 (Lift.weights_all (by simp) hwa)
    obtain ⟨A3, n3, c3, l3, q3, s3, b3⟩ := open_bs k3 (Lift.weights_all (by simp) hwa)
    simp at e0 e1 q0 q1 q2 q3
    have u1 : 0 ≤ a1 ∧ a1 ≤ 18446744073709551615 := by simpa [Lit.wf, IntKind.min, IntKind.max, IntKind.signed, IntKind.bits] using w1
    have u0 : -9223372036854775808 ≤ a0 ∧ a0 ≤ 9223372036854775807 := by simpa [Lit.wf, IntKind.min, IntKind.max, IntKind.signed, IntKind.bits] using w0
    obtain ⟨p1, rfl⟩ := Int.eq_ofNat_of_zero_le u1.1
    refine ⟨⟨a0, p1, fun k => match k with | 0 => l0 | 1 => l1 | 2 => l2 | _ => l3, ⟨fun k => match k with | 0 => A0 | 1 => A1 | 2 => A2 | _ => A3, fun k => match k with | 0 => n0 | 1 => n1 | 2 => n2 | _ => n3, fun k => match k with | 0 => c0 | 1 => c1 | 2 => c2 | _ => c3⟩⟩, ?_, ⟨fun k hk => ?_, by show p1 < _; omega, u0.1, u0.2, fun k hk => ?_⟩⟩
    · simp [PX.cells, pcs, e0, e1, q0, q1, q2, q3]
    · match k, hk with
      | 0, _ => exact s0
      | 1, _ => exact s1
      | 2, _ => exact s2
      | 3, _ => exact s3
    · match k, hk with
      | 0, _ => exact Nat.le_trans s0.cap b0
      | 1, _ => exact Nat.le_trans s1.cap b1
      | 2, _ => exact Nat.le_trans s2.cap b2
      | 3, _ => exact Nat.le_trans s3.cap b3
theorem open_pages {v : Value} {d : DataW H} {ps : List MemPlace} {base : Nat} (hval : Value.okWide Try.prog W .any base 44 v) (h : DataW.Trod enc Try.prog W 0 (fun _ => true) true 44 v d ps) (hw : (d.weights Try.prog 44).all (· ≤ reachBytes) = true) :
    ∃ A n c os, v = .slice A n c ∧ os.length = n ∧ n ≤ c ∧ (A = none → c = 0) ∧ c ≤ maxLen ∧ Lift.Many PX.cells 6 W W.heap.size A os ∧ ∀ o ∈ os, PgOk W o :=
  Lift.open_many PX.cells (PgOk W) 6 (by omega) (fun _ => rfl) Try.underlying44 cells_page (fun h1 h2 => open_page h1 h2) hval h hw
end
end Go.Proofs.Ytnojkoefdigcnaa.Pg
