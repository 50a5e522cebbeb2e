/-
  A record's reader: read, item, fields.
-/
import Derived.Test.YtnljhopikjkflaaRec6
import Derived.Deep.Cut
import Derived.Deep.CutRange
namespace Go.Proofs.Ytnljhopikjkflaa.Rec
set_option maxRecDepth 100000
open Go.RowKit Go.Proofs.Ytnljhopikjkflaa.Wd Go.Proofs.Ytnljhopikjkflaa.Oct Go.Proofs.Ytnljhopikjkflaa.Dsk

/-- a number of k bytes is read: the number, the place and the error behind it -/
def rn (k : Int) (l : List UInt8) (p : Nat × Int) : Nat × (Nat × Int) := (num (Oct.step l p.1 p.2 k).1, (Oct.step l p.1 p.2 k).2)
/-- an item is read -/
def rb (l : List UInt8) (p : Nat × Int) : List UInt8 × (Nat × Int) := Oct.step l (rn 1 l p).2.1 (rn 1 l p).2.2 ((rn 1 l p).1 : Int)
def pl (J : Bool) (l : List UInt8) (p : Nat × Int) : Nat × (Nat × Int) := if J then rn 1 l p else (0, p)
def it (J : Bool) (l : List UInt8) (p : Nat × Int) : List UInt8 × (Nat × Int) := if J then rb l p else ([], p)
def nx (J : Bool) (l : List UInt8) (p : Nat × Int) : Nat × (Nat × Int) := if J then rn 8 l p else (0, p)
/-- the fields are read -/
def fieldsM (l : List UInt8) (J2 J4 J8 J16 : Bool) (p : Nat × Int) : RM × (Nat × Int) :=
  let a := rn 8 l p
  let b := rn 8 l a.2
  let c := rn 8 l b.2
  let d := pl J2 l c.2
  let e := pl J2 l d.2
  let o := it J4 l e.2
  let n := it J8 l o.2
  let x := nx J16 l n.2
  (⟨a.1, 0, b.1, c.1, (d.1 : Int), (e.1 : Int), o.1, n.1, x.1⟩, x.2)
theorem Row.grown2 {w w' : World} {g a : Nat} {t : TypeId} {cs : List Value} (h : Row w a t cs) (hb : w.grownBy w' (some g)) (hg : a ≠ g) : Row w' a t cs := h.grown hb (fun e => hg (Option.some.inj e))
theorem grown_alloc {w w' : World} {r : Option Nat} (h : w.grownBy w' r) (o : Obj) : w.grownBy (w'.alloc o) r :=
  ⟨h.os, h.tape, h.output, by rw [World.size_alloc]; exact Nat.le_succ_of_le h.size, fun k hk hr => (Below.heap_alloc w' o k (Nat.lt_of_lt_of_le hk h.size)).trans (h.block k hk hr)⟩
theorem grown_refl (w : World) (r : Option Nat) : w.grownBy w r := ⟨rfl, rfl, rfl, Nat.le_refl _, fun _ _ _ => rfl⟩
theorem grown_drew {w w' : World} {r : Option Nat} (h : w.grownBy w' r) : w.grownBy w'.drew r := ⟨h.os, h.tape, h.output, h.size, h.block⟩
theorem grown_undrew {w w' : World} {r : Option Nat} (h : w.drew.grownBy w' r) : w.grownBy w' r := ⟨h.os, h.tape, h.output, h.size, h.block⟩
/-- a step from a world behind the start -/
theorem grown_then {w a b : World} {g : Nat} (h : w.grownBy a (some g)) (k : a.grownBy b (some g)) : w.grownBy b (some g) := grown_trans h k
theorem grown_setCell {w w' : World} {r : Option Nat} (h : w.grownBy w' r) {p : Addr} (hp : w.heap.size ≤ p.block) (v : Value) : w.grownBy (w'.setCell p v) r :=
  ⟨h.os, h.tape, h.output, by simpa [World.setCell] using h.size, fun k hk hr => (Below.heap_setCell w' p v k (by omega)).trans (h.block k hk hr)⟩
/-- a step that writes a block of one's own -/
theorem grown_own {w a b : World} {r : Option Nat} {q : Nat} (h : w.grownBy a r) (k : a.grownBy b (some q)) (hq : w.heap.size ≤ q) : w.grownBy b r :=
  ⟨k.os.trans h.os, k.tape.trans h.tape, k.output.trans h.output, Nat.le_trans h.size k.size, fun j hj hr => (k.block j (Nat.lt_of_lt_of_le hj h.size) (fun e => by have := Option.some.inj e; omega)).trans (h.block j hj hr)⟩
/-- bytes of one's own stay -/
theorem Bs.grown {w w' : World} {B g : Nat} {A : Option Addr} {l : List UInt8} (h : Bs w B A l) (hB : B ≤ w.heap.size) (hb : w.grownBy w' (some g)) (hA : ∀ b o, A = some ⟨b, o, none⟩ → b ≠ g) : Bs w' B A l :=
  h.keep2 fun b o e hlt => hb.block b (by omega) (fun e2 => hA b o e (Option.some.inj e2))

/-- a Reader stays where a block is written that is no row of bytes -/
theorem Rdr.far {w w' : World} {g a : Nat} {l : List UInt8} {at_ : Nat} {err : Int} {t : TypeId} {cs : List Value} (h : Rdr w g l at_ err) (hr : Row w a t cs) (hne : a ≠ g) (hcs : ∀ v ∈ cs, ∀ z, v ≠ .int .u8 z) (hk : ∀ k, k ≠ a → k < w.heap.size → w'.heap[k]? = w.heap[k]?) : Rdr w' g l at_ err := by
  obtain ⟨A, n, c, hrow, hn, hb, h1⟩ := h
  refine ⟨A, n, c, (hk g (Ne.symm hne) hrow.lt).trans hrow, hn, ?_, h1⟩
  intro hp
  obtain ⟨b, o, e, hlt, hc⟩ := hb hp
  have hba : b ≠ a := by
    rintro rfl
    have h2 := hc 0 hp
    rw [hr.cell] at h2
    obtain ⟨hi, h3⟩ := List.getElem?_eq_some_iff.1 h2
    exact hcs _ (List.getElem_mem hi) _ h3
  exact ⟨b, o, e, hlt, fun i hi => (World.cell?_of_block (w := w) (a := ⟨b, o + i, none⟩) (hk b hba (Nat.lt_trans hlt hrow.lt))).trans (hc i hi)⟩

theorem read_rec (A : Option Addr) (l : List UInt8) (n c : Nat) (w : World) (hl : l.length = n) (hn : n ≤ 140737488355328) (B : Nat) (hb : Bs w B A l) (hB : B ≤ w.heap.size) (hA : A = none → c = 0) :
    Calls Try.prog 38 #[.slice A n c] w fun e w' => ∃ g, e = .returned (.agg #[.pointer (some ⟨g, 0, none⟩)]) ∧ w.heap.size ≤ g ∧ Rdr w' g l 0 0 ∧ Below w.heap.size w w' := by
  have HL := Lib.hid hl
  have HA := Lib.hid hA
  have HB := Lib.hid hb
  clear hl hA hb
  go_enter Try.func38, Try.ntmps38
  go_wp2_with fail
  have r0 : Row (w.alloc (.cells #[.pointer none] 69)) w.heap.size 69 [.pointer none] := Row.new w _ _
  have hb0 : Below w.heap.size w (w.alloc (.cells #[.pointer none] 69)) := (Below.refl _ _).alloc (Nat.le_refl _) _
  have hs0 : (w.alloc (.cells #[.pointer none] 69)).heap.size = w.heap.size + 1 := by simp
  refine (read_any A l n c _ HL.out hn B (HB.out.alloc hB _) HA.out).mono ?_
  rintro e w1 ⟨g, rfl, hg, hR, hbel⟩
  have R0 := Lib.hid (r0.below hbel (by omega))
  have HR := Lib.hid hR
  have HBL := Lib.hid (hb0.trans (hbel.mono (by omega)))
  have hgw : w.heap.size < g := by omega
  have hc0 : w1.cell? ⟨w.heap.size, 0, none⟩ = some (.pointer none) := R0.out.cell 0
  have hf0 := R0.out.frozen 0
  clear r0 hb0 hbel hR hg hs0
  go_wp2
  have hlt0 := R0.out.lt
  have r2 : Row (w1.setCell ⟨w.heap.size, 0, none⟩ (.pointer (some ⟨g, 0, none⟩))) w.heap.size 69 [.pointer (some ⟨g, 0, none⟩)] := Row.store R0.out 0 _
  have HRES := Lib.hid (run_loadVar_mid (P := Try.prog) _ w.heap.size 0 69 [.pointer (some ⟨g, 0, none⟩)] _ (Row.all r2) Try.underlying69 rfl (by kernel_rfl))
  have hR2 : Rdr (w1.setCell ⟨w.heap.size, 0, none⟩ (.pointer (some ⟨g, 0, none⟩))) g l 0 0 := Rdr.far HR.out R0.out (by omega) (by intro v hv z e; simp at hv; rw [hv] at e; cases e) (fun k hk _ => Below.heap_setCell w1 _ _ k hk)
  exact bodyPost_ret (v := .agg #[.pointer (some ⟨g, 0, none⟩)]) (results_cell (p := 2) (ty := 69) rfl _ _ ⟨w.heap.size, 0, none⟩ _ rfl HRES.out) rfl ⟨g, rfl, by omega, hR2, HBL.out.setCell (Nat.le_refl _) _⟩

set_option maxHeartbeats 1000000 in
theorem item_any (g : Nat) (l : List UInt8) (at_ : Nat) (err : Int) (w : World) (hR : Rdr w g l at_ err) (hl : l.length ≤ 140737488355328) :
    Calls Try.prog 80 #[.agg #[.pointer (some ⟨g, 0, none⟩)]] w fun e w' => ∃ A m c, e = .returned (.slice A m c) ∧ Hid ((rb l (at_, err)).1.length = m) ∧ (A = none → c = 0) ∧ Bs w' w'.heap.size A (rb l (at_, err)).1 ∧ Rdr w' g l (rb l (at_, err)).2.1 (rb l (at_, err)).2.2 ∧ w.grownBy w' (some g) ∧ (∀ b o, A = some ⟨b, o, none⟩ → w.heap.size ≤ b) := by
  have mixed : Try.prog.follows .mixedOrders = true := by kernel_rfl
  have hgw := hR.lt
  have HRB : Hid (rb l (at_, err) = Oct.step l (Oct.step l at_ err 1).2.1 (Oct.step l at_ err 1).2.2 ((num (Oct.step l at_ err 1).1 : Nat) : Int)) := rfl
  generalize rb l (at_, err) = Z at HRB ⊢
  have HL := Lib.hid hl
  go_enter Try.func80, Try.ntmps80
  go_wp2_with fail
  have r0 : Row (w.alloc (.cells #[.pointer (some ⟨g, 0, none⟩)] 69)) w.heap.size 69 [.pointer (some ⟨g, 0, none⟩)] := Row.new w _ _
  have hR0 : Rdr (w.alloc (.cells #[.pointer (some ⟨g, 0, none⟩)] 69)) g l at_ err := hR.below ((Below.refl _ _).alloc (Nat.le_refl _) _) hgw
  have hg0 : w.grownBy (w.alloc (.cells #[.pointer (some ⟨g, 0, none⟩)] 69)) (some g) := grown_alloc (grown_refl w _) _
  clear hR hl
  generalize w.alloc (.cells #[.pointer (some ⟨g, 0, none⟩)] 69) = w0 at *
  have R0 := Lib.hid r0
  have HR0 := Lib.hid hR0
  have HG0 := Lib.hid hg0
  clear r0 hR0 hg0
  refine wp_region_held_drew (S := fun w' => Row w' w.heap.size 69 [.pointer (some ⟨g, 0, none⟩)]) (by kernel_rfl) (Row.drew R0.out) (fun hHeld => ?_)
  refine wpAnyH_take (i := 0) (oi := ⟨some 3, _, _, _, _, _⟩) (v := ?v0) rfl (by kernel_rfl) (by kernel_rfl) (by kernel_rfl) (fun _ _ _ h => h) (Or.inl ⟨by rfl, ?y0⟩) hHeld ?r0
  case y0 =>
    rintro w' hSw
    go_simp
    try with_reducible rfl
  try simp only [Act.put, List.setIfInBounds_toArray, List.set_cons_zero, List.set_cons_succ]
  refine wpAnyH_take (i := 1) (oi := ⟨some 4, _, _, _, _, _⟩) (v := ?v1) rfl (by kernel_rfl) (by kernel_rfl) (by kernel_rfl) (fun _ _ _ h => h) (Or.inl ⟨by rfl, ?y1⟩) hHeld ?r1
  case y1 =>
    rintro w' hSw
    have c0 : w'.cell? ⟨w.heap.size, 0, none⟩ = some (.pointer (some ⟨g, 0, none⟩)) := hSw.cell 0
    go_simp
    try with_reducible rfl
  try simp only [Act.put, List.setIfInBounds_toArray, List.set_cons_zero, List.set_cons_succ]
  refine wpAnyH_take (i := 2) (oi := ⟨some 5, _, _, _, _, _⟩) (v := ?v2) rfl (by kernel_rfl) (by kernel_rfl) (by kernel_rfl) (fun _ _ _ h => h) (Or.inl ⟨by rfl, ?y2⟩) hHeld ?r2
  case y2 =>
    rintro w' hSw
    go_simp
    try with_reducible rfl
  try simp only [Act.put, List.setIfInBounds_toArray, List.set_cons_zero, List.set_cons_succ]
  refine wpAnyH_take (i := 3) (oi := ⟨some 6, _, _, _, _, _⟩) (v := ?v3) rfl (by kernel_rfl) (by kernel_rfl) (by kernel_rfl) (fun _ _ _ h => h) (Or.inl ⟨by rfl, ?y3⟩) hHeld ?r3
  case y3 =>
    rintro w' hSw
    have c0 : w'.cell? ⟨w.heap.size, 0, none⟩ = some (.pointer (some ⟨g, 0, none⟩)) := hSw.cell 0
    go_simp
    try with_reducible rfl
  try simp only [Act.put, List.setIfInBounds_toArray, List.set_cons_zero, List.set_cons_succ]
  refine wpAnyH_ready (rs := [4]) (by kernel_rfl) (by simp) ?_
  refine AllReadyH.cons rfl (fun K hK => ?_) AllReadyH.nil
  go_simp
  refine (u8_any g l at_ err _ (HR0.out.drewN 1)).mono ?_
  rintro e w1 ⟨rfl, hR1, hg1⟩
  replace hg1 : w0.grownBy w1 (some g) := grown_undrew hg1
  have R1 := Lib.hid (Row.grown2 R0.out hg1 (by omega))
  have HR1 := Lib.hid hR1
  have HG1 := Lib.hid (grown_then HG0.out hg1)
  clear hR1 hg1
  refine hK _ _ R1.out (fun _ => ?_)
  clear hK K
  try simp only [Act.put, List.setIfInBounds_toArray, List.set_cons_zero, List.set_cons_succ]
  refine wpAnyH_take (i := 5) (oi := ⟨some 8, _, _, _, _, _⟩) (v := ?v5) rfl (by kernel_rfl) (by kernel_rfl) (by kernel_rfl) (fun _ _ _ h => h) (Or.inl ⟨by rfl, ?y5⟩) R1.out ?r5
  case y5 =>
    rintro w' hSw
    go_simp
    try with_reducible rfl
  try simp only [Act.put, List.setIfInBounds_toArray, List.set_cons_zero, List.set_cons_succ]
  refine wpAnyH_ready (rs := [6]) (by kernel_rfl) (by simp) ?_
  refine AllReadyH.cons rfl (fun K hK => ?_) AllReadyH.nil
  go_simp
  refine (raw_any g l _ _ _ _ HR1.out HL.out).mono ?_
  rintro e w2 ⟨A, m, c, rfl, hm, hA, hb2, hR2, hg2, hbl⟩
  have R2 := Lib.hid (Row.grown2 R1.out hg2 (by omega))
  have HR2 := Lib.hid hR2
  have HG2 := Lib.hid (grown_then HG1.out hg2)
  have HM2 := hm
  have HA2 := Lib.hid hA
  have HB2 := Lib.hid hb2
  have HBL := Lib.hid (fun b o e => Nat.le_trans HG1.out.size (hbl b o e))
  clear hm hA hb2 hR2 hg2 hbl
  refine hK _ _ R2.out (fun _ => ?_)
  clear hK K
  try simp only [Act.put, List.setIfInBounds_toArray, List.set_cons_zero, List.set_cons_succ]
  refine wpAnyH_take (i := 7) (oi := ⟨some 2, _, _, _, _, _⟩) (v := ?v7) rfl (by kernel_rfl) (by kernel_rfl) (by kernel_rfl) (fun _ _ _ h => h) (Or.inl ⟨by rfl, ?y7⟩) R2.out ?r7
  case y7 =>
    rintro w' hSw
    go_simp
    try with_reducible rfl
  try simp only [Act.put, List.setIfInBounds_toArray, List.set_cons_zero, List.set_cons_succ]
  refine wpAnyH_done (by kernel_rfl) ?_ _
  go_wp2
  go_ret
  have e8 : IntKind.i64.wrap ((num (Oct.step l at_ err 1).1 : Nat) : Int) = ((num (Oct.step l at_ err 1).1 : Nat) : Int) := by
    have := step_num_lt l at_ err 1
    simp only [Nat.pow_one, Int.natCast_one] at this
    rw [IntKind.wrap_i64]
    omega
  rw [e8] at HM2 HB2 HR2
  rw [HRB.out]
  exact ⟨A, m, c, rfl, HM2, HA2.out, HB2.out, HR2.out, HG2.out, HBL.out⟩
end Go.Proofs.Ytnljhopikjkflaa.Rec
