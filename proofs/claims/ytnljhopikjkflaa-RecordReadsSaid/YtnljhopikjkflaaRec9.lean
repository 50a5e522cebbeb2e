/-
  A record's reader: record.
-/
import Derived.Test.YtnljhopikjkflaaRec8
namespace Go.Proofs.Ytnljhopikjkflaa.Rec
set_option maxRecDepth 100000
open Go.RowKit Go.Proofs.Ytnljhopikjkflaa.Wd Go.Proofs.Ytnljhopikjkflaa.Oct Go.Proofs.Ytnljhopikjkflaa.Dsk

theorem res_cell_tmp {P : Program} {fn : Func} {p q : Tmp} {ty : TypeId} (h : fn.results = #[.cell p ty, .tmp q]) (tmps : Array Value) (w : World) (a : Addr) (v u : Value) (hp : tmps.getD p undef = .pointer (some a)) (hl : (loadVar ty a).run P w = .ok v w) (hq : tmps.getD q undef = u) :
    (results fn tmps).run P w = .ok (.tuple #[v, u]) w := by
  simp only [results, h]
  simp only [Array.getD_eq_getD_getElem?] at *
  simp [Sem.run_bind, Result.andThen, hq]
  rw [hp, show (asAddr (.pointer (some a))).run P w = .ok a w from rfl]
  simp only []
  rw [hl]
/-- no record -/
def zeroR : RM := ⟨0, 0, 0, 0, 0, 0, [], [], 0⟩
def zeroS : RS := ⟨none, 0, 0, none, 0, 0⟩
theorem zcs_eq : zcs = rcs zeroR zeroS := rfl
/-- a record that was read, of a kind -/
def kinded (r : RM) (k : Nat) : RM := ⟨r.lsn, (k : Int), r.txn, r.back, r.page, r.slot, r.old, r.new, r.next⟩
/-- a record is read: the error, the record, where the Reader stands -/
def recM (l : List UInt8) (at_ : Nat) : Int × RM × (Nat × Int) :=
  let k := rn 1 l (at_, 0)
  let C := countedM (k.1 : Int)
  let F := fieldsM l (hasB C 2) (hasB C 4) (hasB C 8) (hasB C 16) k.2
  if k.2.2 = 0 ∧ C = 0 then (150, zeroR, k.2)
  else if F.2.2 ≠ 0 then (F.2.2, zeroR, F.2)
  else if okM (kinded F.1 k.1) = true then (0, kinded F.1 k.1, F.2)
  else (150, zeroR, F.2)
theorem RecAt.zero (w : World) : RecAt w w.heap.size zeroR zeroS := ⟨rfl, rfl, by show 0 ≤ _; omega, by show 0 ≤ _; omega, Bs.nil _ _ _, Bs.nil _ _ _, fun _ => rfl, fun _ => rfl⟩
theorem RecAt.kinded {w : World} {B : Nat} {r : RM} {s : RS} (h : RecAt w B r s) (k : Nat) : RecAt w B (Rec.kinded r k) s := ⟨h.lo, h.ln, h.mo, h.mn, h.bo, h.bn, h.ao, h.an⟩
/-- bytes stay where a block is written that is no row of bytes -/
theorem Bs.far {w w' : World} {B a : Nat} {A : Option Addr} {l : List UInt8} {t : TypeId} {cs : List Value} (h : Bs w B A l) (hB : B ≤ w.heap.size) (hr : Row w a t cs) (hcs : ∀ v ∈ cs, ∀ z, v ≠ .int .u8 z) (hk : ∀ k, k ≠ a → k < w.heap.size → w'.heap[k]? = w.heap[k]?) : Bs w' B A l := by
  intro hp
  obtain ⟨b, o, e, hlt, hc⟩ := h hp
  have hba : b ≠ a := by
    rintro rfl
    have h2 := hc 0 hp
    rw [hr.cell] at h2
    obtain ⟨hi, h3⟩ := List.getElem?_eq_some_iff.1 h2
    exact hcs _ (List.getElem_mem hi) _ h3
  exact ⟨b, o, e, hlt, fun i hi => (World.cell?_of_block (w := w) (a := ⟨b, o + i, none⟩) (hk b hba (by show b < _; omega))).trans (hc i hi)⟩
theorem rcs_no8 {r : RM} {s : RS} : ∀ v ∈ rcs r s, ∀ z, v ≠ .int .u8 z := by
  intro v hv z e
  simp only [rcs, List.mem_cons, List.not_mem_nil, or_false] at hv
  rcases hv with h | h | h | h | h | h | h | h | h <;> (rw [h] at e; cases e)
/-- a record that was read stays where a row of records is written -/
theorem RecAt.far {w w' : World} {B a : Nat} {r : RM} {s : RS} {r0 : RM} {s0 : RS} {t : TypeId} (h : RecAt w B r s) (hB : B ≤ w.heap.size) (hr : Row w a t (rcs r0 s0)) (hk : ∀ k, k ≠ a → k < w.heap.size → w'.heap[k]? = w.heap[k]?) : RecAt w' B r s :=
  ⟨h.lo, h.ln, h.mo, h.mn, Bs.far h.bo hB hr rcs_no8 hk, Bs.far h.bn hB hr rcs_no8 hk, h.ao, h.an⟩
/-- what reading a record leaves -/
def RecOut (w : World) (g : Nat) (l : List UInt8) (Z : Int × RM × (Nat × Int)) (e : Ending) (w' : World) : Prop :=
  ∃ s, e = .returned (.tuple #[.agg (rcs Z.2.1 s).toArray, .int .i64 Z.1]) ∧ RecAt w' w'.heap.size Z.2.1 s ∧ Rdr w' g l Z.2.2.1 Z.2.2.2 ∧ w.grownBy w' (some g)

set_option maxHeartbeats 2000000 in
theorem record_any (g : Nat) (l : List UInt8) (at_ : Nat) (w : World) (hR : Rdr w g l at_ 0) (hl : l.length ≤ 140737488355328) :
    Calls Try.prog 55 #[.agg #[.pointer (some ⟨g, 0, none⟩)]] w (RecOut w g l (recM l at_)) := by
  have hgw := hR.lt
  have HL := Lib.hid hl
  have HR := Lib.hid hR
  clear hR hl
  have HZ : Hid (recM l at_ = if (rn 1 l (at_, 0)).2.2 = 0 ∧ countedM ((rn 1 l (at_, 0)).1 : Int) = 0 then (150, zeroR, (rn 1 l (at_, 0)).2)
    else if (fieldsM l (hasB (countedM ((rn 1 l (at_, 0)).1 : Int)) 2) (hasB (countedM ((rn 1 l (at_, 0)).1 : Int)) 4) (hasB (countedM ((rn 1 l (at_, 0)).1 : Int)) 8) (hasB (countedM ((rn 1 l (at_, 0)).1 : Int)) 16) (rn 1 l (at_, 0)).2).2.2 ≠ 0 then ((fieldsM l (hasB (countedM ((rn 1 l (at_, 0)).1 : Int)) 2) (hasB (countedM ((rn 1 l (at_, 0)).1 : Int)) 4) (hasB (countedM ((rn 1 l (at_, 0)).1 : Int)) 8) (hasB (countedM ((rn 1 l (at_, 0)).1 : Int)) 16) (rn 1 l (at_, 0)).2).2.2, zeroR, (fieldsM l (hasB (countedM ((rn 1 l (at_, 0)).1 : Int)) 2) (hasB (countedM ((rn 1 l (at_, 0)).1 : Int)) 4) (hasB (countedM ((rn 1 l (at_, 0)).1 : Int)) 8) (hasB (countedM ((rn 1 l (at_, 0)).1 : Int)) 16) (rn 1 l (at_, 0)).2).2)
    else if okM (kinded (fieldsM l (hasB (countedM ((rn 1 l (at_, 0)).1 : Int)) 2) (hasB (countedM ((rn 1 l (at_, 0)).1 : Int)) 4) (hasB (countedM ((rn 1 l (at_, 0)).1 : Int)) 8) (hasB (countedM ((rn 1 l (at_, 0)).1 : Int)) 16) (rn 1 l (at_, 0)).2).1 (rn 1 l (at_, 0)).1) = true then (0, kinded (fieldsM l (hasB (countedM ((rn 1 l (at_, 0)).1 : Int)) 2) (hasB (countedM ((rn 1 l (at_, 0)).1 : Int)) 4) (hasB (countedM ((rn 1 l (at_, 0)).1 : Int)) 8) (hasB (countedM ((rn 1 l (at_, 0)).1 : Int)) 16) (rn 1 l (at_, 0)).2).1 (rn 1 l (at_, 0)).1, (fieldsM l (hasB (countedM ((rn 1 l (at_, 0)).1 : Int)) 2) (hasB (countedM ((rn 1 l (at_, 0)).1 : Int)) 4) (hasB (countedM ((rn 1 l (at_, 0)).1 : Int)) 8) (hasB (countedM ((rn 1 l (at_, 0)).1 : Int)) 16) (rn 1 l (at_, 0)).2).2)
    else (150, zeroR, (fieldsM l (hasB (countedM ((rn 1 l (at_, 0)).1 : Int)) 2) (hasB (countedM ((rn 1 l (at_, 0)).1 : Int)) 4) (hasB (countedM ((rn 1 l (at_, 0)).1 : Int)) 8) (hasB (countedM ((rn 1 l (at_, 0)).1 : Int)) 16) (rn 1 l (at_, 0)).2).2)) := rfl
  generalize recM l at_ = Z at HZ ⊢
  have HFC : Hid (∀ (f : Nat) (p : Nat × Int) (W : World), Rdr W g l p.1 p.2 → Calls Try.prog 72 #[.agg #[.pointer (some ⟨g, 0, none⟩)], .int .u8 (f : Int)] W fun e w' => ∃ s, e = .returned (.agg (rcs (fieldsM l (hasB f 2) (hasB f 4) (hasB f 8) (hasB f 16) p).1 s).toArray) ∧ RecAt w' w'.heap.size (fieldsM l (hasB f 2) (hasB f 4) (hasB f 8) (hasB f 16) p).1 s ∧ Rdr w' g l (fieldsM l (hasB f 2) (hasB f 4) (hasB f 8) (hasB f 16) p).2.1 (fieldsM l (hasB f 2) (hasB f 4) (hasB f 8) (hasB f 16) p).2.2 ∧ W.grownBy w' (some g)) := fun f p W h => fields_any g l p.1 p.2 f W h HL.out
  have hwn := wrap_num l (at_, 0)
  have hrn : num (Oct.step l at_ 0 1).1 = (rn 1 l (at_, 0)).1 := rfl
  have HU8 : Hid (∀ W, Rdr W g l at_ 0 → Calls Try.prog 68 #[.pointer (some ⟨g, 0, none⟩)] W fun e w' => e = .returned (.int .u8 ((rn 1 l (at_, 0)).1 : Int)) ∧ Rdr w' g l (rn 1 l (at_, 0)).2.1 (rn 1 l (at_, 0)).2.2 ∧ W.grownBy w' (some g)) := fun W h => u8_any g l at_ 0 W h
  simp only [hrn] at hwn
  clear hrn
  generalize (rn 1 l (at_, 0)).1 = k at *
  generalize (rn 1 l (at_, 0)).2 = p1 at *
  have HCT := Lib.hid (fun (w : World) => counted_any (k : Int) w)
  generalize countedM (k : Int) = C at HZ HCT
  have HFC1 := Lib.hid (fun W h => HFC.out C p1 W h)
  generalize fieldsM l (hasB C 2) (hasB C 4) (hasB C 8) (hasB C 16) p1 = F at HZ HFC1
  clear HFC
  go_enter Try.func55, Try.ntmps55
  go_wp2_with fail
  have r0 : Row ((w.alloc (.cells #[.pointer (some ⟨g, 0, none⟩)] 69)).alloc (.cells #[.int .u64 0, .int .i64 0, .int .u64 0, .int .u64 0, .int .i64 0, .int .i64 0, .slice none 0 0, .slice none 0 0, .int .u64 0] 34)) w.heap.size 69 [.pointer (some ⟨g, 0, none⟩)] := (Row.new w _ _).alloc _
  have r4 : Row ((w.alloc (.cells #[.pointer (some ⟨g, 0, none⟩)] 69)).alloc (.cells #[.int .u64 0, .int .i64 0, .int .u64 0, .int .u64 0, .int .i64 0, .int .i64 0, .slice none 0 0, .slice none 0 0, .int .u64 0] 34)) (w.heap.size + 1) 34 zcs := by
    have := Row.new (w.alloc (.cells #[.pointer (some ⟨g, 0, none⟩)] 69)) 34 zcs
    rwa [World.size_alloc] at this
  have hR0 : Rdr ((w.alloc (.cells #[.pointer (some ⟨g, 0, none⟩)] 69)).alloc (.cells #[.int .u64 0, .int .i64 0, .int .u64 0, .int .u64 0, .int .i64 0, .int .i64 0, .slice none 0 0, .slice none 0 0, .int .u64 0] 34)) g l at_ 0 := (HR.out.below ((Below.refl _ _).alloc (Nat.le_refl _) _) hgw).below ((Below.refl _ _).alloc (Nat.le_refl _) _) (by simp; omega)
  have hg0 : w.grownBy ((w.alloc (.cells #[.pointer (some ⟨g, 0, none⟩)] 69)).alloc (.cells #[.int .u64 0, .int .i64 0, .int .u64 0, .int .u64 0, .int .i64 0, .int .i64 0, .slice none 0 0, .slice none 0 0, .int .u64 0] 34)) (some g) := grown_alloc (grown_alloc (grown_refl w _) _) _
  have hs0 : w.heap.size + 2 ≤ ((w.alloc (.cells #[.pointer (some ⟨g, 0, none⟩)] 69)).alloc (.cells #[.int .u64 0, .int .i64 0, .int .u64 0, .int .u64 0, .int .i64 0, .int .i64 0, .slice none 0 0, .slice none 0 0, .int .u64 0] 34)).heap.size := by simp
  refine (HU8.out _ hR0).mono ?_
  rintro e w1 ⟨rfl, hR1, hg1⟩
  have R0 := Lib.hid (Row.grown2 r0 hg1 (by omega))
  have R4 := Lib.hid (Row.grown2 r4 hg1 (by omega))
  have HR1 := Lib.hid hR1
  have HG1 := Lib.hid (grown_then hg0 hg1)
  have HS1 := Lib.hid (Nat.le_trans hs0 hg1.size)
  have hc0 : w1.cell? ⟨w.heap.size, 0, none⟩ = some (.pointer (some ⟨g, 0, none⟩)) := R0.out.cell 0
  clear r0 r4 hR0 hg0 hs0 hR1 hg1 HU8
  go_wp2_with fail
  refine (HCT.out _).mono ?_
  rintro e w' ⟨rfl, rfl⟩
  go_wp2_with fail
  refine (err_any g l _ _ _ HR1.out).mono ?_
  rintro e w' ⟨rfl, rfl⟩
  have hways : (p1.2 = 0 ∧ C = 0) ∨ (p1.2 = 0 ∧ ¬ C = 0) ∨ ¬ p1.2 = 0 := by omega
  rcases hways with ⟨h1, h2⟩ | ⟨h1, h2⟩ | h1
  · have HB := Lib.hid (show Z = (150, zeroR, p1) from by rw [HZ.out, if_pos ⟨h1, h2⟩])
    have h1b : (p1.2 == 0) = true := by simp [h1]
    have h2b : ((C : Int) == 0) = true := by simp [h2]
    have HI := Lib.hid (show (Try.prog.info? 34).map (·.size) = some (rcs zeroR zeroS).length from rec_info)
    have HLE := Lib.hid (show (rcs zeroR zeroS).length = zcs.length from rfl)
    have HONE : Hid (∀ v ∈ (rcs zeroR zeroS), v.oneCell' = true) := rcs_one
    go_wp2_with (first
      | (with_reducible refine wpList_store_whole (op := ⟨none, _, _, _, _, _⟩) ?_ 34 (.tmp 2) (.tmp 22) ?_ (w.heap.size + 1) (rcs zeroR zeroS) ?_ ?_ 34 zcs R4.out HLE.out HONE.out HI.out ?_))
    all_goals try (first | rfl | (simp; done))
    intro w8 hr8 hg8
    have HRES := Lib.hid (run_loadVar_mid (P := Try.prog) w8 (w.heap.size + 1) 0 34 (rcs zeroR zeroS) _ (Row.all hr8) Try.underlying34 rfl HI.out)
    have HR8 := Lib.hid (HR1.out.grown hg8 (by omega))
    have HG8 := Lib.hid (grown_own HG1.out hg8 (by omega))
    have HRC := RecAt.zero w8
    clear hr8 hg8
    go_wp2
    refine bodyPost_ret (v := .tuple #[.agg (rcs zeroR zeroS).toArray, .int .i64 150]) (res_cell_tmp (p := 2) (q := 3) (ty := 34) rfl _ _ ⟨w.heap.size + 1, 0, none⟩ _ _ rfl HRES.out rfl) rfl ?_
    rw [HB.out]
    exact ⟨zeroS, rfl, HRC, HR8.out, HG8.out⟩
  · have hno : ¬ (p1.2 = 0 ∧ C = 0) := by omega
    have h1b : (p1.2 == 0) = true := by simp [h1]
    have h2b : ((C : Int) == 0) = false := by simp; omega
    have HZ2 := Lib.hid (HZ.out.trans (if_neg hno))
    clear hno
    go_wp2_with fail
    refine (HFC1.out _ HR1.out).mono ?_
    rintro e w2 ⟨s, rfl, hrec, hR2, hg2⟩
    have HREC := Lib.hid hrec
    have HR2 := Lib.hid hR2
    have HG2 := Lib.hid (grown_then HG1.out hg2)
    have R02 := Lib.hid (Row.grown2 R0.out hg2 (by omega))
    have R42 := Lib.hid (Row.grown2 R4.out hg2 (by omega))
    have hs2 : w.heap.size + 2 ≤ w2.heap.size := Nat.le_trans HS1.out hg2.size
    have hlt2 : w.heap.size < w2.heap.size := by omega
    have hc2 : w2.cell? ⟨w.heap.size, 0, none⟩ = some (.pointer (some ⟨g, 0, none⟩)) := R02.out.cell 0
    clear hrec hR2 hg2 hc0
    unfold rcs
    go_wp2_with fail
    have HR3 := Lib.hid (HR2.out.below ((Below.refl _ _).alloc (Nat.le_refl _) (.cells #[.int .u64 (F.1.lsn : Int), .int .i64 (k : Int), .int .u64 (F.1.txn : Int), .int .u64 (F.1.back : Int), .int .i64 F.1.page, .int .i64 F.1.slot, .slice s.Ao s.no s.co, .slice s.An s.nn s.cn, .int .u64 (F.1.next : Int)] 34)) HR2.out.lt)
    have R43 := Lib.hid (R42.out.alloc (.cells #[.int .u64 (F.1.lsn : Int), .int .i64 (k : Int), .int .u64 (F.1.txn : Int), .int .u64 (F.1.back : Int), .int .i64 F.1.page, .int .i64 F.1.slot, .slice s.Ao s.no s.co, .slice s.An s.nn s.cn, .int .u64 (F.1.next : Int)] 34))
    have HG3 := Lib.hid (grown_alloc HG2.out (.cells #[.int .u64 (F.1.lsn : Int), .int .i64 (k : Int), .int .u64 (F.1.txn : Int), .int .u64 (F.1.back : Int), .int .i64 F.1.page, .int .i64 F.1.slot, .slice s.Ao s.no s.co, .slice s.An s.nn s.cn, .int .u64 (F.1.next : Int)] 34))
    have HREC3 := Lib.hid ((HREC.out.kinded k).alloc (Nat.le_refl _) (.cells #[.int .u64 (F.1.lsn : Int), .int .i64 (k : Int), .int .u64 (F.1.txn : Int), .int .u64 (F.1.back : Int), .int .i64 F.1.page, .int .i64 F.1.slot, .slice s.Ao s.no s.co, .slice s.An s.nn s.cn, .int .u64 (F.1.next : Int)] 34))
    have R63 := Lib.hid (Row.new w2 34 [.int .u64 (F.1.lsn : Int), .int .i64 (k : Int), .int .u64 (F.1.txn : Int), .int .u64 (F.1.back : Int), .int .i64 F.1.page, .int .i64 F.1.slot, .slice s.Ao s.no s.co, .slice s.An s.nn s.cn, .int .u64 (F.1.next : Int)])
    have hc3 : (w2.alloc (.cells #[.int .u64 (F.1.lsn : Int), .int .i64 (k : Int), .int .u64 (F.1.txn : Int), .int .u64 (F.1.back : Int), .int .i64 F.1.page, .int .i64 F.1.slot, .slice s.Ao s.no s.co, .slice s.An s.nn s.cn, .int .u64 (F.1.next : Int)] 34)).cell? ⟨w.heap.size, 0, none⟩ = some (.pointer (some ⟨g, 0, none⟩)) := (R02.out.alloc (.cells #[.int .u64 (F.1.lsn : Int), .int .i64 (k : Int), .int .u64 (F.1.txn : Int), .int .u64 (F.1.back : Int), .int .i64 F.1.page, .int .i64 F.1.slot, .slice s.Ao s.no s.co, .slice s.An s.nn s.cn, .int .u64 (F.1.next : Int)] 34)).cell 0
    have hs3 : (w2.alloc (.cells #[.int .u64 (F.1.lsn : Int), .int .i64 (k : Int), .int .u64 (F.1.txn : Int), .int .u64 (F.1.back : Int), .int .i64 F.1.page, .int .i64 F.1.slot, .slice s.Ao s.no s.co, .slice s.An s.nn s.cn, .int .u64 (F.1.next : Int)] 34)).heap.size = w2.heap.size + 1 := by simp
    refine (err_any g l _ _ _ HR3.out).mono ?_
    rintro e w' ⟨rfl, rfl⟩
    by_cases hE : F.2.2 = 0
    · have hEb : (F.2.2 != 0) = false := by simp [hE]
      replace HZ2 := Lib.hid (HZ2.out.trans (if_neg (by simpa using hE)))
      go_wp2_with fail
      refine (check_any (kinded F.1 k) s w2.heap.size _ HREC3.out (by omega)).mono ?_
      rintro e w4 ⟨rfl, hb4⟩
      have HR4 := Lib.hid (HR3.out.below hb4 HR3.out.lt)
      have R44 := Lib.hid (R43.out.below hb4 R43.out.lt)
      have R64 := Lib.hid (show Row w4 w2.heap.size 34 (rcs (kinded F.1 k) s) from R63.out.below hb4 (by omega))
      have HG4 : Hid (w.grownBy w4 (some g)) := ⟨hb4.os.trans HG3.out.os, hb4.tape.trans HG3.out.tape, hb4.output.trans HG3.out.output, Nat.le_trans HG3.out.size hb4.size, fun j hj hr => (hb4.block j (Nat.lt_of_lt_of_le hj HG3.out.size)).trans (HG3.out.block j hj hr)⟩
      have HREC4 := Lib.hid ((HREC3.out.below (hb4.mono (by omega))).more (Nat.le_trans (by omega) hb4.size : w2.heap.size ≤ w4.heap.size))
      clear hb4 hc3
      by_cases hK : okM (kinded F.1 k) = true
      · simp only [hK, if_true]
        have HB := Lib.hid (show Z = (0, kinded F.1 k, F.2) from by rw [HZ2.out, if_pos hK])
        have HI := Lib.hid (show (Try.prog.info? 34).map (·.size) = some (rcs (kinded F.1 k) s).length from rec_info)
        have HLE := Lib.hid (show (rcs (kinded F.1 k) s).length = zcs.length from rfl)
        have HONE : Hid (∀ v ∈ (rcs (kinded F.1 k) s), v.oneCell' = true) := rcs_one
        go_wp2_with (first
          | (with_reducible refine wpList_load_row (op := ⟨some 42, _, _, _, _, _⟩) ?_ 34 (.tmp 6) ?_ w2.heap.size 0 ?_ (rcs (kinded F.1 k) s) _ (Row.all R64.out) Try.underlying34 ?_ HI.out ?_)
          | (with_reducible refine wpList_store_whole (op := ⟨none, _, _, _, _, _⟩) ?_ 34 (.tmp 2) (.tmp 42) ?_ (w.heap.size + 1) (rcs (kinded F.1 k) s) ?_ ?_ 34 zcs R44.out HLE.out HONE.out HI.out ?_))
        all_goals try (first | rfl | (simp; done))
        intro w8 hr8 hg8
        have HRES := Lib.hid (run_loadVar_mid (P := Try.prog) w8 (w.heap.size + 1) 0 34 (rcs (kinded F.1 k) s) _ (Row.all hr8) Try.underlying34 rfl HI.out)
        have HR8 := Lib.hid (HR4.out.grown hg8 (by omega))
        have HG8 := Lib.hid (grown_own HG4.out hg8 (by omega))
        have HRC : RecAt w8 w8.heap.size (kinded F.1 k) s := (RecAt.far (r0 := zeroR) (s0 := zeroS) HREC4.out (Nat.le_refl _) R44.out (fun j hj hlt => hg8.block j hlt (fun e => hj (Option.some.inj e)))).more hg8.size
        clear hr8 hg8
        go_wp2
        refine bodyPost_ret (v := .tuple #[.agg (rcs (kinded F.1 k) s).toArray, .int .i64 0]) (res_cell_tmp (p := 2) (q := 3) (ty := 34) rfl _ _ ⟨w.heap.size + 1, 0, none⟩ _ _ rfl HRES.out rfl) rfl ?_
        rw [HB.out]
        exact ⟨s, rfl, HRC, HR8.out, HG8.out⟩
      · simp only [hK, if_false, Bool.false_eq_true]
        have HB := Lib.hid (show Z = (150, zeroR, F.2) from by rw [HZ2.out, if_neg hK])
        have HI := Lib.hid (show (Try.prog.info? 34).map (·.size) = some (rcs zeroR zeroS).length from rec_info)
        have HLE := Lib.hid (show (rcs zeroR zeroS).length = zcs.length from rfl)
        have HONE : Hid (∀ v ∈ (rcs zeroR zeroS), v.oneCell' = true) := rcs_one
        go_wp2_with (first
          | (with_reducible refine wpList_store_whole (op := ⟨none, _, _, _, _, _⟩) ?_ 34 (.tmp 2) (.tmp 40) ?_ (w.heap.size + 1) (rcs zeroR zeroS) ?_ ?_ 34 zcs R44.out HLE.out HONE.out HI.out ?_))
        all_goals try (first | rfl | (simp; done))
        intro w8 hr8 hg8
        have HRES := Lib.hid (run_loadVar_mid (P := Try.prog) w8 (w.heap.size + 1) 0 34 (rcs zeroR zeroS) _ (Row.all hr8) Try.underlying34 rfl HI.out)
        have HR8 := Lib.hid (HR4.out.grown hg8 (by omega))
        have HG8 := Lib.hid (grown_own HG4.out hg8 (by omega))
        have HRC := RecAt.zero w8
        clear hr8 hg8
        go_wp2
        refine bodyPost_ret (v := .tuple #[.agg (rcs zeroR zeroS).toArray, .int .i64 150]) (res_cell_tmp (p := 2) (q := 3) (ty := 34) rfl _ _ ⟨w.heap.size + 1, 0, none⟩ _ _ rfl HRES.out rfl) rfl ?_
        rw [HB.out]
        exact ⟨zeroS, rfl, HRC, HR8.out, HG8.out⟩
    · have hEb : (F.2.2 != 0) = true := by simp [hE]
      have HB := Lib.hid (show Z = (F.2.2, zeroR, F.2) from HZ2.out.trans (if_pos hE))
      go_wp2_with fail
      refine (err_any g l _ _ _ HR3.out).mono ?_
      rintro e w' ⟨rfl, rfl⟩
      have HI := Lib.hid (show (Try.prog.info? 34).map (·.size) = some (rcs zeroR zeroS).length from rec_info)
      have HLE := Lib.hid (show (rcs zeroR zeroS).length = zcs.length from rfl)
      have HONE : Hid (∀ v ∈ (rcs zeroR zeroS), v.oneCell' = true) := rcs_one
      go_wp2_with (first
        | (with_reducible refine wpList_store_whole (op := ⟨none, _, _, _, _, _⟩) ?_ 34 (.tmp 2) (.tmp 32) ?_ (w.heap.size + 1) (rcs zeroR zeroS) ?_ ?_ 34 zcs R43.out HLE.out HONE.out HI.out ?_))
      all_goals try (first | rfl | (simp; done))
      intro w8 hr8 hg8
      have HRES := Lib.hid (run_loadVar_mid (P := Try.prog) w8 (w.heap.size + 1) 0 34 (rcs zeroR zeroS) _ (Row.all hr8) Try.underlying34 rfl HI.out)
      have HR8 := Lib.hid (HR3.out.grown hg8 (by omega))
      have HG8 := Lib.hid (grown_own HG3.out hg8 (by omega))
      have HRC := RecAt.zero w8
      clear hr8 hg8
      go_wp2
      refine bodyPost_ret (v := .tuple #[.agg (rcs zeroR zeroS).toArray, .int .i64 F.2.2]) (res_cell_tmp (p := 2) (q := 3) (ty := 34) rfl _ _ ⟨w.heap.size + 1, 0, none⟩ _ _ rfl HRES.out rfl) rfl ?_
      rw [HB.out]
      exact ⟨zeroS, rfl, HRC, HR8.out, HG8.out⟩
  · have hno : ¬ (p1.2 = 0 ∧ C = 0) := by omega
    have h1b : (p1.2 == 0) = false := by simp [h1]
    have HZ2 := Lib.hid (HZ.out.trans (if_neg hno))
    clear hno
    go_wp2_with fail
    refine (HFC1.out _ HR1.out).mono ?_
    rintro e w2 ⟨s, rfl, hrec, hR2, hg2⟩
    have HREC := Lib.hid hrec
    have HR2 := Lib.hid hR2
    have HG2 := Lib.hid (grown_then HG1.out hg2)
    have R02 := Lib.hid (Row.grown2 R0.out hg2 (by omega))
    have R42 := Lib.hid (Row.grown2 R4.out hg2 (by omega))
    have hs2 : w.heap.size + 2 ≤ w2.heap.size := Nat.le_trans HS1.out hg2.size
    have hlt2 : w.heap.size < w2.heap.size := by omega
    have hc2 : w2.cell? ⟨w.heap.size, 0, none⟩ = some (.pointer (some ⟨g, 0, none⟩)) := R02.out.cell 0
    clear hrec hR2 hg2 hc0
    unfold rcs
    go_wp2_with fail
    have HR3 := Lib.hid (HR2.out.below ((Below.refl _ _).alloc (Nat.le_refl _) (.cells #[.int .u64 (F.1.lsn : Int), .int .i64 (k : Int), .int .u64 (F.1.txn : Int), .int .u64 (F.1.back : Int), .int .i64 F.1.page, .int .i64 F.1.slot, .slice s.Ao s.no s.co, .slice s.An s.nn s.cn, .int .u64 (F.1.next : Int)] 34)) HR2.out.lt)
    have R43 := Lib.hid (R42.out.alloc (.cells #[.int .u64 (F.1.lsn : Int), .int .i64 (k : Int), .int .u64 (F.1.txn : Int), .int .u64 (F.1.back : Int), .int .i64 F.1.page, .int .i64 F.1.slot, .slice s.Ao s.no s.co, .slice s.An s.nn s.cn, .int .u64 (F.1.next : Int)] 34))
    have HG3 := Lib.hid (grown_alloc HG2.out (.cells #[.int .u64 (F.1.lsn : Int), .int .i64 (k : Int), .int .u64 (F.1.txn : Int), .int .u64 (F.1.back : Int), .int .i64 F.1.page, .int .i64 F.1.slot, .slice s.Ao s.no s.co, .slice s.An s.nn s.cn, .int .u64 (F.1.next : Int)] 34))
    have HREC3 := Lib.hid ((HREC.out.kinded k).alloc (Nat.le_refl _) (.cells #[.int .u64 (F.1.lsn : Int), .int .i64 (k : Int), .int .u64 (F.1.txn : Int), .int .u64 (F.1.back : Int), .int .i64 F.1.page, .int .i64 F.1.slot, .slice s.Ao s.no s.co, .slice s.An s.nn s.cn, .int .u64 (F.1.next : Int)] 34))
    have R63 := Lib.hid (Row.new w2 34 [.int .u64 (F.1.lsn : Int), .int .i64 (k : Int), .int .u64 (F.1.txn : Int), .int .u64 (F.1.back : Int), .int .i64 F.1.page, .int .i64 F.1.slot, .slice s.Ao s.no s.co, .slice s.An s.nn s.cn, .int .u64 (F.1.next : Int)])
    have hc3 : (w2.alloc (.cells #[.int .u64 (F.1.lsn : Int), .int .i64 (k : Int), .int .u64 (F.1.txn : Int), .int .u64 (F.1.back : Int), .int .i64 F.1.page, .int .i64 F.1.slot, .slice s.Ao s.no s.co, .slice s.An s.nn s.cn, .int .u64 (F.1.next : Int)] 34)).cell? ⟨w.heap.size, 0, none⟩ = some (.pointer (some ⟨g, 0, none⟩)) := (R02.out.alloc (.cells #[.int .u64 (F.1.lsn : Int), .int .i64 (k : Int), .int .u64 (F.1.txn : Int), .int .u64 (F.1.back : Int), .int .i64 F.1.page, .int .i64 F.1.slot, .slice s.Ao s.no s.co, .slice s.An s.nn s.cn, .int .u64 (F.1.next : Int)] 34)).cell 0
    have hs3 : (w2.alloc (.cells #[.int .u64 (F.1.lsn : Int), .int .i64 (k : Int), .int .u64 (F.1.txn : Int), .int .u64 (F.1.back : Int), .int .i64 F.1.page, .int .i64 F.1.slot, .slice s.Ao s.no s.co, .slice s.An s.nn s.cn, .int .u64 (F.1.next : Int)] 34)).heap.size = w2.heap.size + 1 := by simp
    refine (err_any g l _ _ _ HR3.out).mono ?_
    rintro e w' ⟨rfl, rfl⟩
    by_cases hE : F.2.2 = 0
    · have hEb : (F.2.2 != 0) = false := by simp [hE]
      replace HZ2 := Lib.hid (HZ2.out.trans (if_neg (by simpa using hE)))
      go_wp2_with fail
      refine (check_any (kinded F.1 k) s w2.heap.size _ HREC3.out (by omega)).mono ?_
      rintro e w4 ⟨rfl, hb4⟩
      have HR4 := Lib.hid (HR3.out.below hb4 HR3.out.lt)
      have R44 := Lib.hid (R43.out.below hb4 R43.out.lt)
      have R64 := Lib.hid (show Row w4 w2.heap.size 34 (rcs (kinded F.1 k) s) from R63.out.below hb4 (by omega))
      have HG4 : Hid (w.grownBy w4 (some g)) := ⟨hb4.os.trans HG3.out.os, hb4.tape.trans HG3.out.tape, hb4.output.trans HG3.out.output, Nat.le_trans HG3.out.size hb4.size, fun j hj hr => (hb4.block j (Nat.lt_of_lt_of_le hj HG3.out.size)).trans (HG3.out.block j hj hr)⟩
      have HREC4 := Lib.hid ((HREC3.out.below (hb4.mono (by omega))).more (Nat.le_trans (by omega) hb4.size : w2.heap.size ≤ w4.heap.size))
      clear hb4 hc3
      by_cases hK : okM (kinded F.1 k) = true
      · simp only [hK, if_true]
        have HB := Lib.hid (show Z = (0, kinded F.1 k, F.2) from by rw [HZ2.out, if_pos hK])
        have HI := Lib.hid (show (Try.prog.info? 34).map (·.size) = some (rcs (kinded F.1 k) s).length from rec_info)
        have HLE := Lib.hid (show (rcs (kinded F.1 k) s).length = zcs.length from rfl)
        have HONE : Hid (∀ v ∈ (rcs (kinded F.1 k) s), v.oneCell' = true) := rcs_one
        go_wp2_with (first
          | (with_reducible refine wpList_load_row (op := ⟨some 42, _, _, _, _, _⟩) ?_ 34 (.tmp 6) ?_ w2.heap.size 0 ?_ (rcs (kinded F.1 k) s) _ (Row.all R64.out) Try.underlying34 ?_ HI.out ?_)
          | (with_reducible refine wpList_store_whole (op := ⟨none, _, _, _, _, _⟩) ?_ 34 (.tmp 2) (.tmp 42) ?_ (w.heap.size + 1) (rcs (kinded F.1 k) s) ?_ ?_ 34 zcs R44.out HLE.out HONE.out HI.out ?_))
        all_goals try (first | rfl | (simp; done))
        intro w8 hr8 hg8
        have HRES := Lib.hid (run_loadVar_mid (P := Try.prog) w8 (w.heap.size + 1) 0 34 (rcs (kinded F.1 k) s) _ (Row.all hr8) Try.underlying34 rfl HI.out)
        have HR8 := Lib.hid (HR4.out.grown hg8 (by omega))
        have HG8 := Lib.hid (grown_own HG4.out hg8 (by omega))
        have HRC : RecAt w8 w8.heap.size (kinded F.1 k) s := (RecAt.far (r0 := zeroR) (s0 := zeroS) HREC4.out (Nat.le_refl _) R44.out (fun j hj hlt => hg8.block j hlt (fun e => hj (Option.some.inj e)))).more hg8.size
        clear hr8 hg8
        go_wp2
        refine bodyPost_ret (v := .tuple #[.agg (rcs (kinded F.1 k) s).toArray, .int .i64 0]) (res_cell_tmp (p := 2) (q := 3) (ty := 34) rfl _ _ ⟨w.heap.size + 1, 0, none⟩ _ _ rfl HRES.out rfl) rfl ?_
        rw [HB.out]
        exact ⟨s, rfl, HRC, HR8.out, HG8.out⟩
      · simp only [hK, if_false, Bool.false_eq_true]
        have HB := Lib.hid (show Z = (150, zeroR, F.2) from by rw [HZ2.out, if_neg hK])
        have HI := Lib.hid (show (Try.prog.info? 34).map (·.size) = some (rcs zeroR zeroS).length from rec_info)
        have HLE := Lib.hid (show (rcs zeroR zeroS).length = zcs.length from rfl)
        have HONE : Hid (∀ v ∈ (rcs zeroR zeroS), v.oneCell' = true) := rcs_one
        go_wp2_with (first
          | (with_reducible refine wpList_store_whole (op := ⟨none, _, _, _, _, _⟩) ?_ 34 (.tmp 2) (.tmp 40) ?_ (w.heap.size + 1) (rcs zeroR zeroS) ?_ ?_ 34 zcs R44.out HLE.out HONE.out HI.out ?_))
        all_goals try (first | rfl | (simp; done))
        intro w8 hr8 hg8
        have HRES := Lib.hid (run_loadVar_mid (P := Try.prog) w8 (w.heap.size + 1) 0 34 (rcs zeroR zeroS) _ (Row.all hr8) Try.underlying34 rfl HI.out)
        have HR8 := Lib.hid (HR4.out.grown hg8 (by omega))
        have HG8 := Lib.hid (grown_own HG4.out hg8 (by omega))
        have HRC := RecAt.zero w8
        clear hr8 hg8
        go_wp2
        refine bodyPost_ret (v := .tuple #[.agg (rcs zeroR zeroS).toArray, .int .i64 150]) (res_cell_tmp (p := 2) (q := 3) (ty := 34) rfl _ _ ⟨w.heap.size + 1, 0, none⟩ _ _ rfl HRES.out rfl) rfl ?_
        rw [HB.out]
        exact ⟨zeroS, rfl, HRC, HR8.out, HG8.out⟩
    · have hEb : (F.2.2 != 0) = true := by simp [hE]
      have HB := Lib.hid (show Z = (F.2.2, zeroR, F.2) from HZ2.out.trans (if_pos hE))
      go_wp2_with fail
      refine (err_any g l _ _ _ HR3.out).mono ?_
      rintro e w' ⟨rfl, rfl⟩
      have HI := Lib.hid (show (Try.prog.info? 34).map (·.size) = some (rcs zeroR zeroS).length from rec_info)
      have HLE := Lib.hid (show (rcs zeroR zeroS).length = zcs.length from rfl)
      have HONE : Hid (∀ v ∈ (rcs zeroR zeroS), v.oneCell' = true) := rcs_one
      go_wp2_with (first
        | (with_reducible refine wpList_store_whole (op := ⟨none, _, _, _, _, _⟩) ?_ 34 (.tmp 2) (.tmp 32) ?_ (w.heap.size + 1) (rcs zeroR zeroS) ?_ ?_ 34 zcs R43.out HLE.out HONE.out HI.out ?_))
      all_goals try (first | rfl | (simp; done))
      intro w8 hr8 hg8
      have HRES := Lib.hid (run_loadVar_mid (P := Try.prog) w8 (w.heap.size + 1) 0 34 (rcs zeroR zeroS) _ (Row.all hr8) Try.underlying34 rfl HI.out)
      have HR8 := Lib.hid (HR3.out.grown hg8 (by omega))
      have HG8 := Lib.hid (grown_own HG3.out hg8 (by omega))
      have HRC := RecAt.zero w8
      clear hr8 hg8
      go_wp2
      refine bodyPost_ret (v := .tuple #[.agg (rcs zeroR zeroS).toArray, .int .i64 F.2.2]) (res_cell_tmp (p := 2) (q := 3) (ty := 34) rfl _ _ ⟨w.heap.size + 1, 0, none⟩ _ _ rfl HRES.out rfl) rfl ?_
      rw [HB.out]
      exact ⟨zeroS, rfl, HRC, HR8.out, HG8.out⟩
end Go.Proofs.Ytnljhopikjkflaa.Rec
