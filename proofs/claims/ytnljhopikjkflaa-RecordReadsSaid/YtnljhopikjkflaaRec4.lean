/-
  A record's bytes: putItem, bytesOf, Encode.
-/
import Derived.Test.YtnljhopikjkflaaRec3
import Derived.Laws.OwnMore
import Derived.Deep.Onto
namespace Go.Proofs.Ytnljhopikjkflaa.Rec
set_option maxRecDepth 100000
open Go.RowKit Go.Proofs.Ytnljhopikjkflaa.Wd Go.Proofs.Ytnljhopikjkflaa.Oct Go.Proofs.Ytnljhopikjkflaa.Dsk

/-- the byte of a number -/
def ub (n : Nat) : UInt8 := UInt8.ofNat n
def itemM (l : List UInt8) : List UInt8 := ub l.length :: l
/-- what follows the three numbers -/
def restM (r : RM) : List UInt8 :=
  if r.kind = 1 then [ub r.page.toNat, ub r.slot.toNat] ++ itemM r.old ++ itemM r.new
  else if r.kind = 2 then [ub r.page.toNat, ub r.slot.toNat] ++ itemM r.new ++ hi 8 r.next
  else []
def headM (r : RM) : List UInt8 := [ub r.kind.toNat] ++ hi 8 r.lsn ++ hi 8 r.txn ++ hi 8 r.back
/-- a record's bytes -/
def bytesM (r : RM) : List UInt8 := headM r ++ restM r

/-- a slice of bytes of one's own, of blocks from base on -/
def Own (w : World) (base : Nat) (v : Value) (l : List UInt8) : Prop := w.ownsRow base 5 1 v l.length (bv l)
theorem Own.of_row {w : World} {base g n : Nat} {l : List UInt8} (h : Row w g 5 (bv l)) (hb : base ≤ g) (hn : l.length = n) (hm : n ≤ maxLen) : Own w base (.slice (some ⟨g, 0, none⟩) n n) l := by
  subst hn
  exact Row.own h hb (bv_length l) hm
theorem Own.alloc {w : World} {base : Nat} {v : Value} {l : List UInt8} (h : Own w base v l) (o : Obj) : Own (w.alloc o) base v l := World.ownsRow.alloc h o
theorem Own.mono {w : World} {base base' : Nat} {v : Value} {l : List UInt8} (h : Own w base v l) (hb : base' ≤ base) : Own w base' v l := World.ownsRow.mono h hb
theorem Own.open {w : World} {base : Nat} {v : Value} {l : List UInt8} (h : Own w base v l) : ∃ A n c, v = .slice A n c ∧ l.length = n ∧ n ≤ c ∧ c ≤ maxLen ∧ (A = none → c = 0) ∧ Bs w w.heap.size A l := by
  obtain ⟨A, c, rfl, h1, h2, h3, h4, h5, _⟩ := own_bs h
  exact ⟨A, _, c, rfl, h1, h2, h3, h4, h5⟩
/-- what a call leaves that lengthens bytes of one's own -/
def Grew (w : World) (base : Nat) (l : List UInt8) (e : Ending) (w' : World) : Prop := ∃ v, e = .returned v ∧ Own w' base v l ∧ Below base w w'
theorem grew_made {w : World} {base : Nat} {l : List UInt8} (hb : base ≤ w.heap.size) (hm : l.length ≤ maxLen) {e : Ending} {w' : World} (h : Made w l e w') : Grew w base l e w' := by
  obtain ⟨g, n, rfl, hn, hg, hr, hbel⟩ := h
  exact ⟨_, rfl, Own.of_row hr (by omega) hn.out (by rw [← hn.out]; exact hm), hbel.mono hb⟩
theorem below_own {base : Nat} {w w' : World} {v : Value} (hg : w.grownBy w' v.ownBlock) (h : ∀ k, v.ownBlock = some k → base ≤ k) (hs : base ≤ w.heap.size) : Below base w w' :=
  (Below.refl _ _).grown hg hs h

set_option maxHeartbeats 400000 in
theorem putItem_any (v : Value) (l : List UInt8) (A : Option Addr) (q : List UInt8) (m c base : Nat) (w : World) (ho : Own w base v l) (hl : l.length ≤ 100000) (hb : base ≤ w.heap.size) (hq : q.length = m) (hm : m ≤ 255) (hbs : Bs w base A q) (hA : A = none → c = 0) :
    Calls Try.prog 60 #[v, .slice A m c] w (Grew w base (l ++ itemM q)) := by
  obtain ⟨i0, hi, hz0, hz1, hz2⟩ := info_parts info5
  obtain ⟨Av, n, cv, rfl, h1, h2, h3, h4, h5⟩ := ho.open
  have HO := Lib.hid ho
  have HL := Lib.hid h1
  have HQ := Lib.hid hq
  have HA := Lib.hid hA
  have hmm2 : (m : Int) % 256 = (m : Int) := by omega
  have hln : n ≤ 100000 := by omega
  clear h1 ho hq hA h4 h5 hl
  go_enter Try.func60, Try.ntmps60
  have hlit : ∀ w1 : World, Bs (w1.alloc (.cells #[.int .u8 (m : Int)] 5)) (w1.heap.size + 1) (some ⟨w1.heap.size, 0, none⟩) [ub m] := fun w1 => by
    have := lit_bs w1 [ub m] 5
    have e : ((ub m).toNat : Int) = (m : Int) := by simp [ub]; omega
    simpa [bv, e] using this
  have HLit := Lib.hid hlit
  clear hlit
  go_wp2_with (first
    | (at_builtin; (refine wpList_append_bs (o := ⟨some 10, _, _, _, _, _⟩) rfl (.tmp 5) (.tmp 9) 25 rfl base 5 i0 (.int .u8 0) Try.underlying25 hi hz0 hz1 hz2 rfl (.slice Av n cv) l.length (bv l) rfl (World.ownsRow.alloc HO.out _) (some ⟨w.heap.size, 0, none⟩) 1 1 [ub m] rfl rfl (w.heap.size + 1) (HLit.out w) (fun hh => by cases hh) (by have := HL.out; omega) (by simp; omega) ?_; intro v2 w2 hown2 hg2; have HG2 := Lib.hid (below_own hg2 (fun k hk => (World.ownsRow.lt HO.out k hk).1) (by simp; omega)); have HO2 := Lib.hid hown2; clear hown2 hg2))
    | (at_builtin; refine wpList_append_bs (o := ⟨some 12, _, _, _, _, _⟩) rfl (.tmp 10) (.tmp 11) 25 rfl base 5 i0 (.int .u8 0) Try.underlying25 hi hz0 hz1 hz2 rfl v2 (l.length + 1) (bv l ++ bv [ub m]) rfl HO2.out A m c q rfl HQ.out base ((hbs.alloc hb _).below HG2.out) HA.out (by have := HL.out; omega) (by have := HG2.out.size; simp at this; omega) ?_; intro v3 w3 hown3 hg3; have HG3 := Lib.hid (below_own hg3 (fun k hk => (World.ownsRow.lt HO2.out k hk).1) (by have := HG2.out.size; simp at this; omega)); have HO3 := Lib.hid hown3; clear hown3 hg3))
  go_ret
  refine ⟨v3, rfl, ?_, (((Below.refl _ _).alloc hb _).trans HG2.out).trans HG3.out⟩
  have h := HO3.out
  unfold Own itemM
  rw [show l.length + 1 + m = (l ++ ub q.length :: q).length from by have := HQ.out; simp; omega] at h
  simpa [bv, HQ.out] using h

theorem has_place (k : Int) : hasB (countedM k) 2 = decide (k = 1 ∨ k = 2) := by
  unfold countedM
  repeat' split
  all_goals first | (rw [decide_eq_true (by omega)]; decide) | (rw [decide_eq_false (by omega)]; decide)
theorem has_after (k : Int) : hasB (countedM k) 8 = decide (k = 1 ∨ k = 2) := by
  unfold countedM
  repeat' split
  all_goals first | (rw [decide_eq_true (by omega)]; decide) | (rw [decide_eq_false (by omega)]; decide)
theorem has_next (k : Int) : hasB (countedM k) 16 = decide (k = 2) := by
  unfold countedM
  repeat' split
  all_goals first | (rw [decide_eq_true (by omega)]; decide) | (rw [decide_eq_false (by omega)]; decide)
/-- the bytes behind k numbers -/
def numsM (r : RM) (k : Nat) : List UInt8 := [ub r.kind.toNat] ++ (([hi 8 r.lsn, hi 8 r.txn, hi 8 r.back].take k).flatten)
theorem nums_step (r : RM) (k : Nat) (x : Nat) (h : [r.lsn, r.txn, r.back][k]? = some x) : numsM r k ++ hi 8 x = numsM r (k + 1) := by
  match k, h with
  | 0, h => cases h; simp [numsM]
  | 1, h => cases h; simp [numsM]
  | 2, h => cases h; simp [numsM]
theorem nums_all (r : RM) : numsM r 3 = headM r := by simp [numsM, headM]
theorem nums_len (r : RM) (k : Nat) (h : k ≤ 3) : (numsM r k).length = 1 + 8 * k := by
  match k, h with
  | 0, _ => simp [numsM, hi_length]
  | 1, _ => simp [numsM, hi_length]
  | 2, _ => simp [numsM, hi_length]
  | 3, _ => simp [numsM, hi_length]

set_option maxHeartbeats 1000000 in
theorem bytesOf_any (r : RM) (s : RS) (B : Nat) (w : World) (h : RecAt w B r s) (hB : B ≤ w.heap.size) (hok : okM r = true) : Calls Try.prog 32 #[.agg (rcs r s).toArray] w (Grew w w.heap.size (bytesM r)) := by
  obtain ⟨i0, hi, hz0, hz1, hz2⟩ := info_parts info5
  have HA := Lib.hid h
  have HOA := Lib.hid (ok_arith r hok)
  have HC := Lib.hid (fun (w : World) => counted_any r.kind w)
  obtain ⟨C, hCe⟩ : ∃ C, C = countedM r.kind := ⟨_, rfl⟩
  have HH := Lib.hid (fun g (w : World) => has_any (countedM r.kind) g w)
  rw [← hCe] at HC HH
  have HCe := Lib.hid hCe
  have HS := Lib.hid (nums_step r)
  have HNL := Lib.hid (nums_len r)
  have HNA := Lib.hid (nums_all r)
  clear h hCe
  obtain ⟨R, hR⟩ : ∃ R, R = r := ⟨_, rfl⟩
  rw [← hR] at HS HNL HNA
  rw [show bytesM r = bytesM R from by rw [hR]]
  obtain ⟨k, hk⟩ : ∃ k : Nat, r.kind = (k : Int) := ⟨r.kind.toNat, by have := HOA.out; omega⟩
  obtain ⟨p, hp⟩ : ∃ p : Nat, r.page = (p : Int) := ⟨r.page.toNat, by have := HOA.out; omega⟩
  obtain ⟨q, hq⟩ : ∃ q : Nat, r.slot = (q : Int) := ⟨r.slot.toNat, by have := HOA.out; omega⟩
  have HR := Lib.hid hR
  clear hR
  unfold rcs at *
  obtain ⟨lsn, kind, txn, back, page, slot, old, new, next⟩ := r
  obtain ⟨Ao, no, co, An, nn, cn⟩ := s
  dsimp only at *
  subst hk hp hq
  have hk256 : (k : Int) % 256 = (k : Int) := by have := HOA.out; omega
  have hp256 : (p : Int) % 256 = (p : Int) := by have := HOA.out; omega
  have hq256 : (q : Int) % 256 = (q : Int) := by have := HOA.out; omega
  go_enter Try.func32, Try.ntmps32
  go_wp2_with fail
  refine ((HC.out) _).mono ?_
  rintro e w' ⟨rfl, rfl⟩
  go_wp2_with fail
  go_loopw [4, 22] (fun t4 t22 wr => ∃ (j : Nat) (v : Value), j ≤ 3 ∧ t4 = v ∧ t22 = .int .i64 j ∧ Own wr (w.heap.size + 1) v (numsM R j) ∧ Row wr w.heap.size 34 [.int .u64 (lsn : Int), .int .i64 (k : Int), .int .u64 (txn : Int), .int .u64 (back : Int), .int .i64 (p : Int), .int .i64 (q : Int), .slice Ao no co, .slice An nn cn, .int .u64 (next : Int)] ∧ Row wr (w.heap.size + 1 + 1) 32 [.int .u64 (lsn : Int), .int .u64 (txn : Int), .int .u64 (back : Int)] ∧ Below w.heap.size w wr ∧ w.heap.size + 1 + 1 + 1 ≤ wr.heap.size) (fun _ t22 _ => 3 - (intOf t22).toNat)
  case atStart =>
    have e1 : bv [ub k] = [.int .u8 (k : Int)] := by
      have : ((ub k).toNat : Int) = (k : Int) := by simp [ub]; omega
      simp [bv, this]
    have e0 : numsM R 0 = [ub k] := by rw [HR.out]; simp [numsM]
    have r0 := Row.new w 34 [.int .u64 (lsn : Int), .int .i64 (k : Int), .int .u64 (txn : Int), .int .u64 (back : Int), .int .i64 (p : Int), .int .i64 (q : Int), .slice Ao no co, .slice An nn cn, .int .u64 (next : Int)]
    have r1 := Row.new (w.alloc (.cells #[.int .u64 (lsn : Int), .int .i64 (k : Int), .int .u64 (txn : Int), .int .u64 (back : Int), .int .i64 (p : Int), .int .i64 (q : Int), .slice Ao no co, .slice An nn cn, .int .u64 (next : Int)] 34)) 5 (bv [ub k])
    have r2 := Row.new ((w.alloc (.cells #[.int .u64 (lsn : Int), .int .i64 (k : Int), .int .u64 (txn : Int), .int .u64 (back : Int), .int .i64 (p : Int), .int .i64 (q : Int), .slice Ao no co, .slice An nn cn, .int .u64 (next : Int)] 34)).alloc (.cells (bv [ub k]).toArray 5)) 32 [.int .u64 (lsn : Int), .int .u64 (txn : Int), .int .u64 (back : Int)]
    have r0' := (r0.alloc (.cells (bv [ub k]).toArray 5)).alloc (.cells #[.int .u64 (lsn : Int), .int .u64 (txn : Int), .int .u64 (back : Int)] 32)
    have r1' := r1.alloc (.cells #[.int .u64 (lsn : Int), .int .u64 (txn : Int), .int .u64 (back : Int)] 32)
    simp only [World.size_alloc] at r1' r2
    rw [e1] at r0' r2
    have o1 := Own.of_row (base := w.heap.size + 1) r1' (Nat.le_refl _) (n := 1) rfl (by simp [maxLen])
    rw [e1] at o1
    refine ⟨0, _, by omega, rfl, rfl, ?_, r0', r2, (((Below.refl _ _).alloc (Nat.le_refl _) _).alloc (by simp) _).alloc (by simp; omega) _, by simp⟩
    rw [e0]
    exact o1
  case round =>
    obtain ⟨j, v, hj, rfl, rfl, hown, hr0, hr2, hbel, hsz⟩ := hrel
    obtain ⟨Av, n, cv, rfl, h1, h2, h3, h4, h5⟩ := hown.open
    have hHN := HNL.out j hj
    by_cases hlt : j < 3
    · obtain ⟨x, hx⟩ : ∃ x, [lsn, txn, back][j]? = some x := ⟨_, List.getElem?_eq_getElem (by simpa using hlt)⟩
      have hcx : wr.cell? ⟨w.heap.size + 1 + 1, j, none⟩ = some (.int .u64 (x : Int)) := by
        rw [hr2.cell]
        match j, hx with
        | 0, hx => cases hx; rfl
        | 1, hx => cases hx; rfl
        | 2, hx => cases hx; rfl
      have HX := HS.out j x (by rw [HR.out]; exact hx)
      have HX1 := Lib.hid HX
      have HB5 := Lib.hid h5
      have H1 := Lib.hid h1
      have HR0 := Lib.hid hr0
      have HR2 := Lib.hid hr2
      have hn25 : n ≤ 25 := by omega
      clear HX h5 hx h4 h1 hHN hr0 hr2
      go_wp2_with fail
      refine (put64_any Av (numsM R j) cv n x wr H1.out.symm (by omega) HB5.out).mono ?_
      rintro e w2 hmade
      obtain ⟨g, m, rfl, hm, hg, hrow, hb2⟩ := hmade
      rw [HX1.out] at hm hrow
      have hm2 : m ≤ 25 := by have := HNL.out (j + 1) (by omega); have := hm.out; omega
      have hs2 := hb2.size
      go_wp2
      go_roundw
      case rel => exact ⟨j + 1, _, by omega, rfl, by go_num, Own.of_row hrow (by omega) hm.out (by unfold maxLen; omega), HR0.out.below hb2 (by omega), HR2.out.below hb2 (by omega), hbel.trans (hb2.mono (by omega)), by omega⟩
      case measure => simp [intOf]; omega
    · obtain rfl : j = 3 := by omega
      rw [HNA.out] at hown h1 h5 hHN
      have HOW := Lib.hid hown
      have H1 := Lib.hid h1
      have HLN := Lib.hid hHN
      have HR0 := Lib.hid hr0
      have hc0 : wr.cell? ⟨w.heap.size, 0, none⟩ = some (.int .u64 (lsn : Int)) := hr0.cell 0
      have hc1 : wr.cell? ⟨w.heap.size, 1, none⟩ = some (.int .i64 (k : Int)) := hr0.cell 1
      have hc2 : wr.cell? ⟨w.heap.size, 2, none⟩ = some (.int .u64 (txn : Int)) := hr0.cell 2
      have hc3 : wr.cell? ⟨w.heap.size, 3, none⟩ = some (.int .u64 (back : Int)) := hr0.cell 3
      have hc4 : wr.cell? ⟨w.heap.size, 4, none⟩ = some (.int .i64 (p : Int)) := hr0.cell 4
      have hc5 : wr.cell? ⟨w.heap.size, 5, none⟩ = some (.int .i64 (q : Int)) := hr0.cell 5
      have hc6 : wr.cell? ⟨w.heap.size, 6, none⟩ = some (.slice Ao no co) := hr0.cell 6
      have hc7 : wr.cell? ⟨w.heap.size, 7, none⟩ = some (.slice An nn cn) := hr0.cell 7
      have hc8 : wr.cell? ⟨w.heap.size, 8, none⟩ = some (.int .u64 (next : Int)) := hr0.cell 8
      clear hown h1 h5 hHN hr0 hr2 h4
      have HBL := Lib.hid hbel
      have HSZ : w.heap.size + 1 ≤ wr.heap.size := by omega
      have hlit : ∀ w1 : World, Bs (w1.alloc (.cells #[.int .u8 (p : Int), .int .u8 (q : Int)] 5)) (w1.heap.size + 1) (some ⟨w1.heap.size, 0, none⟩) [ub p, ub q] := fun w1 => by
        have := lit_bs w1 [ub p, ub q] 5
        have e : ((ub p).toNat : Int) = (p : Int) := by simp [ub]; omega
        have e2 : ((ub q).toNat : Int) = (q : Int) := by simp [ub]; omega
        simpa [bv, e, e2] using this
      have HLit := Lib.hid hlit
      clear hlit hbel hsz
      have hk3 : k = 1 ∨ k = 2 ∨ (k = 3 ∨ k = 4) := by have := HOA.out; omega
      rcases hk3 with hk | hk | hk
      · have HH2 : Hid (∀ w, Calls Try.prog 59 #[.int .u8 (C : Int), .int .u8 2] w fun e w' => e = .returned (.bool true) ∧ w = w') := fun w => by
          have hx := HH.out 2 w
          rw [HCe.out, has_place, decide_eq_true (by omega)] at hx
          rw [HCe.out]
          exact hx
        have HH4 : Hid (∀ w, Calls Try.prog 59 #[.int .u8 (C : Int), .int .u8 4] w fun e w' => e = .returned (.bool true) ∧ w = w') := fun w => by
          have hx := HH.out 4 w
          rw [HCe.out, has_before, decide_eq_true (by omega)] at hx
          rw [HCe.out]
          exact hx
        have HH8 : Hid (∀ w, Calls Try.prog 59 #[.int .u8 (C : Int), .int .u8 8] w fun e w' => e = .returned (.bool true) ∧ w = w') := fun w => by
          have hx := HH.out 8 w
          rw [HCe.out, has_after, decide_eq_true (by omega)] at hx
          rw [HCe.out]
          exact hx
        have HH16 : Hid (∀ w, Calls Try.prog 59 #[.int .u8 (C : Int), .int .u8 16] w fun e w' => e = .returned (.bool false) ∧ w = w') := fun w => by
          have hx := HH.out 16 w
          rw [HCe.out, has_next, decide_eq_false (by omega)] at hx
          rw [HCe.out]
          exact hx
        subst hk
        go_wp2_with fail
        refine (HH2.out wr).mono ?_
        rintro e w' ⟨rfl, rfl⟩
        go_wp2_with (at_builtin; refine wpList_append_bs (o := ⟨some 40, _, _, _, _, _⟩) rfl (.tmp 32) (.tmp 39) 25 rfl (w.heap.size + 1) 5 i0 (.int .u8 0) Try.underlying25 hi hz0 hz1 hz2 rfl (.slice Av n cv) (headM R).length (bv (headM R)) rfl (World.ownsRow.alloc HOW.out _) (some ⟨wr.heap.size, 0, none⟩) 2 2 [ub p, ub q] rfl rfl (wr.heap.size + 1) (HLit.out wr) (fun hh => by cases hh) (by have := HLN.out; omega) (by simp; omega) ?_; intro v1 w1a hown1 hg1; go_loud (have hbx := below_own hg1 (fun k hk => (World.ownsRow.lt HOW.out k hk).1) (by simp; omega); have HO1 := Lib.hid (show Own w1a (w.heap.size + 1) v1 ((headM R) ++ [ub p, ub q]) from by have hh := hown1; rw [← bv_append] at hh; simpa [Own] using hh); have hby := ((Below.refl _ _).alloc (by omega) _).trans hbx; clear hown1 hg1 hbx; have hby' := Lib.hid hby; clear hby; have hby := hby'.out; have HBL1 := Lib.hid (HBL.out.trans (hby.mono (Nat.le_succ _))); have HR1r := Lib.hid (HR0.out.below hby (Nat.lt_succ_self _)); have HSZ1 : w.heap.size + 1 ≤ w1a.heap.size := Nat.le_trans HSZ hby.size; have hd14 : w1a.cell? ⟨w.heap.size, 4, none⟩ = some (.int .i64 (p : Int)) := HR1r.out.cell 4; have hd15 : w1a.cell? ⟨w.heap.size, 5, none⟩ = some (.int .i64 (q : Int)) := HR1r.out.cell 5; have hd16 : w1a.cell? ⟨w.heap.size, 6, none⟩ = some (.slice Ao no co) := HR1r.out.cell 6; have hd17 : w1a.cell? ⟨w.heap.size, 7, none⟩ = some (.slice An nn cn) := HR1r.out.cell 7; have hd18 : w1a.cell? ⟨w.heap.size, 8, none⟩ = some (.int .u64 (next : Int)) := HR1r.out.cell 8; clear hby; have HSZ := HSZ1; clear HSZ1; have HL1 : Hid ((headM R ++ [ub p, ub q]).length ≤ 200) := (show _ ≤ _ by have := HLN.out; simp only [List.length_append, List.length_cons, List.length_nil] at this ⊢; omega)))
        refine (HH4.out w1a).mono ?_
        rintro e w' ⟨rfl, rfl⟩
        go_wp2_with fail
        refine (putItem_any v1 (headM R ++ [ub p, ub q]) Ao old no co (w.heap.size + 1) w1a HO1.out (by have := HL1.out; omega) HSZ HA.out.lo (by have := HOA.out; have := HA.out.lo; simp only at this; omega) ((HA.out.bo.below (HBL1.out.mono hB)).more (by omega)) HA.out.ao).mono ?_
        rintro e w2a ⟨v2, rfl, ho2, hby⟩
        have HO2 := Lib.hid ho2
        clear ho2
        have HL2 : Hid ((headM R ++ [ub p, ub q] ++ itemM old).length ≤ 400) := (show _ ≤ _ by have := HL1.out; have := HOA.out; simp only [itemM, List.length_append, List.length_cons, List.length_nil] at *; omega)
        have HBL2 := Lib.hid (HBL1.out.trans (hby.mono (Nat.le_succ _)))
        have HR2r := Lib.hid (HR1r.out.below hby (Nat.lt_succ_self _))
        have HSZ2 : w.heap.size + 1 ≤ w2a.heap.size := Nat.le_trans HSZ hby.size
        have hd24 : w2a.cell? ⟨w.heap.size, 4, none⟩ = some (.int .i64 (p : Int)) := HR2r.out.cell 4
        have hd25 : w2a.cell? ⟨w.heap.size, 5, none⟩ = some (.int .i64 (q : Int)) := HR2r.out.cell 5
        have hd26 : w2a.cell? ⟨w.heap.size, 6, none⟩ = some (.slice Ao no co) := HR2r.out.cell 6
        have hd27 : w2a.cell? ⟨w.heap.size, 7, none⟩ = some (.slice An nn cn) := HR2r.out.cell 7
        have hd28 : w2a.cell? ⟨w.heap.size, 8, none⟩ = some (.int .u64 (next : Int)) := HR2r.out.cell 8
        clear hby
        have HSZ := HSZ2
        clear HSZ2
        go_wp2_with fail
        refine (HH8.out w2a).mono ?_
        rintro e w' ⟨rfl, rfl⟩
        go_wp2_with fail
        refine (putItem_any v2 (headM R ++ [ub p, ub q] ++ itemM old) An new nn cn (w.heap.size + 1) w2a HO2.out (by have := HL2.out; omega) HSZ HA.out.ln (by have := HOA.out; have := HA.out.ln; simp only at this; omega) ((HA.out.bn.below (HBL2.out.mono hB)).more (by omega)) HA.out.an).mono ?_
        rintro e w3a ⟨v3, rfl, ho3, hby⟩
        have HO3 := Lib.hid ho3
        clear ho3
        have HL3 : Hid ((headM R ++ [ub p, ub q] ++ itemM old ++ itemM new).length ≤ 500) := (show _ ≤ _ by have := HL2.out; have := HOA.out; simp only [itemM, List.length_append, List.length_cons, List.length_nil] at *; omega)
        have HBL3 := Lib.hid (HBL2.out.trans (hby.mono (Nat.le_succ _)))
        have HR3r := Lib.hid (HR2r.out.below hby (Nat.lt_succ_self _))
        have HSZ3 : w.heap.size + 1 ≤ w3a.heap.size := Nat.le_trans HSZ hby.size
        have hd34 : w3a.cell? ⟨w.heap.size, 4, none⟩ = some (.int .i64 (p : Int)) := HR3r.out.cell 4
        have hd35 : w3a.cell? ⟨w.heap.size, 5, none⟩ = some (.int .i64 (q : Int)) := HR3r.out.cell 5
        have hd36 : w3a.cell? ⟨w.heap.size, 6, none⟩ = some (.slice Ao no co) := HR3r.out.cell 6
        have hd37 : w3a.cell? ⟨w.heap.size, 7, none⟩ = some (.slice An nn cn) := HR3r.out.cell 7
        have hd38 : w3a.cell? ⟨w.heap.size, 8, none⟩ = some (.int .u64 (next : Int)) := HR3r.out.cell 8
        clear hby
        have HSZ := HSZ3
        clear HSZ3
        go_wp2_with fail
        refine (HH16.out w3a).mono ?_
        rintro e w' ⟨rfl, rfl⟩
        go_wp2_with fail
        go_ret
        refine ⟨_, rfl, ?_, HBL3.out⟩
        have hfin := HO3.out.mono (Nat.le_succ _)
        rw [show bytesM R = headM R ++ [ub p, ub q] ++ itemM old ++ itemM new from by rw [bytesM, HR.out]; simp [restM, itemM, List.append_assoc]]
        exact hfin
      · have HH2 : Hid (∀ w, Calls Try.prog 59 #[.int .u8 (C : Int), .int .u8 2] w fun e w' => e = .returned (.bool true) ∧ w = w') := fun w => by
          have hx := HH.out 2 w
          rw [HCe.out, has_place, decide_eq_true (by omega)] at hx
          rw [HCe.out]
          exact hx
        have HH4 : Hid (∀ w, Calls Try.prog 59 #[.int .u8 (C : Int), .int .u8 4] w fun e w' => e = .returned (.bool false) ∧ w = w') := fun w => by
          have hx := HH.out 4 w
          rw [HCe.out, has_before, decide_eq_false (by omega)] at hx
          rw [HCe.out]
          exact hx
        have HH8 : Hid (∀ w, Calls Try.prog 59 #[.int .u8 (C : Int), .int .u8 8] w fun e w' => e = .returned (.bool true) ∧ w = w') := fun w => by
          have hx := HH.out 8 w
          rw [HCe.out, has_after, decide_eq_true (by omega)] at hx
          rw [HCe.out]
          exact hx
        have HH16 : Hid (∀ w, Calls Try.prog 59 #[.int .u8 (C : Int), .int .u8 16] w fun e w' => e = .returned (.bool true) ∧ w = w') := fun w => by
          have hx := HH.out 16 w
          rw [HCe.out, has_next, decide_eq_true (by omega)] at hx
          rw [HCe.out]
          exact hx
        subst hk
        go_wp2_with fail
        refine (HH2.out wr).mono ?_
        rintro e w' ⟨rfl, rfl⟩
        go_wp2_with (at_builtin; refine wpList_append_bs (o := ⟨some 40, _, _, _, _, _⟩) rfl (.tmp 32) (.tmp 39) 25 rfl (w.heap.size + 1) 5 i0 (.int .u8 0) Try.underlying25 hi hz0 hz1 hz2 rfl (.slice Av n cv) (headM R).length (bv (headM R)) rfl (World.ownsRow.alloc HOW.out _) (some ⟨wr.heap.size, 0, none⟩) 2 2 [ub p, ub q] rfl rfl (wr.heap.size + 1) (HLit.out wr) (fun hh => by cases hh) (by have := HLN.out; omega) (by simp; omega) ?_; intro v1 w1a hown1 hg1; go_loud (have hbx := below_own hg1 (fun k hk => (World.ownsRow.lt HOW.out k hk).1) (by simp; omega); have HO1 := Lib.hid (show Own w1a (w.heap.size + 1) v1 ((headM R) ++ [ub p, ub q]) from by have hh := hown1; rw [← bv_append] at hh; simpa [Own] using hh); have hby := ((Below.refl _ _).alloc (by omega) _).trans hbx; clear hown1 hg1 hbx; have hby' := Lib.hid hby; clear hby; have hby := hby'.out; have HBL1 := Lib.hid (HBL.out.trans (hby.mono (Nat.le_succ _))); have HR1r := Lib.hid (HR0.out.below hby (Nat.lt_succ_self _)); have HSZ1 : w.heap.size + 1 ≤ w1a.heap.size := Nat.le_trans HSZ hby.size; have hd14 : w1a.cell? ⟨w.heap.size, 4, none⟩ = some (.int .i64 (p : Int)) := HR1r.out.cell 4; have hd15 : w1a.cell? ⟨w.heap.size, 5, none⟩ = some (.int .i64 (q : Int)) := HR1r.out.cell 5; have hd16 : w1a.cell? ⟨w.heap.size, 6, none⟩ = some (.slice Ao no co) := HR1r.out.cell 6; have hd17 : w1a.cell? ⟨w.heap.size, 7, none⟩ = some (.slice An nn cn) := HR1r.out.cell 7; have hd18 : w1a.cell? ⟨w.heap.size, 8, none⟩ = some (.int .u64 (next : Int)) := HR1r.out.cell 8; clear hby; have HSZ := HSZ1; clear HSZ1; have HL1 : Hid ((headM R ++ [ub p, ub q]).length ≤ 200) := (show _ ≤ _ by have := HLN.out; simp only [List.length_append, List.length_cons, List.length_nil] at this ⊢; omega)))
        refine (HH4.out w1a).mono ?_
        rintro e w' ⟨rfl, rfl⟩
        go_wp2_with fail
        refine (HH8.out w1a).mono ?_
        rintro e w' ⟨rfl, rfl⟩
        go_wp2_with fail
        refine (putItem_any v1 (headM R ++ [ub p, ub q]) An new nn cn (w.heap.size + 1) w1a HO1.out (by have := HL1.out; omega) HSZ HA.out.ln (by have := HOA.out; have := HA.out.ln; simp only at this; omega) ((HA.out.bn.below (HBL1.out.mono hB)).more (by omega)) HA.out.an).mono ?_
        rintro e w2a ⟨v2, rfl, ho2, hby⟩
        have HO2 := Lib.hid ho2
        clear ho2
        have HL2 : Hid ((headM R ++ [ub p, ub q] ++ itemM new).length ≤ 400) := (show _ ≤ _ by have := HL1.out; have := HOA.out; simp only [itemM, List.length_append, List.length_cons, List.length_nil] at *; omega)
        have HBL2 := Lib.hid (HBL1.out.trans (hby.mono (Nat.le_succ _)))
        have HR2r := Lib.hid (HR1r.out.below hby (Nat.lt_succ_self _))
        have HSZ2 : w.heap.size + 1 ≤ w2a.heap.size := Nat.le_trans HSZ hby.size
        have hd24 : w2a.cell? ⟨w.heap.size, 4, none⟩ = some (.int .i64 (p : Int)) := HR2r.out.cell 4
        have hd25 : w2a.cell? ⟨w.heap.size, 5, none⟩ = some (.int .i64 (q : Int)) := HR2r.out.cell 5
        have hd26 : w2a.cell? ⟨w.heap.size, 6, none⟩ = some (.slice Ao no co) := HR2r.out.cell 6
        have hd27 : w2a.cell? ⟨w.heap.size, 7, none⟩ = some (.slice An nn cn) := HR2r.out.cell 7
        have hd28 : w2a.cell? ⟨w.heap.size, 8, none⟩ = some (.int .u64 (next : Int)) := HR2r.out.cell 8
        clear hby
        have HSZ := HSZ2
        clear HSZ2
        go_wp2_with fail
        refine (HH16.out w2a).mono ?_
        rintro e w' ⟨rfl, rfl⟩
        go_wp2_with fail
        obtain ⟨Az, nz, cz, rfl, z1, z2, z3, z4, z5⟩ := HO2.out.open
        refine (put64_any Az (headM R ++ [ub p, ub q] ++ itemM new) cz nz next w2a z1.symm (by have := HL2.out; omega) z5).mono ?_
        rintro e w3a hmade
        obtain ⟨v3, rfl, ho3, hby⟩ := grew_made HSZ (by have := HL2.out; unfold maxLen; simp only [List.length_append, hi_length] at this ⊢; omega) hmade
        have HO3 := Lib.hid ho3
        clear ho3 hmade z1 z2 z3 z4 z5
        have HBL3 := Lib.hid (HBL2.out.trans (hby.mono (Nat.le_succ _)))
        have HR3r := Lib.hid (HR2r.out.below hby (Nat.lt_succ_self _))
        have HSZ3 : w.heap.size + 1 ≤ w3a.heap.size := Nat.le_trans HSZ hby.size
        have hd34 : w3a.cell? ⟨w.heap.size, 4, none⟩ = some (.int .i64 (p : Int)) := HR3r.out.cell 4
        have hd35 : w3a.cell? ⟨w.heap.size, 5, none⟩ = some (.int .i64 (q : Int)) := HR3r.out.cell 5
        have hd36 : w3a.cell? ⟨w.heap.size, 6, none⟩ = some (.slice Ao no co) := HR3r.out.cell 6
        have hd37 : w3a.cell? ⟨w.heap.size, 7, none⟩ = some (.slice An nn cn) := HR3r.out.cell 7
        have hd38 : w3a.cell? ⟨w.heap.size, 8, none⟩ = some (.int .u64 (next : Int)) := HR3r.out.cell 8
        clear hby
        have HSZ := HSZ3
        clear HSZ3
        go_wp2_with fail
        go_ret
        refine ⟨_, rfl, ?_, HBL3.out⟩
        have hfin := HO3.out.mono (Nat.le_succ _)
        rw [show bytesM R = headM R ++ [ub p, ub q] ++ itemM new ++ Wd.hi 8 next from by rw [bytesM, HR.out]; simp [restM, itemM, List.append_assoc]]
        exact hfin
      · have HH2 : Hid (∀ w, Calls Try.prog 59 #[.int .u8 (C : Int), .int .u8 2] w fun e w' => e = .returned (.bool false) ∧ w = w') := fun w => by
          have hx := HH.out 2 w
          rw [HCe.out, has_place, decide_eq_false (by omega)] at hx
          rw [HCe.out]
          exact hx
        have HH4 : Hid (∀ w, Calls Try.prog 59 #[.int .u8 (C : Int), .int .u8 4] w fun e w' => e = .returned (.bool false) ∧ w = w') := fun w => by
          have hx := HH.out 4 w
          rw [HCe.out, has_before, decide_eq_false (by omega)] at hx
          rw [HCe.out]
          exact hx
        have HH8 : Hid (∀ w, Calls Try.prog 59 #[.int .u8 (C : Int), .int .u8 8] w fun e w' => e = .returned (.bool false) ∧ w = w') := fun w => by
          have hx := HH.out 8 w
          rw [HCe.out, has_after, decide_eq_false (by omega)] at hx
          rw [HCe.out]
          exact hx
        have HH16 : Hid (∀ w, Calls Try.prog 59 #[.int .u8 (C : Int), .int .u8 16] w fun e w' => e = .returned (.bool false) ∧ w = w') := fun w => by
          have hx := HH.out 16 w
          rw [HCe.out, has_next, decide_eq_false (by omega)] at hx
          rw [HCe.out]
          exact hx
        go_wp2_with fail
        refine (HH2.out wr).mono ?_
        rintro e w' ⟨rfl, rfl⟩
        go_wp2_with fail
        refine (HH4.out wr).mono ?_
        rintro e w' ⟨rfl, rfl⟩
        go_wp2_with fail
        refine (HH8.out wr).mono ?_
        rintro e w' ⟨rfl, rfl⟩
        go_wp2_with fail
        refine (HH16.out wr).mono ?_
        rintro e w' ⟨rfl, rfl⟩
        go_wp2_with fail
        go_ret
        refine ⟨_, rfl, ?_, HBL.out⟩
        have hfin := HOW.out.mono (Nat.le_succ _)
        rw [show bytesM R = headM R from by rw [bytesM, HR.out]; rcases hk with rfl | rfl <;> simp [restM, itemM, List.append_assoc]]
        exact hfin
end Go.Proofs.Ytnljhopikjkflaa.Rec
