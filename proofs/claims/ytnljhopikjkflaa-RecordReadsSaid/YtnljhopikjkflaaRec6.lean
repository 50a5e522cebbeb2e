/-
  The reference's bytes of a record.
-/
import Derived.Test.YtnljhopikjkflaaRec5
import Derived.Test.YtnljhopikjkflaaOct3
import Derived.Deep.RegionHeldLaw
import Derived.Deep.RegionHeld3
namespace Go.Proofs.Ytnljhopikjkflaa.Rec
set_option maxRecDepth 100000
open Go.RowKit Go.Proofs.Ytnljhopikjkflaa.Wd Go.Proofs.Ytnljhopikjkflaa.Oct Go.Proofs.Ytnljhopikjkflaa.Dsk

theorem undrew {B : Nat} {w w' : World} (h : Below B w.drew w') : Below B w w' := ⟨h.os, h.tape, h.output, h.size, h.block⟩
theorem maxLen_big : 140737488355328 ≤ maxLen := by unfold maxLen; omega
theorem wp_append_bs {P : Program} {w : World} {o : Oper} {a : Act} {K : Act → World → Prop} {Q : Exit → Act → World → Prop} (s x : Operand) (t : TypeId)
    (ho : o.op = .call { callee := .builtin .append, args := #[s, x], argTypes := #[t, t] })
    (base : Nat) (e : TypeId) (i : TypeInfo) (z : Value) (ht : P.underlying t = some (.slice e)) (hi : P.info? e = some i) (hz : i.zero = some z) (hsize : i.size = 1) (hby : i.bytes = 1) (hzs : z.cells.size = 1)
    (v : Value) (n : Nat) (xs : List Value) (hs : a.eval s = v) (hown : w.ownsRow base e 1 v n xs)
    (ad : Addr) (m c : Nat) (l : List UInt8) (hx : a.eval x = .slice (some ad) m c) (hl : l.length = m) (B : Nat) (hr : Bs w B (some ad) l)
    (h63 : n + m ≤ 140737488355328) (hbase : base ≤ w.heap.size)
    (h : ∀ v' w', w'.ownsRow base e 1 v' (n + m) (xs ++ bv l) → w.grownBy w' v.ownBlock → K (a.put o.dst v') w') : o.wp P a w K Q :=
  wp_append_own w s x t ho base e i z 1 1 ht hi hz hsize hby hzs (by omega) v n xs hs hown ad m c (bv l) hx (by rw [bv_length]; omega) (fun j u hu => by
    have hj : j < l.length := by simpa [bv_length] using (List.getElem?_eq_some_iff.1 hu).1
    obtain ⟨b, o, e, _, hc⟩ := hr (by omega)
    obtain rfl := Option.some.inj e
    rw [Addr.add_lit, hc j hj, ← hu]
    simp [bv, hj]) bv_one (by unfold maxLen; omega) (by omega) hbase fun v' w' h2 h3 _ => h v' w' h2 h3

theorem Own.of_add {w : World} {base m : Nat} {v : Value} {l q : List UInt8} (h : w.ownsRow base 5 1 v (l.length + m) (bv l ++ bv q)) (hm : q.length = m) : Own w base v (l ++ q) := by
  subst hm
  rw [← bv_append, ← List.length_append] at h
  exact h
theorem high8_any (x : Nat) (w : World) (hx : InU64 x) : Calls Try.prog 35 #[.int .u64 (x : Int), .int .i64 8] w (Made w (hi 8 x)) := high_any 8 x w (by omega) (by omega) hx

set_option maxHeartbeats 4000000 in
theorem bytes_ref (r : RM) (s : RS) (B : Nat) (w : World) (h : RecAt w B r s) (hB : B ≤ w.heap.size) (hok : okM r = true) (u1 : InU64 r.lsn) (u2 : InU64 r.txn) (u3 : InU64 r.back) (u4 : InU64 r.next) : Calls Try.prog 37 #[.agg (rcs r s).toArray] w (Grew w w.heap.size (bytesM r)) := by
  obtain ⟨i0, hi, hz0, hz1, hz2⟩ := info_parts info5
  have HA := Lib.hid h
  have HOA := Lib.hid (ok_arith r hok)
  have U1 := Lib.hid u1
  have U2 := Lib.hid u2
  have U3 := Lib.hid u3
  have U4 := Lib.hid u4
  clear h u1 u2 u3 u4
  obtain ⟨R, hR⟩ : ∃ R, R = r := ⟨_, rfl⟩
  rw [show bytesM r = bytesM R from by rw [hR]]
  obtain ⟨k, hk⟩ : ∃ k : Nat, r.kind = (k : Int) := ⟨r.kind.toNat, by have := HOA.out; omega⟩
  obtain ⟨p, hp⟩ : ∃ p : Nat, r.page = (p : Int) := ⟨r.page.toNat, by have := HOA.out; omega⟩
  obtain ⟨q, hq⟩ : ∃ q : Nat, r.slot = (q : Int) := ⟨r.slot.toNat, by have := HOA.out; omega⟩
  have HR := Lib.hid hR
  clear hR hok
  unfold rcs at *
  obtain ⟨lsn, kind, txn, back, page, slot, old, new, next⟩ := r
  obtain ⟨Ao, no, co, An, nn, cn⟩ := s
  dsimp only at *
  subst hk hp hq
  have hk256 : (k : Int) % 256 = (k : Int) := by have := HOA.out; omega
  have hp256 : (p : Int) % 256 = (p : Int) := by have := HOA.out; omega
  have hq256 : (q : Int) % 256 = (q : Int) := by have := HOA.out; omega
  go_enter Try.func37, Try.ntmps37
  go_wp2_with fail
  have e1 : bv [ub k] = [.int .u8 (k : Int)] := by
    have : ((ub k).toNat : Int) = (k : Int) := by simp [ub]; omega
    simp [bv, this]
  have r0 := Row.new w 34 [.int .u64 (lsn : Int), .int .i64 (k : Int), .int .u64 (txn : Int), .int .u64 (back : Int), .int .i64 (p : Int), .int .i64 (q : Int), .slice Ao no co, .slice An nn cn, .int .u64 (next : Int)]
  have r1 := Row.new (w.alloc (.cells #[.int .u64 (lsn : Int), .int .i64 (k : Int), .int .u64 (txn : Int), .int .u64 (back : Int), .int .i64 (p : Int), .int .i64 (q : Int), .slice Ao no co, .slice An nn cn, .int .u64 (next : Int)] 34)) 5 (bv [ub k])
  have r0' := r0.alloc (.cells (bv [ub k]).toArray 5)
  simp only [World.size_alloc] at r1
  rw [e1] at r0'
  have o1 := Own.of_row (base := w.heap.size + 1) r1 (Nat.le_refl _) (n := 1) rfl (by simp [maxLen])
  have b1 := Row.bs r1 r1.lt
  rw [e1] at o1 b1
  have hbel : Below w.heap.size w ((w.alloc (.cells #[.int .u64 (lsn : Int), .int .i64 (k : Int), .int .u64 (txn : Int), .int .u64 (back : Int), .int .i64 (p : Int), .int .i64 (q : Int), .slice Ao no co, .slice An nn cn, .int .u64 (next : Int)] 34)).alloc (.cells #[.int .u8 (k : Int)] 5)) := ((Below.refl _ _).alloc (Nat.le_refl _) _).alloc (by simp) _
  have HSZ : w.heap.size + 1 ≤ ((w.alloc (.cells #[.int .u64 (lsn : Int), .int .i64 (k : Int), .int .u64 (txn : Int), .int .u64 (back : Int), .int .i64 (p : Int), .int .i64 (q : Int), .slice Ao no co, .slice An nn cn, .int .u64 (next : Int)] 34)).alloc (.cells #[.int .u8 (k : Int)] 5)).heap.size := by simp
  clear r0 r1 e1
  generalize (w.alloc (.cells #[.int .u64 (lsn : Int), .int .i64 (k : Int), .int .u64 (txn : Int), .int .u64 (back : Int), .int .i64 (p : Int), .int .i64 (q : Int), .slice Ao no co, .slice An nn cn, .int .u64 (next : Int)] 34)).alloc (.cells #[.int .u8 (k : Int)] 5) = w0 at *
  have HBL := Lib.hid hbel
  have HR0 := Lib.hid r0'
  have HOW := Lib.hid o1
  have HOB := Lib.hid b1
  have HON : Hid (([ub k] : List UInt8).length = 1) := rfl
  have HLN : Hid (([ub k] : List UInt8).length ≤ 200) := (show _ ≤ _ by simp)
  clear hbel r0' o1 b1
  refine (high8_any lsn w0 U1.out).mono ?_
  rintro e w1a ⟨g1, n1, rfl, hm1, hg1, hrow1, hby⟩
  have HM1 := Lib.hid hm1.out
  have HRW1 := Lib.hid hrow1
  have HOX := Lib.hid ((HOB.out.below hby).more hby.size)
  clear hm1 hrow1 HOB
  have HBL2 := Lib.hid (HBL.out.trans (hby.mono (Nat.le_trans (Nat.le_succ _) HSZ)))
  have HR2r := Lib.hid (HR0.out.below hby (Nat.lt_of_lt_of_le (Nat.lt_succ_self _) HSZ))
  have HSZ2 : w.heap.size + 1 ≤ w1a.heap.size := Nat.le_trans HSZ hby.size
  have hd20 : w1a.cell? ⟨w.heap.size, 0, none⟩ = some (.int .u64 (lsn : Int)) := HR2r.out.cell 0
  have hd21 : w1a.cell? ⟨w.heap.size, 1, none⟩ = some (.int .i64 (k : Int)) := HR2r.out.cell 1
  have hd22 : w1a.cell? ⟨w.heap.size, 2, none⟩ = some (.int .u64 (txn : Int)) := HR2r.out.cell 2
  have hd23 : w1a.cell? ⟨w.heap.size, 3, none⟩ = some (.int .u64 (back : Int)) := HR2r.out.cell 3
  have hd24 : w1a.cell? ⟨w.heap.size, 4, none⟩ = some (.int .i64 (p : Int)) := HR2r.out.cell 4
  have hd25 : w1a.cell? ⟨w.heap.size, 5, none⟩ = some (.int .i64 (q : Int)) := HR2r.out.cell 5
  have hd26 : w1a.cell? ⟨w.heap.size, 6, none⟩ = some (.slice Ao no co) := HR2r.out.cell 6
  have hd27 : w1a.cell? ⟨w.heap.size, 7, none⟩ = some (.slice An nn cn) := HR2r.out.cell 7
  have hd28 : w1a.cell? ⟨w.heap.size, 8, none⟩ = some (.int .u64 (next : Int)) := HR2r.out.cell 8
  have HSZ := HSZ2
  clear HSZ2
  clear hby
  go_wp2_with fail
  refine (both_any (some ⟨w.heap.size + 1, 0, none⟩) (some ⟨g1, 0, none⟩) ([ub k]) (Wd.hi 8 lsn) 1 n1 1 n1 w1a HON.out HM1.out (by have := HON.out; have := HM1.out; have := HLN.out; simp only [hi_length] at *; omega) HOX.out (Row.bs HRW1.out HRW1.out.lt)).mono ?_
  rintro e w1b ⟨g1b, n1b, rfl, hm1b, hg1b, hrow1b, hby⟩
  clear HOX HON HRW1 HM1
  have HL1m : Hid (([ub k] ++ Wd.hi 8 lsn).length ≤ 400) := (show _ ≤ _ by have := HLN.out; have := HOA.out; simp only [List.length_append, hi_length, List.length_cons, List.length_nil] at *; omega)
  have HON := Lib.hid hm1b.out
  have HOB := Lib.hid (Row.bs hrow1b hrow1b.lt)
  have HOW1 := Lib.hid (Own.of_row hrow1b (Nat.le_trans HSZ (by omega) : w.heap.size + 1 ≤ g1b) hm1b.out (by have := hm1b.out; have := HL1m.out; unfold maxLen; omega))
  clear hm1b hrow1b
  have HBL3 := Lib.hid (HBL2.out.trans (hby.mono (Nat.le_trans (Nat.le_succ _) HSZ)))
  have HR3r := Lib.hid (HR2r.out.below hby (Nat.lt_of_lt_of_le (Nat.lt_succ_self _) HSZ))
  have HSZ3 : w.heap.size + 1 ≤ w1b.heap.size := Nat.le_trans HSZ hby.size
  have hd30 : w1b.cell? ⟨w.heap.size, 0, none⟩ = some (.int .u64 (lsn : Int)) := HR3r.out.cell 0
  have hd31 : w1b.cell? ⟨w.heap.size, 1, none⟩ = some (.int .i64 (k : Int)) := HR3r.out.cell 1
  have hd32 : w1b.cell? ⟨w.heap.size, 2, none⟩ = some (.int .u64 (txn : Int)) := HR3r.out.cell 2
  have hd33 : w1b.cell? ⟨w.heap.size, 3, none⟩ = some (.int .u64 (back : Int)) := HR3r.out.cell 3
  have hd34 : w1b.cell? ⟨w.heap.size, 4, none⟩ = some (.int .i64 (p : Int)) := HR3r.out.cell 4
  have hd35 : w1b.cell? ⟨w.heap.size, 5, none⟩ = some (.int .i64 (q : Int)) := HR3r.out.cell 5
  have hd36 : w1b.cell? ⟨w.heap.size, 6, none⟩ = some (.slice Ao no co) := HR3r.out.cell 6
  have hd37 : w1b.cell? ⟨w.heap.size, 7, none⟩ = some (.slice An nn cn) := HR3r.out.cell 7
  have hd38 : w1b.cell? ⟨w.heap.size, 8, none⟩ = some (.int .u64 (next : Int)) := HR3r.out.cell 8
  have HSZ := HSZ3
  clear HSZ3
  clear hby
  go_wp2_with fail
  refine (high8_any txn w1b U2.out).mono ?_
  rintro e w4a ⟨g4, n4, rfl, hm4, hg4, hrow4, hby⟩
  have HM4 := Lib.hid hm4.out
  have HRW4 := Lib.hid hrow4
  have HOX := Lib.hid ((HOB.out.below hby).more hby.size)
  clear hm4 hrow4 HOB
  have HBL5 := Lib.hid (HBL3.out.trans (hby.mono (Nat.le_trans (Nat.le_succ _) HSZ)))
  have HR5r := Lib.hid (HR3r.out.below hby (Nat.lt_of_lt_of_le (Nat.lt_succ_self _) HSZ))
  have HSZ5 : w.heap.size + 1 ≤ w4a.heap.size := Nat.le_trans HSZ hby.size
  have hd50 : w4a.cell? ⟨w.heap.size, 0, none⟩ = some (.int .u64 (lsn : Int)) := HR5r.out.cell 0
  have hd51 : w4a.cell? ⟨w.heap.size, 1, none⟩ = some (.int .i64 (k : Int)) := HR5r.out.cell 1
  have hd52 : w4a.cell? ⟨w.heap.size, 2, none⟩ = some (.int .u64 (txn : Int)) := HR5r.out.cell 2
  have hd53 : w4a.cell? ⟨w.heap.size, 3, none⟩ = some (.int .u64 (back : Int)) := HR5r.out.cell 3
  have hd54 : w4a.cell? ⟨w.heap.size, 4, none⟩ = some (.int .i64 (p : Int)) := HR5r.out.cell 4
  have hd55 : w4a.cell? ⟨w.heap.size, 5, none⟩ = some (.int .i64 (q : Int)) := HR5r.out.cell 5
  have hd56 : w4a.cell? ⟨w.heap.size, 6, none⟩ = some (.slice Ao no co) := HR5r.out.cell 6
  have hd57 : w4a.cell? ⟨w.heap.size, 7, none⟩ = some (.slice An nn cn) := HR5r.out.cell 7
  have hd58 : w4a.cell? ⟨w.heap.size, 8, none⟩ = some (.int .u64 (next : Int)) := HR5r.out.cell 8
  have HSZ := HSZ5
  clear HSZ5
  clear hby
  go_wp2_with fail
  refine (both_any (some ⟨g1b, 0, none⟩) (some ⟨g4, 0, none⟩) ([ub k] ++ Wd.hi 8 lsn) (Wd.hi 8 txn) n1b n4 n1b n4 w4a HON.out HM4.out (by have := HON.out; have := HM4.out; have := HL1m.out; simp only [hi_length] at *; omega) HOX.out (Row.bs HRW4.out HRW4.out.lt)).mono ?_
  rintro e w4b ⟨g4b, n4b, rfl, hm4b, hg4b, hrow4b, hby⟩
  clear HOX HON HRW4 HM4
  have HL4m : Hid (([ub k] ++ Wd.hi 8 lsn ++ Wd.hi 8 txn).length ≤ 700) := (show _ ≤ _ by have := HL1m.out; have := HOA.out; simp only [List.length_append, hi_length, List.length_cons, List.length_nil] at *; omega)
  have HON := Lib.hid hm4b.out
  have HOB := Lib.hid (Row.bs hrow4b hrow4b.lt)
  have HOW4 := Lib.hid (Own.of_row hrow4b (Nat.le_trans HSZ (by omega) : w.heap.size + 1 ≤ g4b) hm4b.out (by have := hm4b.out; have := HL4m.out; unfold maxLen; omega))
  clear hm4b hrow4b
  have HBL6 := Lib.hid (HBL5.out.trans (hby.mono (Nat.le_trans (Nat.le_succ _) HSZ)))
  have HR6r := Lib.hid (HR5r.out.below hby (Nat.lt_of_lt_of_le (Nat.lt_succ_self _) HSZ))
  have HSZ6 : w.heap.size + 1 ≤ w4b.heap.size := Nat.le_trans HSZ hby.size
  have hd60 : w4b.cell? ⟨w.heap.size, 0, none⟩ = some (.int .u64 (lsn : Int)) := HR6r.out.cell 0
  have hd61 : w4b.cell? ⟨w.heap.size, 1, none⟩ = some (.int .i64 (k : Int)) := HR6r.out.cell 1
  have hd62 : w4b.cell? ⟨w.heap.size, 2, none⟩ = some (.int .u64 (txn : Int)) := HR6r.out.cell 2
  have hd63 : w4b.cell? ⟨w.heap.size, 3, none⟩ = some (.int .u64 (back : Int)) := HR6r.out.cell 3
  have hd64 : w4b.cell? ⟨w.heap.size, 4, none⟩ = some (.int .i64 (p : Int)) := HR6r.out.cell 4
  have hd65 : w4b.cell? ⟨w.heap.size, 5, none⟩ = some (.int .i64 (q : Int)) := HR6r.out.cell 5
  have hd66 : w4b.cell? ⟨w.heap.size, 6, none⟩ = some (.slice Ao no co) := HR6r.out.cell 6
  have hd67 : w4b.cell? ⟨w.heap.size, 7, none⟩ = some (.slice An nn cn) := HR6r.out.cell 7
  have hd68 : w4b.cell? ⟨w.heap.size, 8, none⟩ = some (.int .u64 (next : Int)) := HR6r.out.cell 8
  have HSZ := HSZ6
  clear HSZ6
  clear hby
  go_wp2_with fail
  refine (high8_any back w4b U3.out).mono ?_
  rintro e w7a ⟨g7, n7, rfl, hm7, hg7, hrow7, hby⟩
  have HM7 := Lib.hid hm7.out
  have HRW7 := Lib.hid hrow7
  have HOX := Lib.hid ((HOB.out.below hby).more hby.size)
  clear hm7 hrow7 HOB
  have HBL8 := Lib.hid (HBL6.out.trans (hby.mono (Nat.le_trans (Nat.le_succ _) HSZ)))
  have HR8r := Lib.hid (HR6r.out.below hby (Nat.lt_of_lt_of_le (Nat.lt_succ_self _) HSZ))
  have HSZ8 : w.heap.size + 1 ≤ w7a.heap.size := Nat.le_trans HSZ hby.size
  have hd80 : w7a.cell? ⟨w.heap.size, 0, none⟩ = some (.int .u64 (lsn : Int)) := HR8r.out.cell 0
  have hd81 : w7a.cell? ⟨w.heap.size, 1, none⟩ = some (.int .i64 (k : Int)) := HR8r.out.cell 1
  have hd82 : w7a.cell? ⟨w.heap.size, 2, none⟩ = some (.int .u64 (txn : Int)) := HR8r.out.cell 2
  have hd83 : w7a.cell? ⟨w.heap.size, 3, none⟩ = some (.int .u64 (back : Int)) := HR8r.out.cell 3
  have hd84 : w7a.cell? ⟨w.heap.size, 4, none⟩ = some (.int .i64 (p : Int)) := HR8r.out.cell 4
  have hd85 : w7a.cell? ⟨w.heap.size, 5, none⟩ = some (.int .i64 (q : Int)) := HR8r.out.cell 5
  have hd86 : w7a.cell? ⟨w.heap.size, 6, none⟩ = some (.slice Ao no co) := HR8r.out.cell 6
  have hd87 : w7a.cell? ⟨w.heap.size, 7, none⟩ = some (.slice An nn cn) := HR8r.out.cell 7
  have hd88 : w7a.cell? ⟨w.heap.size, 8, none⟩ = some (.int .u64 (next : Int)) := HR8r.out.cell 8
  have HSZ := HSZ8
  clear HSZ8
  clear hby
  go_wp2_with fail
  refine (both_any (some ⟨g4b, 0, none⟩) (some ⟨g7, 0, none⟩) ([ub k] ++ Wd.hi 8 lsn ++ Wd.hi 8 txn) (Wd.hi 8 back) n4b n7 n4b n7 w7a HON.out HM7.out (by have := HON.out; have := HM7.out; have := HL4m.out; simp only [hi_length] at *; omega) HOX.out (Row.bs HRW7.out HRW7.out.lt)).mono ?_
  rintro e w7b ⟨g7b, n7b, rfl, hm7b, hg7b, hrow7b, hby⟩
  clear HOX HON HRW7 HM7
  have HL7m : Hid (([ub k] ++ Wd.hi 8 lsn ++ Wd.hi 8 txn ++ Wd.hi 8 back).length ≤ 1000) := (show _ ≤ _ by have := HL4m.out; have := HOA.out; simp only [List.length_append, hi_length, List.length_cons, List.length_nil] at *; omega)
  have HON := Lib.hid hm7b.out
  have HOB := Lib.hid (Row.bs hrow7b hrow7b.lt)
  have HOW7 := Lib.hid (Own.of_row hrow7b (Nat.le_trans HSZ (by omega) : w.heap.size + 1 ≤ g7b) hm7b.out (by have := hm7b.out; have := HL7m.out; unfold maxLen; omega))
  clear hm7b hrow7b
  have HBL9 := Lib.hid (HBL8.out.trans (hby.mono (Nat.le_trans (Nat.le_succ _) HSZ)))
  have HR9r := Lib.hid (HR8r.out.below hby (Nat.lt_of_lt_of_le (Nat.lt_succ_self _) HSZ))
  have HSZ9 : w.heap.size + 1 ≤ w7b.heap.size := Nat.le_trans HSZ hby.size
  have hd90 : w7b.cell? ⟨w.heap.size, 0, none⟩ = some (.int .u64 (lsn : Int)) := HR9r.out.cell 0
  have hd91 : w7b.cell? ⟨w.heap.size, 1, none⟩ = some (.int .i64 (k : Int)) := HR9r.out.cell 1
  have hd92 : w7b.cell? ⟨w.heap.size, 2, none⟩ = some (.int .u64 (txn : Int)) := HR9r.out.cell 2
  have hd93 : w7b.cell? ⟨w.heap.size, 3, none⟩ = some (.int .u64 (back : Int)) := HR9r.out.cell 3
  have hd94 : w7b.cell? ⟨w.heap.size, 4, none⟩ = some (.int .i64 (p : Int)) := HR9r.out.cell 4
  have hd95 : w7b.cell? ⟨w.heap.size, 5, none⟩ = some (.int .i64 (q : Int)) := HR9r.out.cell 5
  have hd96 : w7b.cell? ⟨w.heap.size, 6, none⟩ = some (.slice Ao no co) := HR9r.out.cell 6
  have hd97 : w7b.cell? ⟨w.heap.size, 7, none⟩ = some (.slice An nn cn) := HR9r.out.cell 7
  have hd98 : w7b.cell? ⟨w.heap.size, 8, none⟩ = some (.int .u64 (next : Int)) := HR9r.out.cell 8
  have HSZ := HSZ9
  clear HSZ9
  clear hby
  have hk3 : k = 1 ∨ k = 2 ∨ (k = 3 ∨ k = 4) := by have := HOA.out; omega
  have hlit : ∀ w1 : World, Bs (w1.alloc (.cells #[.int .u8 (p : Int), .int .u8 (q : Int)] 5)) (w1.heap.size + 1) (some ⟨w1.heap.size, 0, none⟩) [ub p, ub q] := fun w1 => by
    have := lit_bs w1 [ub p, ub q] 5
    have e : ((ub p).toNat : Int) = (p : Int) := by simp [ub]; omega
    have e2 : ((ub q).toNat : Int) = (q : Int) := by simp [ub]; omega
    simpa [bv, e, e2] using this
  have HLit := Lib.hid hlit
  have hno : no ≤ 52 := by have := HOA.out; have := HA.out.lo; simp only at this; omega
  have hnn : nn ≤ 52 := by have := HOA.out; have := HA.out.ln; simp only at this; omega
  have hno2 : (no : Int) % 256 = (no : Int) := by omega
  have hnn2 : (nn : Int) % 256 = (nn : Int) := by omega
  have hno3 : IntKind.u8.wrap (no : Int) = (no : Int) := by rw [IntKind.wrap_u8]; omega
  have hnn3 : IntKind.u8.wrap (nn : Int) = (nn : Int) := by rw [IntKind.wrap_u8]; omega
  have hl2 : ∀ (m : Nat) (w1 : World), m ≤ 52 → Bs (w1.alloc (.cells #[.int .u8 (m : Int)] 5)) (w1.heap.size + 1) (some ⟨w1.heap.size, 0, none⟩) [ub m] := fun m w1 hm => by
    have := lit_bs w1 [ub m] 5
    have e : ((ub m).toNat : Int) = (m : Int) := by simp [ub]; omega
    simpa [bv, e] using this
  have HLold := Lib.hid (fun w1 => hl2 no w1 hno)
  have HLnew := Lib.hid (fun w1 => hl2 nn w1 hnn)
  clear hlit hl2
  have HKM := Lib.hid hk256
  clear hk256
  rcases hk3 with hk | hk | hk
  · subst hk
    go_wp2_with (at_builtin; go_loud (refine wpList_append_bs (o := ⟨some 35, _, _, _, _, _⟩) rfl (.tmp 27) (.tmp 34) 25 rfl (w.heap.size + 1) 5 i0 (.int .u8 0) Try.underlying25 hi hz0 hz1 hz2 rfl (.slice (some ⟨g7b, 0, none⟩) n7b n7b) ([ub 1] ++ Wd.hi 8 lsn ++ Wd.hi 8 txn ++ Wd.hi 8 back).length (bv ([ub 1] ++ Wd.hi 8 lsn ++ Wd.hi 8 txn ++ Wd.hi 8 back)) rfl (World.ownsRow.alloc HOW7.out _) (some ⟨w7b.heap.size, 0, none⟩) 2 2 [ub p, ub q] rfl rfl (w7b.heap.size + 1) (HLit.out w7b) (fun hh => by cases hh) (by have := HL7m.out; omega) (by simp; omega) ?_; intro v10 w10a hown10 hg10; have hbx := below_own hg10 (fun k hk => (World.ownsRow.lt HOW7.out k hk).1) (by simp; omega); have HO10 := Lib.hid (show Own w10a (w.heap.size + 1) v10 (([ub 1] ++ Wd.hi 8 lsn ++ Wd.hi 8 txn ++ Wd.hi 8 back) ++ [ub p, ub q]) from Own.of_add hown10 rfl); have hby := Lib.hid (((Below.refl _ _).alloc (by omega) _).trans hbx); clear hown10 hg10 hbx; obtain ⟨A10, n10, c10, rfl, z1, z2, z3, z4, z5⟩ := HO10.out.open; have HON := Lib.hid z1; have HOB := Lib.hid z5; clear z1 z2 z3 z4 z5; have HL10 : Hid (([ub 1] ++ Wd.hi 8 lsn ++ Wd.hi 8 txn ++ Wd.hi 8 back ++ [ub p, ub q]).length ≤ 1400) := (show _ ≤ _ by have := HL7m.out; simp only [List.length_append, List.length_cons, List.length_nil] at this ⊢; omega); have HBL11 := Lib.hid (HBL9.out.trans (hby.out.mono (Nat.le_succ _))); have HR11r := Lib.hid (HR9r.out.below hby.out (Nat.lt_succ_self _)); have HSZ11 : w.heap.size + 1 ≤ w10a.heap.size := Nat.le_trans HSZ hby.out.size; have hd110 : w10a.cell? ⟨w.heap.size, 0, none⟩ = some (.int .u64 (lsn : Int)) := HR11r.out.cell 0; have hd111 : w10a.cell? ⟨w.heap.size, 1, none⟩ = some (.int .i64 1) := HR11r.out.cell 1; have hd112 : w10a.cell? ⟨w.heap.size, 2, none⟩ = some (.int .u64 (txn : Int)) := HR11r.out.cell 2; have hd113 : w10a.cell? ⟨w.heap.size, 3, none⟩ = some (.int .u64 (back : Int)) := HR11r.out.cell 3; have hd114 : w10a.cell? ⟨w.heap.size, 4, none⟩ = some (.int .i64 (p : Int)) := HR11r.out.cell 4; have hd115 : w10a.cell? ⟨w.heap.size, 5, none⟩ = some (.int .i64 (q : Int)) := HR11r.out.cell 5; have hd116 : w10a.cell? ⟨w.heap.size, 6, none⟩ = some (.slice Ao no co) := HR11r.out.cell 6; have hd117 : w10a.cell? ⟨w.heap.size, 7, none⟩ = some (.slice An nn cn) := HR11r.out.cell 7; have hd118 : w10a.cell? ⟨w.heap.size, 8, none⟩ = some (.int .u64 (next : Int)) := HR11r.out.cell 8; have HSZ := HSZ11; clear HSZ11; clear hby))
    refine wp_region_held_drew (S := fun w' => Row w' w.heap.size 34 [.int .u64 (lsn : Int), .int .i64 1, .int .u64 (txn : Int), .int .u64 (back : Int), .int .i64 (p : Int), .int .i64 (q : Int), .slice Ao no co, .slice An nn cn, .int .u64 (next : Int)]) (by kernel_rfl) (Row.drew HR11r.out) (fun hHeld => ?_)
    refine wpAnyH_take (i := 0) (oi := ⟨some 39, _, _, _, _, _⟩) (v := ?v0r12) rfl (by kernel_rfl) (by kernel_rfl) (by kernel_rfl) (fun _ _ _ h => h) (Or.inl ⟨by rfl, ?y0r12⟩) hHeld ?r0r12
    case y0r12 =>
      rintro w' hSw
      go_simp
      try with_reducible rfl
    try simp only [Act.put, List.setIfInBounds_toArray, List.set_cons_zero, List.set_cons_succ]
    refine wpAnyH_take (i := 1) (oi := ⟨some 40, _, _, _, _, _⟩) (v := ?v1r12) rfl (by kernel_rfl) (by kernel_rfl) (by kernel_rfl) (fun _ _ _ h => h) (Or.inl ⟨by rfl, ?y1r12⟩) hHeld ?r1r12
    case y1r12 =>
      rintro w' hSw
      go_simp
      try with_reducible rfl
    try simp only [Act.put, List.setIfInBounds_toArray, List.set_cons_zero, List.set_cons_succ]
    refine wpAnyH_take (i := 2) (oi := ⟨some 41, _, _, _, _, _⟩) (v := ?v2r12) rfl (by kernel_rfl) (by kernel_rfl) (by kernel_rfl) (fun _ _ _ h => h) (Or.inl ⟨by rfl, ?y2r12⟩) hHeld ?r2r12
    case y2r12 =>
      rintro w' hSw
      have c6 : w'.cell? ⟨w.heap.size, 6, none⟩ = some (.slice Ao no co) := hSw.cell 6
      go_simp
      try with_reducible rfl
    try simp only [Act.put, List.setIfInBounds_toArray, List.set_cons_zero, List.set_cons_succ]
    refine wpAnyH_take (i := 3) (oi := ⟨some 42, _, _, _, _, _⟩) (v := ?v3r12) rfl (by kernel_rfl) (by kernel_rfl) (by kernel_rfl) (fun _ _ _ h => h) (Or.inl ⟨by rfl, ?y3r12⟩) hHeld ?r3r12
    case y3r12 =>
      rintro w' hSw
      go_simp
      try with_reducible rfl
    try simp only [Act.put, List.setIfInBounds_toArray, List.set_cons_zero, List.set_cons_succ]
    refine wpAnyH_take (i := 4) (oi := ⟨some 43, _, _, _, _, _⟩) (v := ?v4r12) rfl (by kernel_rfl) (by kernel_rfl) (by kernel_rfl) (fun _ _ _ h => h) (Or.inl ⟨by rfl, ?y4r12⟩) hHeld ?r4r12
    case y4r12 =>
      rintro w' hSw
      go_simp
      try with_reducible rfl
    try simp only [Act.put, List.setIfInBounds_toArray, List.set_cons_zero, List.set_cons_succ]
    refine wpAnyH_take (i := 7) (oi := ⟨some 46, _, _, _, _, _⟩) (v := ?v7r12) rfl (by kernel_rfl) (by kernel_rfl) (by kernel_rfl) (fun _ _ _ h => h) (Or.inl ⟨by rfl, ?y7r12⟩) hHeld ?r7r12
    case y7r12 =>
      rintro w' hSw
      go_simp
      try with_reducible rfl
    try simp only [Act.put, List.setIfInBounds_toArray, List.set_cons_zero, List.set_cons_succ]
    refine wpAnyH_take (i := 8) (oi := ⟨some 47, _, _, _, _, _⟩) (v := ?v8r12) rfl (by kernel_rfl) (by kernel_rfl) (by kernel_rfl) (fun _ _ _ h => h) (Or.inl ⟨by rfl, ?y8r12⟩) hHeld ?r8r12
    case y8r12 =>
      rintro w' hSw
      have c6 : w'.cell? ⟨w.heap.size, 6, none⟩ = some (.slice Ao no co) := hSw.cell 6
      go_simp
      try with_reducible rfl
    try simp only [Act.put, List.setIfInBounds_toArray, List.set_cons_zero, List.set_cons_succ]
    refine wpAnyH_ready (rs := [5]) (by kernel_rfl) (by simp) ?_
    refine AllReadyH.cons rfl (fun K hK => ?_) AllReadyH.nil
    go_simp
    refine hK _ _ (Row.alloc hHeld _) (fun _ => ?_)
    clear hK K
    try simp only [Act.put, List.setIfInBounds_toArray, List.set_cons_zero, List.set_cons_succ]
    refine wpAnyH_ready (rs := [6]) (by kernel_rfl) (by simp) ?_
    refine AllReadyH.cons rfl (fun K hK => ?_) AllReadyH.nil
    rw [if_pos (by rfl)]
    refine wp_append_bs (.tmp 39) (.tmp 44) 25 rfl (w.heap.size + 1) 5 i0 (.int .u8 0) Try.underlying25 hi hz0 hz1 hz2 rfl (.slice A10 n10 c10) ([ub 1] ++ Wd.hi 8 lsn ++ Wd.hi 8 txn ++ Wd.hi 8 back ++ [ub p, ub q]).length (bv ([ub 1] ++ Wd.hi 8 lsn ++ Wd.hi 8 txn ++ Wd.hi 8 back ++ [ub p, ub q])) rfl (World.ownsRow.alloc (World.ownsRow.drew HO10.out) _) ⟨w10a.heap.size, 0, none⟩ 1 1 [ub no] rfl rfl (w10a.heap.size + 1) (HLold.out w10a.drew) (by have := HL10.out; omega) (by simp; omega) ?_
    intro v12 w12a hown12 hg12
    have hbx := below_own hg12 (fun k hk => (World.ownsRow.lt HO10.out k hk).1) (by simp; omega)
    have HO12 := Lib.hid (show Own w12a (w.heap.size + 1) v12 (([ub 1] ++ Wd.hi 8 lsn ++ Wd.hi 8 txn ++ Wd.hi 8 back ++ [ub p, ub q]) ++ [ub no]) from Own.of_add hown12 rfl)
    have hby := undrew (((Below.refl _ _).alloc (by simp; omega) _).trans hbx)
    clear hown12 hg12 hbx
    obtain ⟨A12, n12, c12, rfl, z1, z2, z3, z4, z5⟩ := HO12.out.open
    have HON := Lib.hid z1
    have HOB := Lib.hid z5
    clear z1 z2 z3 z4 z5
    have HL12 : Hid (([ub 1] ++ Wd.hi 8 lsn ++ Wd.hi 8 txn ++ Wd.hi 8 back ++ [ub p, ub q] ++ [ub no]).length ≤ 2200) := (show _ ≤ _ by have := HL10.out; simp only [List.length_append, List.length_cons, List.length_nil] at this ⊢; omega)
    have HBL13 := Lib.hid (HBL11.out.trans (hby.mono (Nat.le_succ _)))
    have HR13r := Lib.hid (HR11r.out.below hby (Nat.lt_succ_self _))
    have HSZ13 : w.heap.size + 1 ≤ w12a.heap.size := Nat.le_trans HSZ hby.size
    have hd130 : w12a.cell? ⟨w.heap.size, 0, none⟩ = some (.int .u64 (lsn : Int)) := HR13r.out.cell 0
    have hd131 : w12a.cell? ⟨w.heap.size, 1, none⟩ = some (.int .i64 1) := HR13r.out.cell 1
    have hd132 : w12a.cell? ⟨w.heap.size, 2, none⟩ = some (.int .u64 (txn : Int)) := HR13r.out.cell 2
    have hd133 : w12a.cell? ⟨w.heap.size, 3, none⟩ = some (.int .u64 (back : Int)) := HR13r.out.cell 3
    have hd134 : w12a.cell? ⟨w.heap.size, 4, none⟩ = some (.int .i64 (p : Int)) := HR13r.out.cell 4
    have hd135 : w12a.cell? ⟨w.heap.size, 5, none⟩ = some (.int .i64 (q : Int)) := HR13r.out.cell 5
    have hd136 : w12a.cell? ⟨w.heap.size, 6, none⟩ = some (.slice Ao no co) := HR13r.out.cell 6
    have hd137 : w12a.cell? ⟨w.heap.size, 7, none⟩ = some (.slice An nn cn) := HR13r.out.cell 7
    have hd138 : w12a.cell? ⟨w.heap.size, 8, none⟩ = some (.int .u64 (next : Int)) := HR13r.out.cell 8
    have HSZ := HSZ13
    clear HSZ13
    clear hby
    refine hK _ _ HR13r.out (fun _ => ?_)
    clear hK K
    try simp only [Act.put, List.setIfInBounds_toArray, List.set_cons_zero, List.set_cons_succ]
    refine wpAnyH_ready (rs := [9]) (by kernel_rfl) (by simp) ?_
    refine AllReadyH.cons rfl (fun K hK => ?_) AllReadyH.nil
    go_simp
    refine (both_any A12 Ao ([ub 1] ++ Wd.hi 8 lsn ++ Wd.hi 8 txn ++ Wd.hi 8 back ++ [ub p, ub q] ++ [ub no]) old c12 co n12 no w12a HON.out HA.out.lo (by have := HON.out; have := HL12.out; have := HOA.out; have := HA.out.lo; simp only at this; omega) HOB.out ((HA.out.bo.below (HBL13.out.mono hB)).more (by omega))).mono ?_
    rintro e w12b ⟨g12b, n12b, rfl, hm12b, hg12b, hrow12b, hby⟩
    have HL12m : Hid (([ub 1] ++ Wd.hi 8 lsn ++ Wd.hi 8 txn ++ Wd.hi 8 back ++ [ub p, ub q] ++ [ub no] ++ old).length ≤ 1500) := (show _ ≤ _ by have := HL12.out; have := HOA.out; simp only [List.length_append, hi_length, List.length_cons, List.length_nil] at *; omega)
    have HON := Lib.hid hm12b.out
    have HOB := Lib.hid (Row.bs hrow12b hrow12b.lt)
    have HOW12 := Lib.hid (Own.of_row hrow12b (Nat.le_trans HSZ (by omega) : w.heap.size + 1 ≤ g12b) hm12b.out (by have := hm12b.out; have := HL12m.out; unfold maxLen; omega))
    clear hm12b hrow12b
    have HBL14 := Lib.hid (HBL13.out.trans (hby.mono (Nat.le_trans (Nat.le_succ _) HSZ)))
    have HR14r := Lib.hid (HR13r.out.below hby (Nat.lt_of_lt_of_le (Nat.lt_succ_self _) HSZ))
    have HSZ14 : w.heap.size + 1 ≤ w12b.heap.size := Nat.le_trans HSZ hby.size
    have hd140 : w12b.cell? ⟨w.heap.size, 0, none⟩ = some (.int .u64 (lsn : Int)) := HR14r.out.cell 0
    have hd141 : w12b.cell? ⟨w.heap.size, 1, none⟩ = some (.int .i64 1) := HR14r.out.cell 1
    have hd142 : w12b.cell? ⟨w.heap.size, 2, none⟩ = some (.int .u64 (txn : Int)) := HR14r.out.cell 2
    have hd143 : w12b.cell? ⟨w.heap.size, 3, none⟩ = some (.int .u64 (back : Int)) := HR14r.out.cell 3
    have hd144 : w12b.cell? ⟨w.heap.size, 4, none⟩ = some (.int .i64 (p : Int)) := HR14r.out.cell 4
    have hd145 : w12b.cell? ⟨w.heap.size, 5, none⟩ = some (.int .i64 (q : Int)) := HR14r.out.cell 5
    have hd146 : w12b.cell? ⟨w.heap.size, 6, none⟩ = some (.slice Ao no co) := HR14r.out.cell 6
    have hd147 : w12b.cell? ⟨w.heap.size, 7, none⟩ = some (.slice An nn cn) := HR14r.out.cell 7
    have hd148 : w12b.cell? ⟨w.heap.size, 8, none⟩ = some (.int .u64 (next : Int)) := HR14r.out.cell 8
    have HSZ := HSZ14
    clear HSZ14
    clear hby
    refine hK _ _ HR14r.out (fun _ => ?_)
    clear hK K
    try simp only [Act.put, List.setIfInBounds_toArray, List.set_cons_zero, List.set_cons_succ]
    refine wpAnyH_take (i := 10) (oi := ⟨some 3, _, _, _, _, _⟩) (v := ?v10r12) rfl (by kernel_rfl) (by kernel_rfl) (by kernel_rfl) (fun _ _ _ h => h) (Or.inl ⟨by rfl, ?y10r12⟩) HR14r.out ?r10r12
    case y10r12 =>
      rintro w' hSw
      go_simp
      try with_reducible rfl
    try simp only [Act.put, List.setIfInBounds_toArray, List.set_cons_zero, List.set_cons_succ]
    refine wpAnyH_done (by kernel_rfl) ?_ _
    go_wp2_with fail
    refine wp_region_held_drew (S := fun w' => Row w' w.heap.size 34 [.int .u64 (lsn : Int), .int .i64 1, .int .u64 (txn : Int), .int .u64 (back : Int), .int .i64 (p : Int), .int .i64 (q : Int), .slice Ao no co, .slice An nn cn, .int .u64 (next : Int)]) (by kernel_rfl) (Row.drew HR14r.out) (fun hHeld => ?_)
    refine wpAnyH_take (i := 0) (oi := ⟨some 49, _, _, _, _, _⟩) (v := ?v0r15) rfl (by kernel_rfl) (by kernel_rfl) (by kernel_rfl) (fun _ _ _ h => h) (Or.inl ⟨by rfl, ?y0r15⟩) hHeld ?r0r15
    case y0r15 =>
      rintro w' hSw
      go_simp
      try with_reducible rfl
    try simp only [Act.put, List.setIfInBounds_toArray, List.set_cons_zero, List.set_cons_succ]
    refine wpAnyH_take (i := 1) (oi := ⟨some 50, _, _, _, _, _⟩) (v := ?v1r15) rfl (by kernel_rfl) (by kernel_rfl) (by kernel_rfl) (fun _ _ _ h => h) (Or.inl ⟨by rfl, ?y1r15⟩) hHeld ?r1r15
    case y1r15 =>
      rintro w' hSw
      go_simp
      try with_reducible rfl
    try simp only [Act.put, List.setIfInBounds_toArray, List.set_cons_zero, List.set_cons_succ]
    refine wpAnyH_take (i := 2) (oi := ⟨some 51, _, _, _, _, _⟩) (v := ?v2r15) rfl (by kernel_rfl) (by kernel_rfl) (by kernel_rfl) (fun _ _ _ h => h) (Or.inl ⟨by rfl, ?y2r15⟩) hHeld ?r2r15
    case y2r15 =>
      rintro w' hSw
      have c6 : w'.cell? ⟨w.heap.size, 7, none⟩ = some (.slice An nn cn) := hSw.cell 7
      go_simp
      try with_reducible rfl
    try simp only [Act.put, List.setIfInBounds_toArray, List.set_cons_zero, List.set_cons_succ]
    refine wpAnyH_take (i := 3) (oi := ⟨some 52, _, _, _, _, _⟩) (v := ?v3r15) rfl (by kernel_rfl) (by kernel_rfl) (by kernel_rfl) (fun _ _ _ h => h) (Or.inl ⟨by rfl, ?y3r15⟩) hHeld ?r3r15
    case y3r15 =>
      rintro w' hSw
      go_simp
      try with_reducible rfl
    try simp only [Act.put, List.setIfInBounds_toArray, List.set_cons_zero, List.set_cons_succ]
    refine wpAnyH_take (i := 4) (oi := ⟨some 53, _, _, _, _, _⟩) (v := ?v4r15) rfl (by kernel_rfl) (by kernel_rfl) (by kernel_rfl) (fun _ _ _ h => h) (Or.inl ⟨by rfl, ?y4r15⟩) hHeld ?r4r15
    case y4r15 =>
      rintro w' hSw
      go_simp
      try with_reducible rfl
    try simp only [Act.put, List.setIfInBounds_toArray, List.set_cons_zero, List.set_cons_succ]
    refine wpAnyH_take (i := 7) (oi := ⟨some 56, _, _, _, _, _⟩) (v := ?v7r15) rfl (by kernel_rfl) (by kernel_rfl) (by kernel_rfl) (fun _ _ _ h => h) (Or.inl ⟨by rfl, ?y7r15⟩) hHeld ?r7r15
    case y7r15 =>
      rintro w' hSw
      go_simp
      try with_reducible rfl
    try simp only [Act.put, List.setIfInBounds_toArray, List.set_cons_zero, List.set_cons_succ]
    refine wpAnyH_take (i := 8) (oi := ⟨some 57, _, _, _, _, _⟩) (v := ?v8r15) rfl (by kernel_rfl) (by kernel_rfl) (by kernel_rfl) (fun _ _ _ h => h) (Or.inl ⟨by rfl, ?y8r15⟩) hHeld ?r8r15
    case y8r15 =>
      rintro w' hSw
      have c6 : w'.cell? ⟨w.heap.size, 7, none⟩ = some (.slice An nn cn) := hSw.cell 7
      go_simp
      try with_reducible rfl
    try simp only [Act.put, List.setIfInBounds_toArray, List.set_cons_zero, List.set_cons_succ]
    refine wpAnyH_ready (rs := [5]) (by kernel_rfl) (by simp) ?_
    refine AllReadyH.cons rfl (fun K hK => ?_) AllReadyH.nil
    go_simp
    refine hK _ _ (Row.alloc hHeld _) (fun _ => ?_)
    clear hK K
    try simp only [Act.put, List.setIfInBounds_toArray, List.set_cons_zero, List.set_cons_succ]
    refine wpAnyH_ready (rs := [6]) (by kernel_rfl) (by simp) ?_
    refine AllReadyH.cons rfl (fun K hK => ?_) AllReadyH.nil
    rw [if_pos (by rfl)]
    refine wp_append_bs (.tmp 49) (.tmp 54) 25 rfl (w.heap.size + 1) 5 i0 (.int .u8 0) Try.underlying25 hi hz0 hz1 hz2 rfl (.slice (some ⟨g12b, 0, none⟩) n12b n12b) ([ub 1] ++ Wd.hi 8 lsn ++ Wd.hi 8 txn ++ Wd.hi 8 back ++ [ub p, ub q] ++ [ub no] ++ old).length (bv ([ub 1] ++ Wd.hi 8 lsn ++ Wd.hi 8 txn ++ Wd.hi 8 back ++ [ub p, ub q] ++ [ub no] ++ old)) rfl (World.ownsRow.alloc (World.ownsRow.drew HOW12.out) _) ⟨w12b.heap.size, 0, none⟩ 1 1 [ub nn] rfl rfl (w12b.heap.size + 1) (HLnew.out w12b.drew) (by have := HL12m.out; omega) (by simp; omega) ?_
    intro v15 w15a hown15 hg15
    have hbx := below_own hg15 (fun k hk => (World.ownsRow.lt HOW12.out k hk).1) (by simp; omega)
    have HO15 := Lib.hid (show Own w15a (w.heap.size + 1) v15 (([ub 1] ++ Wd.hi 8 lsn ++ Wd.hi 8 txn ++ Wd.hi 8 back ++ [ub p, ub q] ++ [ub no] ++ old) ++ [ub nn]) from Own.of_add hown15 rfl)
    have hby := undrew (((Below.refl _ _).alloc (by simp; omega) _).trans hbx)
    clear hown15 hg15 hbx
    obtain ⟨A15, n15, c15, rfl, z1, z2, z3, z4, z5⟩ := HO15.out.open
    have HON := Lib.hid z1
    have HOB := Lib.hid z5
    clear z1 z2 z3 z4 z5
    have HL15 : Hid (([ub 1] ++ Wd.hi 8 lsn ++ Wd.hi 8 txn ++ Wd.hi 8 back ++ [ub p, ub q] ++ [ub no] ++ old ++ [ub nn]).length ≤ 2500) := (show _ ≤ _ by have := HL12m.out; simp only [List.length_append, List.length_cons, List.length_nil] at this ⊢; omega)
    have HBL16 := Lib.hid (HBL14.out.trans (hby.mono (Nat.le_succ _)))
    have HR16r := Lib.hid (HR14r.out.below hby (Nat.lt_succ_self _))
    have HSZ16 : w.heap.size + 1 ≤ w15a.heap.size := Nat.le_trans HSZ hby.size
    have hd160 : w15a.cell? ⟨w.heap.size, 0, none⟩ = some (.int .u64 (lsn : Int)) := HR16r.out.cell 0
    have hd161 : w15a.cell? ⟨w.heap.size, 1, none⟩ = some (.int .i64 1) := HR16r.out.cell 1
    have hd162 : w15a.cell? ⟨w.heap.size, 2, none⟩ = some (.int .u64 (txn : Int)) := HR16r.out.cell 2
    have hd163 : w15a.cell? ⟨w.heap.size, 3, none⟩ = some (.int .u64 (back : Int)) := HR16r.out.cell 3
    have hd164 : w15a.cell? ⟨w.heap.size, 4, none⟩ = some (.int .i64 (p : Int)) := HR16r.out.cell 4
    have hd165 : w15a.cell? ⟨w.heap.size, 5, none⟩ = some (.int .i64 (q : Int)) := HR16r.out.cell 5
    have hd166 : w15a.cell? ⟨w.heap.size, 6, none⟩ = some (.slice Ao no co) := HR16r.out.cell 6
    have hd167 : w15a.cell? ⟨w.heap.size, 7, none⟩ = some (.slice An nn cn) := HR16r.out.cell 7
    have hd168 : w15a.cell? ⟨w.heap.size, 8, none⟩ = some (.int .u64 (next : Int)) := HR16r.out.cell 8
    have HSZ := HSZ16
    clear HSZ16
    clear hby
    refine hK _ _ HR16r.out (fun _ => ?_)
    clear hK K
    try simp only [Act.put, List.setIfInBounds_toArray, List.set_cons_zero, List.set_cons_succ]
    refine wpAnyH_ready (rs := [9]) (by kernel_rfl) (by simp) ?_
    refine AllReadyH.cons rfl (fun K hK => ?_) AllReadyH.nil
    go_simp
    refine (both_any A15 An ([ub 1] ++ Wd.hi 8 lsn ++ Wd.hi 8 txn ++ Wd.hi 8 back ++ [ub p, ub q] ++ [ub no] ++ old ++ [ub nn]) new c15 cn n15 nn w15a HON.out HA.out.ln (by have := HON.out; have := HL15.out; have := HOA.out; have := HA.out.ln; simp only at this; omega) HOB.out ((HA.out.bn.below (HBL16.out.mono hB)).more (by omega))).mono ?_
    rintro e w15b ⟨g15b, n15b, rfl, hm15b, hg15b, hrow15b, hby⟩
    have HL15m : Hid (([ub 1] ++ Wd.hi 8 lsn ++ Wd.hi 8 txn ++ Wd.hi 8 back ++ [ub p, ub q] ++ [ub no] ++ old ++ [ub nn] ++ new).length ≤ 1800) := (show _ ≤ _ by have := HL15.out; have := HOA.out; simp only [List.length_append, hi_length, List.length_cons, List.length_nil] at *; omega)
    have HON := Lib.hid hm15b.out
    have HOB := Lib.hid (Row.bs hrow15b hrow15b.lt)
    have HOW15 := Lib.hid (Own.of_row hrow15b (Nat.le_trans HSZ (by omega) : w.heap.size + 1 ≤ g15b) hm15b.out (by have := hm15b.out; have := HL15m.out; unfold maxLen; omega))
    clear hm15b hrow15b
    have HBL17 := Lib.hid (HBL16.out.trans (hby.mono (Nat.le_trans (Nat.le_succ _) HSZ)))
    have HR17r := Lib.hid (HR16r.out.below hby (Nat.lt_of_lt_of_le (Nat.lt_succ_self _) HSZ))
    have HSZ17 : w.heap.size + 1 ≤ w15b.heap.size := Nat.le_trans HSZ hby.size
    have hd170 : w15b.cell? ⟨w.heap.size, 0, none⟩ = some (.int .u64 (lsn : Int)) := HR17r.out.cell 0
    have hd171 : w15b.cell? ⟨w.heap.size, 1, none⟩ = some (.int .i64 1) := HR17r.out.cell 1
    have hd172 : w15b.cell? ⟨w.heap.size, 2, none⟩ = some (.int .u64 (txn : Int)) := HR17r.out.cell 2
    have hd173 : w15b.cell? ⟨w.heap.size, 3, none⟩ = some (.int .u64 (back : Int)) := HR17r.out.cell 3
    have hd174 : w15b.cell? ⟨w.heap.size, 4, none⟩ = some (.int .i64 (p : Int)) := HR17r.out.cell 4
    have hd175 : w15b.cell? ⟨w.heap.size, 5, none⟩ = some (.int .i64 (q : Int)) := HR17r.out.cell 5
    have hd176 : w15b.cell? ⟨w.heap.size, 6, none⟩ = some (.slice Ao no co) := HR17r.out.cell 6
    have hd177 : w15b.cell? ⟨w.heap.size, 7, none⟩ = some (.slice An nn cn) := HR17r.out.cell 7
    have hd178 : w15b.cell? ⟨w.heap.size, 8, none⟩ = some (.int .u64 (next : Int)) := HR17r.out.cell 8
    have HSZ := HSZ17
    clear HSZ17
    clear hby
    refine hK _ _ HR17r.out (fun _ => ?_)
    clear hK K
    try simp only [Act.put, List.setIfInBounds_toArray, List.set_cons_zero, List.set_cons_succ]
    refine wpAnyH_take (i := 10) (oi := ⟨some 3, _, _, _, _, _⟩) (v := ?v10r15) rfl (by kernel_rfl) (by kernel_rfl) (by kernel_rfl) (fun _ _ _ h => h) (Or.inl ⟨by rfl, ?y10r15⟩) HR17r.out ?r10r15
    case y10r15 =>
      rintro w' hSw
      go_simp
      try with_reducible rfl
    try simp only [Act.put, List.setIfInBounds_toArray, List.set_cons_zero, List.set_cons_succ]
    refine wpAnyH_done (by kernel_rfl) ?_ _
    go_wp2_with fail
    go_ret
    refine ⟨_, rfl, ?_, HBL17.out⟩
    have hfin := HOW15.out.mono (Nat.le_succ _)
    rw [show bytesM R = [ub 1] ++ Wd.hi 8 lsn ++ Wd.hi 8 txn ++ Wd.hi 8 back ++ [ub p, ub q] ++ [ub no] ++ old ++ [ub nn] ++ new from by rw [bytesM, HR.out]; simp [headM, restM, itemM, HA.out.lo, HA.out.ln, List.append_assoc]]
    exact hfin
  · subst hk
    go_wp2_with (at_builtin; go_loud (refine wpList_append_bs (o := ⟨some 35, _, _, _, _, _⟩) rfl (.tmp 27) (.tmp 34) 25 rfl (w.heap.size + 1) 5 i0 (.int .u8 0) Try.underlying25 hi hz0 hz1 hz2 rfl (.slice (some ⟨g7b, 0, none⟩) n7b n7b) ([ub 2] ++ Wd.hi 8 lsn ++ Wd.hi 8 txn ++ Wd.hi 8 back).length (bv ([ub 2] ++ Wd.hi 8 lsn ++ Wd.hi 8 txn ++ Wd.hi 8 back)) rfl (World.ownsRow.alloc HOW7.out _) (some ⟨w7b.heap.size, 0, none⟩) 2 2 [ub p, ub q] rfl rfl (w7b.heap.size + 1) (HLit.out w7b) (fun hh => by cases hh) (by have := HL7m.out; omega) (by simp; omega) ?_; intro v10 w10a hown10 hg10; have hbx := below_own hg10 (fun k hk => (World.ownsRow.lt HOW7.out k hk).1) (by simp; omega); have HO10 := Lib.hid (show Own w10a (w.heap.size + 1) v10 (([ub 2] ++ Wd.hi 8 lsn ++ Wd.hi 8 txn ++ Wd.hi 8 back) ++ [ub p, ub q]) from Own.of_add hown10 rfl); have hby := Lib.hid (((Below.refl _ _).alloc (by omega) _).trans hbx); clear hown10 hg10 hbx; obtain ⟨A10, n10, c10, rfl, z1, z2, z3, z4, z5⟩ := HO10.out.open; have HON := Lib.hid z1; have HOB := Lib.hid z5; clear z1 z2 z3 z4 z5; have HL10 : Hid (([ub 2] ++ Wd.hi 8 lsn ++ Wd.hi 8 txn ++ Wd.hi 8 back ++ [ub p, ub q]).length ≤ 1400) := (show _ ≤ _ by have := HL7m.out; simp only [List.length_append, List.length_cons, List.length_nil] at this ⊢; omega); have HBL11 := Lib.hid (HBL9.out.trans (hby.out.mono (Nat.le_succ _))); have HR11r := Lib.hid (HR9r.out.below hby.out (Nat.lt_succ_self _)); have HSZ11 : w.heap.size + 1 ≤ w10a.heap.size := Nat.le_trans HSZ hby.out.size; have hd110 : w10a.cell? ⟨w.heap.size, 0, none⟩ = some (.int .u64 (lsn : Int)) := HR11r.out.cell 0; have hd111 : w10a.cell? ⟨w.heap.size, 1, none⟩ = some (.int .i64 2) := HR11r.out.cell 1; have hd112 : w10a.cell? ⟨w.heap.size, 2, none⟩ = some (.int .u64 (txn : Int)) := HR11r.out.cell 2; have hd113 : w10a.cell? ⟨w.heap.size, 3, none⟩ = some (.int .u64 (back : Int)) := HR11r.out.cell 3; have hd114 : w10a.cell? ⟨w.heap.size, 4, none⟩ = some (.int .i64 (p : Int)) := HR11r.out.cell 4; have hd115 : w10a.cell? ⟨w.heap.size, 5, none⟩ = some (.int .i64 (q : Int)) := HR11r.out.cell 5; have hd116 : w10a.cell? ⟨w.heap.size, 6, none⟩ = some (.slice Ao no co) := HR11r.out.cell 6; have hd117 : w10a.cell? ⟨w.heap.size, 7, none⟩ = some (.slice An nn cn) := HR11r.out.cell 7; have hd118 : w10a.cell? ⟨w.heap.size, 8, none⟩ = some (.int .u64 (next : Int)) := HR11r.out.cell 8; have HSZ := HSZ11; clear HSZ11; clear hby))
    refine wp_region_held_drew (S := fun w' => Row w' w.heap.size 34 [.int .u64 (lsn : Int), .int .i64 2, .int .u64 (txn : Int), .int .u64 (back : Int), .int .i64 (p : Int), .int .i64 (q : Int), .slice Ao no co, .slice An nn cn, .int .u64 (next : Int)]) (by kernel_rfl) (Row.drew HR11r.out) (fun hHeld => ?_)
    refine wpAnyH_take (i := 0) (oi := ⟨some 49, _, _, _, _, _⟩) (v := ?v0r12z) rfl (by kernel_rfl) (by kernel_rfl) (by kernel_rfl) (fun _ _ _ h => h) (Or.inl ⟨by rfl, ?y0r12z⟩) hHeld ?r0r12z
    case y0r12z =>
      rintro w' hSw
      go_simp
      try with_reducible rfl
    try simp only [Act.put, List.setIfInBounds_toArray, List.set_cons_zero, List.set_cons_succ]
    refine wpAnyH_take (i := 1) (oi := ⟨some 50, _, _, _, _, _⟩) (v := ?v1r12z) rfl (by kernel_rfl) (by kernel_rfl) (by kernel_rfl) (fun _ _ _ h => h) (Or.inl ⟨by rfl, ?y1r12z⟩) hHeld ?r1r12z
    case y1r12z =>
      rintro w' hSw
      go_simp
      try with_reducible rfl
    try simp only [Act.put, List.setIfInBounds_toArray, List.set_cons_zero, List.set_cons_succ]
    refine wpAnyH_take (i := 2) (oi := ⟨some 51, _, _, _, _, _⟩) (v := ?v2r12z) rfl (by kernel_rfl) (by kernel_rfl) (by kernel_rfl) (fun _ _ _ h => h) (Or.inl ⟨by rfl, ?y2r12z⟩) hHeld ?r2r12z
    case y2r12z =>
      rintro w' hSw
      have c6 : w'.cell? ⟨w.heap.size, 7, none⟩ = some (.slice An nn cn) := hSw.cell 7
      go_simp
      try with_reducible rfl
    try simp only [Act.put, List.setIfInBounds_toArray, List.set_cons_zero, List.set_cons_succ]
    refine wpAnyH_take (i := 3) (oi := ⟨some 52, _, _, _, _, _⟩) (v := ?v3r12z) rfl (by kernel_rfl) (by kernel_rfl) (by kernel_rfl) (fun _ _ _ h => h) (Or.inl ⟨by rfl, ?y3r12z⟩) hHeld ?r3r12z
    case y3r12z =>
      rintro w' hSw
      go_simp
      try with_reducible rfl
    try simp only [Act.put, List.setIfInBounds_toArray, List.set_cons_zero, List.set_cons_succ]
    refine wpAnyH_take (i := 4) (oi := ⟨some 53, _, _, _, _, _⟩) (v := ?v4r12z) rfl (by kernel_rfl) (by kernel_rfl) (by kernel_rfl) (fun _ _ _ h => h) (Or.inl ⟨by rfl, ?y4r12z⟩) hHeld ?r4r12z
    case y4r12z =>
      rintro w' hSw
      go_simp
      try with_reducible rfl
    try simp only [Act.put, List.setIfInBounds_toArray, List.set_cons_zero, List.set_cons_succ]
    refine wpAnyH_take (i := 7) (oi := ⟨some 56, _, _, _, _, _⟩) (v := ?v7r12z) rfl (by kernel_rfl) (by kernel_rfl) (by kernel_rfl) (fun _ _ _ h => h) (Or.inl ⟨by rfl, ?y7r12z⟩) hHeld ?r7r12z
    case y7r12z =>
      rintro w' hSw
      go_simp
      try with_reducible rfl
    try simp only [Act.put, List.setIfInBounds_toArray, List.set_cons_zero, List.set_cons_succ]
    refine wpAnyH_take (i := 8) (oi := ⟨some 57, _, _, _, _, _⟩) (v := ?v8r12z) rfl (by kernel_rfl) (by kernel_rfl) (by kernel_rfl) (fun _ _ _ h => h) (Or.inl ⟨by rfl, ?y8r12z⟩) hHeld ?r8r12z
    case y8r12z =>
      rintro w' hSw
      have c6 : w'.cell? ⟨w.heap.size, 7, none⟩ = some (.slice An nn cn) := hSw.cell 7
      go_simp
      try with_reducible rfl
    try simp only [Act.put, List.setIfInBounds_toArray, List.set_cons_zero, List.set_cons_succ]
    refine wpAnyH_ready (rs := [5]) (by kernel_rfl) (by simp) ?_
    refine AllReadyH.cons rfl (fun K hK => ?_) AllReadyH.nil
    go_simp
    refine hK _ _ (Row.alloc hHeld _) (fun _ => ?_)
    clear hK K
    try simp only [Act.put, List.setIfInBounds_toArray, List.set_cons_zero, List.set_cons_succ]
    refine wpAnyH_ready (rs := [6]) (by kernel_rfl) (by simp) ?_
    refine AllReadyH.cons rfl (fun K hK => ?_) AllReadyH.nil
    rw [if_pos (by rfl)]
    refine wp_append_bs (.tmp 49) (.tmp 54) 25 rfl (w.heap.size + 1) 5 i0 (.int .u8 0) Try.underlying25 hi hz0 hz1 hz2 rfl (.slice A10 n10 c10) ([ub 2] ++ Wd.hi 8 lsn ++ Wd.hi 8 txn ++ Wd.hi 8 back ++ [ub p, ub q]).length (bv ([ub 2] ++ Wd.hi 8 lsn ++ Wd.hi 8 txn ++ Wd.hi 8 back ++ [ub p, ub q])) rfl (World.ownsRow.alloc (World.ownsRow.drew HO10.out) _) ⟨w10a.heap.size, 0, none⟩ 1 1 [ub nn] rfl rfl (w10a.heap.size + 1) (HLnew.out w10a.drew) (by have := HL10.out; omega) (by simp; omega) ?_
    intro v12 w12a hown12 hg12
    have hbx := below_own hg12 (fun k hk => (World.ownsRow.lt HO10.out k hk).1) (by simp; omega)
    have HO12 := Lib.hid (show Own w12a (w.heap.size + 1) v12 (([ub 2] ++ Wd.hi 8 lsn ++ Wd.hi 8 txn ++ Wd.hi 8 back ++ [ub p, ub q]) ++ [ub nn]) from Own.of_add hown12 rfl)
    have hby := undrew (((Below.refl _ _).alloc (by simp; omega) _).trans hbx)
    clear hown12 hg12 hbx
    obtain ⟨A12, n12, c12, rfl, z1, z2, z3, z4, z5⟩ := HO12.out.open
    have HON := Lib.hid z1
    have HOB := Lib.hid z5
    clear z1 z2 z3 z4 z5
    have HL12 : Hid (([ub 2] ++ Wd.hi 8 lsn ++ Wd.hi 8 txn ++ Wd.hi 8 back ++ [ub p, ub q] ++ [ub nn]).length ≤ 2200) := (show _ ≤ _ by have := HL10.out; simp only [List.length_append, List.length_cons, List.length_nil] at this ⊢; omega)
    have HBL13 := Lib.hid (HBL11.out.trans (hby.mono (Nat.le_succ _)))
    have HR13r := Lib.hid (HR11r.out.below hby (Nat.lt_succ_self _))
    have HSZ13 : w.heap.size + 1 ≤ w12a.heap.size := Nat.le_trans HSZ hby.size
    have hd130 : w12a.cell? ⟨w.heap.size, 0, none⟩ = some (.int .u64 (lsn : Int)) := HR13r.out.cell 0
    have hd131 : w12a.cell? ⟨w.heap.size, 1, none⟩ = some (.int .i64 2) := HR13r.out.cell 1
    have hd132 : w12a.cell? ⟨w.heap.size, 2, none⟩ = some (.int .u64 (txn : Int)) := HR13r.out.cell 2
    have hd133 : w12a.cell? ⟨w.heap.size, 3, none⟩ = some (.int .u64 (back : Int)) := HR13r.out.cell 3
    have hd134 : w12a.cell? ⟨w.heap.size, 4, none⟩ = some (.int .i64 (p : Int)) := HR13r.out.cell 4
    have hd135 : w12a.cell? ⟨w.heap.size, 5, none⟩ = some (.int .i64 (q : Int)) := HR13r.out.cell 5
    have hd136 : w12a.cell? ⟨w.heap.size, 6, none⟩ = some (.slice Ao no co) := HR13r.out.cell 6
    have hd137 : w12a.cell? ⟨w.heap.size, 7, none⟩ = some (.slice An nn cn) := HR13r.out.cell 7
    have hd138 : w12a.cell? ⟨w.heap.size, 8, none⟩ = some (.int .u64 (next : Int)) := HR13r.out.cell 8
    have HSZ := HSZ13
    clear HSZ13
    clear hby
    refine hK _ _ HR13r.out (fun _ => ?_)
    clear hK K
    try simp only [Act.put, List.setIfInBounds_toArray, List.set_cons_zero, List.set_cons_succ]
    refine wpAnyH_ready (rs := [9]) (by kernel_rfl) (by simp) ?_
    refine AllReadyH.cons rfl (fun K hK => ?_) AllReadyH.nil
    go_simp
    refine (both_any A12 An ([ub 2] ++ Wd.hi 8 lsn ++ Wd.hi 8 txn ++ Wd.hi 8 back ++ [ub p, ub q] ++ [ub nn]) new c12 cn n12 nn w12a HON.out HA.out.ln (by have := HON.out; have := HL12.out; have := HOA.out; have := HA.out.ln; simp only at this; omega) HOB.out ((HA.out.bn.below (HBL13.out.mono hB)).more (by omega))).mono ?_
    rintro e w12b ⟨g12b, n12b, rfl, hm12b, hg12b, hrow12b, hby⟩
    have HL12m : Hid (([ub 2] ++ Wd.hi 8 lsn ++ Wd.hi 8 txn ++ Wd.hi 8 back ++ [ub p, ub q] ++ [ub nn] ++ new).length ≤ 1500) := (show _ ≤ _ by have := HL12.out; have := HOA.out; simp only [List.length_append, hi_length, List.length_cons, List.length_nil] at *; omega)
    have HON := Lib.hid hm12b.out
    have HOB := Lib.hid (Row.bs hrow12b hrow12b.lt)
    have HOW12 := Lib.hid (Own.of_row hrow12b (Nat.le_trans HSZ (by omega) : w.heap.size + 1 ≤ g12b) hm12b.out (by have := hm12b.out; have := HL12m.out; unfold maxLen; omega))
    clear hm12b hrow12b
    have HBL14 := Lib.hid (HBL13.out.trans (hby.mono (Nat.le_trans (Nat.le_succ _) HSZ)))
    have HR14r := Lib.hid (HR13r.out.below hby (Nat.lt_of_lt_of_le (Nat.lt_succ_self _) HSZ))
    have HSZ14 : w.heap.size + 1 ≤ w12b.heap.size := Nat.le_trans HSZ hby.size
    have hd140 : w12b.cell? ⟨w.heap.size, 0, none⟩ = some (.int .u64 (lsn : Int)) := HR14r.out.cell 0
    have hd141 : w12b.cell? ⟨w.heap.size, 1, none⟩ = some (.int .i64 2) := HR14r.out.cell 1
    have hd142 : w12b.cell? ⟨w.heap.size, 2, none⟩ = some (.int .u64 (txn : Int)) := HR14r.out.cell 2
    have hd143 : w12b.cell? ⟨w.heap.size, 3, none⟩ = some (.int .u64 (back : Int)) := HR14r.out.cell 3
    have hd144 : w12b.cell? ⟨w.heap.size, 4, none⟩ = some (.int .i64 (p : Int)) := HR14r.out.cell 4
    have hd145 : w12b.cell? ⟨w.heap.size, 5, none⟩ = some (.int .i64 (q : Int)) := HR14r.out.cell 5
    have hd146 : w12b.cell? ⟨w.heap.size, 6, none⟩ = some (.slice Ao no co) := HR14r.out.cell 6
    have hd147 : w12b.cell? ⟨w.heap.size, 7, none⟩ = some (.slice An nn cn) := HR14r.out.cell 7
    have hd148 : w12b.cell? ⟨w.heap.size, 8, none⟩ = some (.int .u64 (next : Int)) := HR14r.out.cell 8
    have HSZ := HSZ14
    clear HSZ14
    clear hby
    refine hK _ _ HR14r.out (fun _ => ?_)
    clear hK K
    try simp only [Act.put, List.setIfInBounds_toArray, List.set_cons_zero, List.set_cons_succ]
    refine wpAnyH_take (i := 10) (oi := ⟨some 3, _, _, _, _, _⟩) (v := ?v10r12z) rfl (by kernel_rfl) (by kernel_rfl) (by kernel_rfl) (fun _ _ _ h => h) (Or.inl ⟨by rfl, ?y10r12z⟩) HR14r.out ?r10r12z
    case y10r12z =>
      rintro w' hSw
      go_simp
      try with_reducible rfl
    try simp only [Act.put, List.setIfInBounds_toArray, List.set_cons_zero, List.set_cons_succ]
    refine wpAnyH_done (by kernel_rfl) ?_ _
    go_wp2_with fail
    refine (high8_any next w12b U4.out).mono ?_
    rintro e w15a ⟨g15, n15, rfl, hm15, hg15, hrow15, hby⟩
    have HM15 := Lib.hid hm15.out
    have HRW15 := Lib.hid hrow15
    have HOX := Lib.hid ((HOB.out.below hby).more hby.size)
    clear hm15 hrow15 HOB
    have HBL16 := Lib.hid (HBL14.out.trans (hby.mono (Nat.le_trans (Nat.le_succ _) HSZ)))
    have HR16r := Lib.hid (HR14r.out.below hby (Nat.lt_of_lt_of_le (Nat.lt_succ_self _) HSZ))
    have HSZ16 : w.heap.size + 1 ≤ w15a.heap.size := Nat.le_trans HSZ hby.size
    have hd160 : w15a.cell? ⟨w.heap.size, 0, none⟩ = some (.int .u64 (lsn : Int)) := HR16r.out.cell 0
    have hd161 : w15a.cell? ⟨w.heap.size, 1, none⟩ = some (.int .i64 2) := HR16r.out.cell 1
    have hd162 : w15a.cell? ⟨w.heap.size, 2, none⟩ = some (.int .u64 (txn : Int)) := HR16r.out.cell 2
    have hd163 : w15a.cell? ⟨w.heap.size, 3, none⟩ = some (.int .u64 (back : Int)) := HR16r.out.cell 3
    have hd164 : w15a.cell? ⟨w.heap.size, 4, none⟩ = some (.int .i64 (p : Int)) := HR16r.out.cell 4
    have hd165 : w15a.cell? ⟨w.heap.size, 5, none⟩ = some (.int .i64 (q : Int)) := HR16r.out.cell 5
    have hd166 : w15a.cell? ⟨w.heap.size, 6, none⟩ = some (.slice Ao no co) := HR16r.out.cell 6
    have hd167 : w15a.cell? ⟨w.heap.size, 7, none⟩ = some (.slice An nn cn) := HR16r.out.cell 7
    have hd168 : w15a.cell? ⟨w.heap.size, 8, none⟩ = some (.int .u64 (next : Int)) := HR16r.out.cell 8
    have HSZ := HSZ16
    clear HSZ16
    clear hby
    go_wp2_with fail
    refine (both_any (some ⟨g12b, 0, none⟩) (some ⟨g15, 0, none⟩) ([ub 2] ++ Wd.hi 8 lsn ++ Wd.hi 8 txn ++ Wd.hi 8 back ++ [ub p, ub q] ++ [ub nn] ++ new) (Wd.hi 8 next) n12b n15 n12b n15 w15a HON.out HM15.out (by have := HON.out; have := HM15.out; have := HL12m.out; simp only [hi_length] at *; omega) HOX.out (Row.bs HRW15.out HRW15.out.lt)).mono ?_
    rintro e w15b ⟨g15b, n15b, rfl, hm15b, hg15b, hrow15b, hby⟩
    clear HOX HON HRW15 HM15
    have HL15m : Hid (([ub 2] ++ Wd.hi 8 lsn ++ Wd.hi 8 txn ++ Wd.hi 8 back ++ [ub p, ub q] ++ [ub nn] ++ new ++ Wd.hi 8 next).length ≤ 1800) := (show _ ≤ _ by have := HL12m.out; have := HOA.out; simp only [List.length_append, hi_length, List.length_cons, List.length_nil] at *; omega)
    have HON := Lib.hid hm15b.out
    have HOB := Lib.hid (Row.bs hrow15b hrow15b.lt)
    have HOW15 := Lib.hid (Own.of_row hrow15b (Nat.le_trans HSZ (by omega) : w.heap.size + 1 ≤ g15b) hm15b.out (by have := hm15b.out; have := HL15m.out; unfold maxLen; omega))
    clear hm15b hrow15b
    have HBL17 := Lib.hid (HBL16.out.trans (hby.mono (Nat.le_trans (Nat.le_succ _) HSZ)))
    have HR17r := Lib.hid (HR16r.out.below hby (Nat.lt_of_lt_of_le (Nat.lt_succ_self _) HSZ))
    have HSZ17 : w.heap.size + 1 ≤ w15b.heap.size := Nat.le_trans HSZ hby.size
    have hd170 : w15b.cell? ⟨w.heap.size, 0, none⟩ = some (.int .u64 (lsn : Int)) := HR17r.out.cell 0
    have hd171 : w15b.cell? ⟨w.heap.size, 1, none⟩ = some (.int .i64 2) := HR17r.out.cell 1
    have hd172 : w15b.cell? ⟨w.heap.size, 2, none⟩ = some (.int .u64 (txn : Int)) := HR17r.out.cell 2
    have hd173 : w15b.cell? ⟨w.heap.size, 3, none⟩ = some (.int .u64 (back : Int)) := HR17r.out.cell 3
    have hd174 : w15b.cell? ⟨w.heap.size, 4, none⟩ = some (.int .i64 (p : Int)) := HR17r.out.cell 4
    have hd175 : w15b.cell? ⟨w.heap.size, 5, none⟩ = some (.int .i64 (q : Int)) := HR17r.out.cell 5
    have hd176 : w15b.cell? ⟨w.heap.size, 6, none⟩ = some (.slice Ao no co) := HR17r.out.cell 6
    have hd177 : w15b.cell? ⟨w.heap.size, 7, none⟩ = some (.slice An nn cn) := HR17r.out.cell 7
    have hd178 : w15b.cell? ⟨w.heap.size, 8, none⟩ = some (.int .u64 (next : Int)) := HR17r.out.cell 8
    have HSZ := HSZ17
    clear HSZ17
    clear hby
    go_wp2_with fail
    go_ret
    refine ⟨_, rfl, ?_, HBL17.out⟩
    have hfin := HOW15.out.mono (Nat.le_succ _)
    rw [show bytesM R = [ub 2] ++ Wd.hi 8 lsn ++ Wd.hi 8 txn ++ Wd.hi 8 back ++ [ub p, ub q] ++ [ub nn] ++ new ++ Wd.hi 8 next from by rw [bytesM, HR.out]; simp [headM, restM, itemM, HA.out.lo, HA.out.ln, List.append_assoc]]
    exact hfin
  · go_wp2_with fail
    go_ret
    refine ⟨_, rfl, ?_, HBL9.out⟩
    have hfin := HOW7.out.mono (Nat.le_succ _)
    rw [show bytesM R = [ub k] ++ Wd.hi 8 lsn ++ Wd.hi 8 txn ++ Wd.hi 8 back from by rw [bytesM, HR.out]; rcases hk with rfl | rfl <;> simp [headM, restM, itemM, HA.out.lo, HA.out.ln, List.append_assoc]]
    exact hfin
end Go.Proofs.Ytnljhopikjkflaa.Rec
