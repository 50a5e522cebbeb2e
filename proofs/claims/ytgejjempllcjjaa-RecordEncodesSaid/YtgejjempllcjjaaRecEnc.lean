/-
  RecordEncodes: whatever record is encoded into the document's bytes, or refused. No condition.
-/
import Derived.Test.YtgejjempllcjjaaRec13
import Derived.Great.BuildSlice
import Derived.Deep.SlicePairs
namespace Go.Proofs.Ytgejjempllcjjaa.RecEnc
set_option maxRecDepth 100000
open Go.RowKit Go.Proofs.Ytgejjempllcjjaa.Wd Go.Proofs.Ytgejjempllcjjaa.Oct Go.Proofs.Ytgejjempllcjjaa.Dsk Go.Proofs.Ytgejjempllcjjaa.Rec Go.ChangeShapes Go.WideShapes Go.ChangeAt

theorem own : ownKnob Try.prog.godebug = none := by kernel_rfl
theorem laidOut : laidOutB Try.prog = true := by kernel_rfl
theorem not_large (r : RM) (h : largeM [r] = false) : r.old.length ≤ 1000 ∧ r.new.length ≤ 1000 := by
  simp [largeM, bigR] at h
  exact h
theorem bytes_most (r : RM) (h : okM r = true) : (bytesM r).length ≤ 200 := by
  have ha := ok_arith r h
  unfold bytesM headM restM itemM
  split
  · simp [hi_length]; omega
  · split
    · simp [hi_length]; omega
    · simp [hi_length]

set_option maxHeartbeats 4000000 in
theorem enc_walk (r : RM) (s : RS) (w : World) (hr : RecOk w (r, s)) :
    Calls Try.prog 3 #[.agg (rcs r s).toArray] w fun e w' => e = .returned (.bool true) ∧ Below w.heap.size w w' := by
  have HRC := Lib.hid hr
  have HEN := Lib.hid (fun (W : World) (y : RS) (h : RecAt W W.heap.size r y) => encode_any r y W.heap.size W h (Nat.le_refl _))
  have HCH := Lib.hid (fun (W : World) (y : RS) (h : RecAt W W.heap.size r y) => check_any r y W.heap.size W h (Nat.le_refl _))
  have HRG := Lib.hid (fun (W : World) (h : Below w.heap.size w W) => right_any r s w.heap.size W (HRC.out.at_.below h) h.size)
  have HBY := Lib.hid (fun (W : World) (h : Below w.heap.size w W) (hok : okM r = true) => bytes_ref r s w.heap.size W (HRC.out.at_.below h) h.size hok HRC.out.u1 HRC.out.u2 HRC.out.u3 HRC.out.u4)
  have HCP := Lib.hid (fun (W : World) (h : Below w.heap.size w W) (hs : s.no ≤ 2000 ∧ s.nn ≤ 2000) => copied_any r s W ((HRC.out.at_.below h).more h.size) hs)
  clear hr
  unfold rcs at HEN HCH HRG HBY HCP ⊢
  go_enter Try.func3, Try.ntmps3
  go_wp2_with fail
  have r0 : Row (w.alloc (.cells #[.int .u64 (r.lsn : Int), .int .i64 r.kind, .int .u64 (r.txn : Int), .int .u64 (r.back : Int), .int .i64 r.page, .int .i64 r.slot, .slice s.Ao s.no s.co, .slice s.An s.nn s.cn, .int .u64 (r.next : Int)] 25)) w.heap.size 25 (rcs r s) := Row.new w _ _
  have b0 : Below w.heap.size w (w.alloc (.cells #[.int .u64 (r.lsn : Int), .int .i64 r.kind, .int .u64 (r.txn : Int), .int .u64 (r.back : Int), .int .i64 r.page, .int .i64 r.slot, .slice s.Ao s.no s.co, .slice s.An s.nn s.cn, .int .u64 (r.next : Int)] 25)) := (Below.refl _ _).alloc (Nat.le_refl _) _
  refine (wakes_any _).mono ?_
  rintro e w1 ⟨rfl, hb1⟩
  have R1 := Lib.hid (r0.below hb1 (by simp))
  have B1 := Lib.hid (b0.trans (hb1.mono b0.size))
  have hs1 : w.heap.size < w1.heap.size := by have := hb1.size; simp at this; omega
  clear r0 b0 hb1
  have hz := R1.out
  unfold rcs at hz
  have ha0 : w1.cell? ⟨w.heap.size, 0, none⟩ = some (.int .u64 (r.lsn : Int)) := hz.cell 0
  have ha1 : w1.cell? ⟨w.heap.size, 1, none⟩ = some (.int .i64 r.kind) := hz.cell 1
  have ha2 : w1.cell? ⟨w.heap.size, 2, none⟩ = some (.int .u64 (r.txn : Int)) := hz.cell 2
  have ha3 : w1.cell? ⟨w.heap.size, 3, none⟩ = some (.int .u64 (r.back : Int)) := hz.cell 3
  have ha4 : w1.cell? ⟨w.heap.size, 4, none⟩ = some (.int .i64 r.page) := hz.cell 4
  have ha5 : w1.cell? ⟨w.heap.size, 5, none⟩ = some (.int .i64 r.slot) := hz.cell 5
  have ha6 : w1.cell? ⟨w.heap.size, 6, none⟩ = some (.slice s.Ao s.no s.co) := hz.cell 6
  have ha7 : w1.cell? ⟨w.heap.size, 7, none⟩ = some (.slice s.An s.nn s.cn) := hz.cell 7
  have ha8 : w1.cell? ⟨w.heap.size, 8, none⟩ = some (.int .u64 (r.next : Int)) := hz.cell 8
  clear hz
  go_wp2_with fail
  have hrl : Rl (w1.alloc (.cells #[.int .u64 (r.lsn : Int), .int .i64 r.kind, .int .u64 (r.txn : Int), .int .u64 (r.back : Int), .int .i64 r.page, .int .i64 r.slot, .slice s.Ao s.no s.co, .slice s.An s.nn s.cn, .int .u64 (r.next : Int)] 25)) (w1.heap.size + 1) (some ⟨w1.heap.size, 0, none⟩) [(r, s)] := Rl.one (show Row _ _ 25 (rcs r s) from Row.new w1 _ _) (Nat.lt_succ_self _) (((HRC.out.at_.below B1.out).alloc B1.out.size _).more (by omega))
  have hs2 : (w1.alloc (.cells #[.int .u64 (r.lsn : Int), .int .i64 r.kind, .int .u64 (r.txn : Int), .int .u64 (r.back : Int), .int .i64 r.page, .int .i64 r.slot, .slice s.Ao s.no s.co, .slice s.An s.nn s.cn, .int .u64 (r.next : Int)] 25)).heap.size = w1.heap.size + 1 := by simp
  have R2 := Lib.hid (R1.out.alloc (.cells #[.int .u64 (r.lsn : Int), .int .i64 r.kind, .int .u64 (r.txn : Int), .int .u64 (r.back : Int), .int .i64 r.page, .int .i64 r.slot, .slice s.Ao s.no s.co, .slice s.An s.nn s.cn, .int .u64 (r.next : Int)] 25))
  have B2 := Lib.hid (B1.out.alloc B1.out.size (.cells #[.int .u64 (r.lsn : Int), .int .i64 r.kind, .int .u64 (r.txn : Int), .int .u64 (r.back : Int), .int .i64 r.page, .int .i64 r.slot, .slice s.Ao s.no s.co, .slice s.An s.nn s.cn, .int .u64 (r.next : Int)] 25))
  refine (large_any _ 1 1 [(r, s)] _ rfl (by rw [hs2]; exact hrl)).mono ?_
  rintro e w3 ⟨rfl, hb3⟩
  have R3 := Lib.hid (R2.out.below hb3 (by omega))
  have B3 := Lib.hid (B2.out.trans (hb3.mono B2.out.size))
  have hs3 : w.heap.size < w3.heap.size := by have := hb3.size; omega
  clear hrl hb3
  clear ha0 ha1 ha2 ha3 ha4 ha5 ha6 ha7 ha8
  have HNL := Lib.hid (not_large r)
  simp only [List.map_cons, List.map_nil]
  generalize largeM [r] = M at HNL ⊢
  cases M
  case true =>
    go_wp2_with fail
    go_ret
    exact ⟨rfl, B3.out⟩
  have hsz : s.no ≤ 2000 ∧ s.nn ≤ 2000 := by
    have h1 := HNL.out rfl
    have h2 := HRC.out.at_.lo
    have h3 := HRC.out.at_.ln
    simp only at h2 h3
    omega
  clear HNL
  have hz := R3.out
  unfold rcs at hz
  have hc0 : w3.cell? ⟨w.heap.size, 0, none⟩ = some (.int .u64 (r.lsn : Int)) := hz.cell 0
  have hc1 : w3.cell? ⟨w.heap.size, 1, none⟩ = some (.int .i64 r.kind) := hz.cell 1
  have hc2 : w3.cell? ⟨w.heap.size, 2, none⟩ = some (.int .u64 (r.txn : Int)) := hz.cell 2
  have hc3 : w3.cell? ⟨w.heap.size, 3, none⟩ = some (.int .u64 (r.back : Int)) := hz.cell 3
  have hc4 : w3.cell? ⟨w.heap.size, 4, none⟩ = some (.int .i64 r.page) := hz.cell 4
  have hc5 : w3.cell? ⟨w.heap.size, 5, none⟩ = some (.int .i64 r.slot) := hz.cell 5
  have hc6 : w3.cell? ⟨w.heap.size, 6, none⟩ = some (.slice s.Ao s.no s.co) := hz.cell 6
  have hc7 : w3.cell? ⟨w.heap.size, 7, none⟩ = some (.slice s.An s.nn s.cn) := hz.cell 7
  have hc8 : w3.cell? ⟨w.heap.size, 8, none⟩ = some (.int .u64 (r.next : Int)) := hz.cell 8
  clear hz
  go_wp2_with fail
  refine (HCP.out _ B3.out hsz).mono ?_
  rintro e w4 ⟨s4, rfl, hrec4, hb4⟩
  have HREC4 := Lib.hid hrec4
  clear hrec4
  have R4 := Lib.hid (R3.out.below hb4 hs3)
  have B4 := Lib.hid (B3.out.trans (hb4.mono B3.out.size))
  have hs4 : w.heap.size < w4.heap.size := Nat.lt_of_lt_of_le hs3 hb4.size
  clear hb4
  clear hc0 hc1 hc2 hc3 hc4 hc5 hc6 hc7 hc8
  go_wp2_with fail
  cases hK : okM r
  · have HKK := Lib.hid hK
    refine (HEN.out _ s4 HREC4.out).mono ?_
    rintro e w5 ⟨v, rfl, ho, hb5⟩
    simp only [hK, Bool.false_eq_true, if_false] at ho ⊢
    simp only [hK, Bool.false_eq_true, if_false] at HCH
    obtain ⟨A1, n1, c1, rfl, h1, h2, h3, h4, h5⟩ := ho.open
    have HBB5x := Lib.hid h5
    have HL1 := Lib.hid h1
    clear h2 h3 h4 h5 ho HREC4
    have R5 := Lib.hid (R4.out.below hb5 hs4)
    have B5 := Lib.hid (B4.out.trans (hb5.mono B4.out.size))
    have hs5 : w.heap.size < w5.heap.size := Nat.lt_of_lt_of_le hs4 hb5.size
    clear hb5
    have HBB5 := HBB5x
    clear HBB5x
    have hn1 : n1 = 0 := h1.symm
    subst hn1
    clear h1
    have hz := R5.out
    unfold rcs at hz
    have hd0 : w5.cell? ⟨w.heap.size, 0, none⟩ = some (.int .u64 (r.lsn : Int)) := hz.cell 0
    have hd1 : w5.cell? ⟨w.heap.size, 1, none⟩ = some (.int .i64 r.kind) := hz.cell 1
    have hd2 : w5.cell? ⟨w.heap.size, 2, none⟩ = some (.int .u64 (r.txn : Int)) := hz.cell 2
    have hd3 : w5.cell? ⟨w.heap.size, 3, none⟩ = some (.int .u64 (r.back : Int)) := hz.cell 3
    have hd4 : w5.cell? ⟨w.heap.size, 4, none⟩ = some (.int .i64 r.page) := hz.cell 4
    have hd5 : w5.cell? ⟨w.heap.size, 5, none⟩ = some (.int .i64 r.slot) := hz.cell 5
    have hd6 : w5.cell? ⟨w.heap.size, 6, none⟩ = some (.slice s.Ao s.no s.co) := hz.cell 6
    have hd7 : w5.cell? ⟨w.heap.size, 7, none⟩ = some (.slice s.An s.nn s.cn) := hz.cell 7
    have hd8 : w5.cell? ⟨w.heap.size, 8, none⟩ = some (.int .u64 (r.next : Int)) := hz.cell 8
    clear hz
    go_wp2_with fail
    refine (HRG.out _ B5.out).mono ?_
    rintro e w6 ⟨rfl, hb6⟩
    rw [hK]
    have R6 := Lib.hid (R5.out.below hb6 hs5)
    have B6 := Lib.hid (B5.out.trans (hb6.mono B5.out.size))
    have hs6 : w.heap.size < w6.heap.size := Nat.lt_of_lt_of_le hs5 hb6.size
    have HBB6 := Lib.hid ((HBB5.out.below hb6).more hb6.size)
    clear hb6
    clear hd0 hd1 hd2 hd3 hd4 hd5 hd6 hd7 hd8
    have hz := R6.out
    unfold rcs at hz
    have he0 : w6.cell? ⟨w.heap.size, 0, none⟩ = some (.int .u64 (r.lsn : Int)) := hz.cell 0
    have he1 : w6.cell? ⟨w.heap.size, 1, none⟩ = some (.int .i64 r.kind) := hz.cell 1
    have he2 : w6.cell? ⟨w.heap.size, 2, none⟩ = some (.int .u64 (r.txn : Int)) := hz.cell 2
    have he3 : w6.cell? ⟨w.heap.size, 3, none⟩ = some (.int .u64 (r.back : Int)) := hz.cell 3
    have he4 : w6.cell? ⟨w.heap.size, 4, none⟩ = some (.int .i64 r.page) := hz.cell 4
    have he5 : w6.cell? ⟨w.heap.size, 5, none⟩ = some (.int .i64 r.slot) := hz.cell 5
    have he6 : w6.cell? ⟨w.heap.size, 6, none⟩ = some (.slice s.Ao s.no s.co) := hz.cell 6
    have he7 : w6.cell? ⟨w.heap.size, 7, none⟩ = some (.slice s.An s.nn s.cn) := hz.cell 7
    have he8 : w6.cell? ⟨w.heap.size, 8, none⟩ = some (.int .u64 (r.next : Int)) := hz.cell 8
    clear hz
    go_wp2_with fail
    refine (HCP.out _ B6.out hsz).mono ?_
    rintro e w7 ⟨s7, rfl, hrec7, hb7⟩
    have HREC7 := Lib.hid hrec7
    clear hrec7
    have R7 := Lib.hid (R6.out.below hb7 hs6)
    have B7 := Lib.hid (B6.out.trans (hb7.mono B6.out.size))
    have hs7 : w.heap.size < w7.heap.size := Nat.lt_of_lt_of_le hs6 hb7.size
    have HBB7 := Lib.hid ((HBB6.out.below hb7).more hb7.size)
    clear hb7
    clear he0 he1 he2 he3 he4 he5 he6 he7 he8
    go_wp2_with fail
    refine (HCH.out _ s7 HREC7.out).mono ?_
    rintro e w8 ⟨rfl, hb8⟩
    clear HREC7
    have R8 := Lib.hid (R7.out.below hb8 hs7)
    have B8 := Lib.hid (B7.out.trans (hb8.mono B7.out.size))
    have hs8 : w.heap.size < w8.heap.size := Nat.lt_of_lt_of_le hs7 hb8.size
    have HBB8 := Lib.hid ((HBB7.out.below hb8).more hb8.size)
    clear hb8
    go_wp2_with fail
    go_ret
    exact ⟨rfl, B8.out⟩
  · have HKK := Lib.hid hK
    refine (HEN.out _ s4 HREC4.out).mono ?_
    rintro e w5 ⟨v, rfl, ho, hb5⟩
    simp only [hK, if_true] at ho ⊢
    simp only [hK, if_true] at HCH
    obtain ⟨A1, n1, c1, rfl, h1, h2, h3, h4, h5⟩ := ho.open
    have HBB5x := Lib.hid h5
    have HL1 := Lib.hid h1
    clear h2 h3 h4 h5 ho HREC4
    have R5 := Lib.hid (R4.out.below hb5 hs4)
    have B5 := Lib.hid (B4.out.trans (hb5.mono B4.out.size))
    have hs5 : w.heap.size < w5.heap.size := Nat.lt_of_lt_of_le hs4 hb5.size
    clear hb5
    have HBB5 := HBB5x
    clear HBB5x
    clear h1
    have hz := R5.out
    unfold rcs at hz
    have hd0 : w5.cell? ⟨w.heap.size, 0, none⟩ = some (.int .u64 (r.lsn : Int)) := hz.cell 0
    have hd1 : w5.cell? ⟨w.heap.size, 1, none⟩ = some (.int .i64 r.kind) := hz.cell 1
    have hd2 : w5.cell? ⟨w.heap.size, 2, none⟩ = some (.int .u64 (r.txn : Int)) := hz.cell 2
    have hd3 : w5.cell? ⟨w.heap.size, 3, none⟩ = some (.int .u64 (r.back : Int)) := hz.cell 3
    have hd4 : w5.cell? ⟨w.heap.size, 4, none⟩ = some (.int .i64 r.page) := hz.cell 4
    have hd5 : w5.cell? ⟨w.heap.size, 5, none⟩ = some (.int .i64 r.slot) := hz.cell 5
    have hd6 : w5.cell? ⟨w.heap.size, 6, none⟩ = some (.slice s.Ao s.no s.co) := hz.cell 6
    have hd7 : w5.cell? ⟨w.heap.size, 7, none⟩ = some (.slice s.An s.nn s.cn) := hz.cell 7
    have hd8 : w5.cell? ⟨w.heap.size, 8, none⟩ = some (.int .u64 (r.next : Int)) := hz.cell 8
    clear hz
    go_wp2_with fail
    refine (HRG.out _ B5.out).mono ?_
    rintro e w6 ⟨rfl, hb6⟩
    rw [hK]
    have R6 := Lib.hid (R5.out.below hb6 hs5)
    have B6 := Lib.hid (B5.out.trans (hb6.mono B5.out.size))
    have hs6 : w.heap.size < w6.heap.size := Nat.lt_of_lt_of_le hs5 hb6.size
    have HBB6 := Lib.hid ((HBB5.out.below hb6).more hb6.size)
    clear hb6
    clear hd0 hd1 hd2 hd3 hd4 hd5 hd6 hd7 hd8
    have hz := R6.out
    unfold rcs at hz
    have he0 : w6.cell? ⟨w.heap.size, 0, none⟩ = some (.int .u64 (r.lsn : Int)) := hz.cell 0
    have he1 : w6.cell? ⟨w.heap.size, 1, none⟩ = some (.int .i64 r.kind) := hz.cell 1
    have he2 : w6.cell? ⟨w.heap.size, 2, none⟩ = some (.int .u64 (r.txn : Int)) := hz.cell 2
    have he3 : w6.cell? ⟨w.heap.size, 3, none⟩ = some (.int .u64 (r.back : Int)) := hz.cell 3
    have he4 : w6.cell? ⟨w.heap.size, 4, none⟩ = some (.int .i64 r.page) := hz.cell 4
    have he5 : w6.cell? ⟨w.heap.size, 5, none⟩ = some (.int .i64 r.slot) := hz.cell 5
    have he6 : w6.cell? ⟨w.heap.size, 6, none⟩ = some (.slice s.Ao s.no s.co) := hz.cell 6
    have he7 : w6.cell? ⟨w.heap.size, 7, none⟩ = some (.slice s.An s.nn s.cn) := hz.cell 7
    have he8 : w6.cell? ⟨w.heap.size, 8, none⟩ = some (.int .u64 (r.next : Int)) := hz.cell 8
    clear hz
    go_wp2_with fail
    refine (HCP.out _ B6.out hsz).mono ?_
    rintro e w7 ⟨s7, rfl, hrec7, hb7⟩
    have HREC7 := Lib.hid hrec7
    clear hrec7
    have R7 := Lib.hid (R6.out.below hb7 hs6)
    have B7 := Lib.hid (B6.out.trans (hb7.mono B6.out.size))
    have hs7 : w.heap.size < w7.heap.size := Nat.lt_of_lt_of_le hs6 hb7.size
    have HBB7 := Lib.hid ((HBB6.out.below hb7).more hb7.size)
    clear hb7
    clear he0 he1 he2 he3 he4 he5 he6 he7 he8
    go_wp2_with fail
    refine (HCH.out _ s7 HREC7.out).mono ?_
    rintro e w8 ⟨rfl, hb8⟩
    clear HREC7
    have R8 := Lib.hid (R7.out.below hb8 hs7)
    have B8 := Lib.hid (B7.out.trans (hb8.mono B7.out.size))
    have hs8 : w.heap.size < w8.heap.size := Nat.lt_of_lt_of_le hs7 hb8.size
    have HBB8 := Lib.hid ((HBB7.out.below hb8).more hb8.size)
    clear hb8
    have hz := R8.out
    unfold rcs at hz
    have hf0 : w8.cell? ⟨w.heap.size, 0, none⟩ = some (.int .u64 (r.lsn : Int)) := hz.cell 0
    have hf1 : w8.cell? ⟨w.heap.size, 1, none⟩ = some (.int .i64 r.kind) := hz.cell 1
    have hf2 : w8.cell? ⟨w.heap.size, 2, none⟩ = some (.int .u64 (r.txn : Int)) := hz.cell 2
    have hf3 : w8.cell? ⟨w.heap.size, 3, none⟩ = some (.int .u64 (r.back : Int)) := hz.cell 3
    have hf4 : w8.cell? ⟨w.heap.size, 4, none⟩ = some (.int .i64 r.page) := hz.cell 4
    have hf5 : w8.cell? ⟨w.heap.size, 5, none⟩ = some (.int .i64 r.slot) := hz.cell 5
    have hf6 : w8.cell? ⟨w.heap.size, 6, none⟩ = some (.slice s.Ao s.no s.co) := hz.cell 6
    have hf7 : w8.cell? ⟨w.heap.size, 7, none⟩ = some (.slice s.An s.nn s.cn) := hz.cell 7
    have hf8 : w8.cell? ⟨w.heap.size, 8, none⟩ = some (.int .u64 (r.next : Int)) := hz.cell 8
    clear hz
    go_wp2_with fail
    refine (HBY.out _ B8.out HKK.out).mono ?_
    rintro e w9 ⟨v9, rfl, ho9, hb9⟩
    obtain ⟨A9, n9, c9, rfl, h1, h2, h3, h4, h5⟩ := ho9.open
    have HB9 := Lib.hid h5
    have HL9 := Lib.hid h1
    clear h1 h2 h3 h4 h5 ho9
    have R9 := Lib.hid (R8.out.below hb9 hs8)
    have B9 := Lib.hid (B8.out.trans (hb9.mono B8.out.size))
    have hs9 : w.heap.size < w9.heap.size := Nat.lt_of_lt_of_le hs8 hb9.size
    have HBB9 := Lib.hid ((HBB8.out.below hb9).more hb9.size)
    clear hb9
    clear hf0 hf1 hf2 hf3 hf4 hf5 hf6 hf7 hf8
    go_wp2_with fail
    refine (same_true A1 A9 (bytesM r) c1 c9 n1 n9 w9 HL1.out HL9.out (by have := HL1.out; have := bytes_most r HKK.out; omega) _ _ HBB9.out HB9.out).mono ?_
    rintro e wf ⟨rfl, q, rfl⟩
    go_wp2
    go_ret
    exact ⟨rfl, below_still B9.out ⟨q, rfl⟩⟩

theorem resT_RecordEncodes : Try.f3.resultTypes = #[4] := by kernel_rfl
set_option maxRecDepth 100000 in
theorem lifted_RecordEncodes (os : Os) (started : os.Started) (H : Type) (enc : TypeId × Value → H) :
    ReturnsInHanded {} Try.checked os 3 .any (Rows.recordEncodesSpec.pre6 enc Try.prog Try.f3 Rows.recordEncodesRow.domain false) (Rows.recordEncodesSpec.post enc Try.prog Try.f3 false true false false) := by
  refine Lift.law_lift (C := Try.checked) (s := Rows.recordEncodesSpec) (tb := 4) own laidOut started (by kernel_rfl) Try.func3
    (ChangeSpec.witness6 (enc := enc) (C := Try.checked) false ⟨#[], #[.agg #[.int .u64 0, .int .i64 0, .int .u64 0, .int .u64 0, .int .i64 0, .int .i64 0, .slice none 0 0, .slice none 0 0, .int .u64 0]], []⟩ 8 (by kernel_rfl) (by kernel_rfl) (by kernel_rfl) (by kernel_rfl))
    rfl resT_RecordEncodes Try.underlying4 (by
      have hr : ∀ t ∈ ([25] : List TypeId), Try.prog.readableRec t = true ∧ t < Try.prog.types.size := by
        intro t ht
        simp only [List.mem_cons, List.not_mem_nil, or_false] at ht
        rcases ht with rfl <;> exact ⟨by kernel_rfl, of_decide_eq_true (by kernel_rfl)⟩
      intro t ht
      exact hr t (by
        have ht' : t ∈ Try.f3.params.toList := ht
        rw [Try.params3] at ht'
        exact ht')) ?_
  intro W base args ds p hval0 hA0 hsz0
  have hval : ∀ (j : Nat) t v, Try.f3.params[j]? = some t → args[j]? = some v → Value.okWide Try.prog W .any base t v := hval0
  have hA : DataW.TrodAll enc Try.prog W 0 (fun _ => true) true Try.f3.params.toList args.toList ds p := hA0
  have hsz : (DataW.weightsEach Try.prog Try.f3.params.toList ds).all (· ≤ reachBytes) = true := hsz0
  clear hval0 hA0 hsz0
  rw [Try.params3] at hA hval hsz
  obtain ⟨v0, vs0, d0, ds0, p0, q0, hargs, rfl, rfl, h0, r0⟩ := trodAll_cons hA
  obtain ⟨rfl, rfl, rfl⟩ := trodAll_nil r0
  obtain rfl : args = #[v0] := by cases args; simp_all
  obtain ⟨cs0, rfl, _⟩ := okWide_struct Try.underlying25 (hval 0 25 v0 rfl rfl)
  obtain ⟨fuel0, hf0⟩ := h0
  obtain ⟨o0, hcs0, hok0⟩ := open_rec hf0 (by rw [List.all_eq_true] at hsz ⊢; intro z hz; exact hsz z (DataW.weights_mem_each (j := 0) (t := 25) (d := d0) rfl rfl z hz))
  have hv0 : Value.agg cs0 = .agg (rcs o0.1 o0.2).toArray := by
    have : cs0.toList = rcs o0.1 o0.2 := by simpa [Value.cells] using hcs0
    rw [← this]
  rw [hv0]
  exact ⟨rfl, enc_walk o0.1 o0.2 W hok0⟩

theorem proved_RecordEncodes : Rows.RecordEncodesSaid :=
  OpenClaim.holds_of_wide 3 Try.f3 rfl rfl rfl rfl rfl rfl rfl ⟨rfl, rfl, rfl, rfl, rfl⟩ rfl rfl rfl rfl rfl (by kernel_rfl) Try.func3 (by kernel_rfl)
    (of_decide_eq_true (by kernel_rfl)) (by unfold Func.isWrapper; first | (rw [if_pos (by decide +kernel)]; kernel_rfl) | (rw [if_neg (by decide +kernel)]; exact ⟨rfl, rfl⟩))
    (fun os started H enc _ => lifted_RecordEncodes os started H enc)
end Go.Proofs.Ytgejjempllcjjaa.RecEnc
