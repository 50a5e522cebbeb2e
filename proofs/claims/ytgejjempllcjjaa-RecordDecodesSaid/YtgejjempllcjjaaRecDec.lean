/-
  RecordDecodes: whatever bytes begin with a record, or are refused, as the document says. No condition.
-/
import Derived.Test.YtgejjempllcjjaaRecD
import Derived.Test.YtgejjempllcjjaaRecO
import Derived.Great.BuildSlice
import Derived.Deep.SlicePairs
namespace Go.Proofs.Ytgejjempllcjjaa.RecDec
set_option maxRecDepth 100000
open Go.RowKit Go.Proofs.Ytgejjempllcjjaa.Wd Go.Proofs.Ytgejjempllcjjaa.Oct Go.Proofs.Ytgejjempllcjjaa.Dsk Go.Proofs.Ytgejjempllcjjaa.Rec Go.ChangeShapes Go.WideShapes Go.ChangeAt

theorem own : ownKnob Try.prog.godebug = none := by kernel_rfl
theorem laidOut : laidOutB Try.prog = true := by kernel_rfl
theorem bytes1 : Try.prog.bytesOf 5 = 1 := by kernel_rfl
theorem same_self (r : RM) : sameB r r = true := by simp [sameB]

set_option maxHeartbeats 4000000 in
theorem dec_walk (A : Option Addr) (l : List UInt8) (n c : Nat) (w : World) (hl : l.length = n) (hnc : n ≤ c) (hc : c ≤ 140737488351232) (hA : A = none → c = 0) (hb : Bs w w.heap.size A l) :
    Calls Try.prog 4 #[.slice A n c] w fun e w' => e = .returned (.bool true) ∧ Below w.heap.size w w' := by
  obtain ⟨i0, hi, hz0, hz1, hz2⟩ := info_parts info5
  have HL := Lib.hid hl
  have HA := Lib.hid hA
  have HB := Lib.hid hb
  have HDC := Lib.hid (fun (A2 : Option Addr) (c2 : Nat) (W : World) (h : Bs W W.heap.size A2 l) (h2 : A2 = none → c2 = 0) => decode_any A2 l n c2 W hl (by omega) W.heap.size h (Nat.le_refl _) h2)
  have HRD := Lib.hid (fun (W : World) (h : Below w.heap.size w W) => ref_decode A n c l W hl hnc hc ((hb.below h).more h.size))
  obtain ⟨Z, hZ⟩ : ∃ Z, Z = recM l 0 := ⟨_, rfl⟩
  rw [← hZ] at HDC HRD
  clear hZ hl hA hb
  unfold DecOut rcs at HDC HRD
  generalize (if Z.1 = 0 then (Z.2.2.1 : Int) else 0) = q at HDC HRD
  go_enter Try.func4, Try.ntmps4
  go_wp2_with fail
  refine (wakes_any _).mono ?_
  rintro e w1 ⟨rfl, hb1⟩
  have B1 := Lib.hid hb1
  clear hb1
  by_cases hbig : 10000 < n
  · go_wp2_with fail
    go_ret
    exact ⟨rfl, B1.out⟩
  go_wp2_with (first
      | (at_builtin; (refine wpList_append_bs (o := ⟨some 17, _, _, _, _, _⟩) rfl (.tmp 15) (.tmp 16) 23 rfl w1.heap.size 5 i0 (.int .u8 0) Try.underlying23 hi hz0 hz1 hz2 rfl (.slice (some ⟨w1.heap.size, 0, none⟩) 0 0) 0 (bv []) rfl (Own.of_row (l := []) (Row.new w1 _ _) (Nat.le_refl _) rfl (Nat.zero_le _)) A n c l rfl HL.out w1.heap.size (((HB.out.below B1.out).more B1.out.size).alloc (Nat.le_refl _) _) HA.out (by omega) (by simp) ?_; intro v2 w2 hown2 hg2; have HG2 := Lib.hid (((Below.refl _ _).alloc (Nat.le_refl _) _).trans (below_own hg2 (fun k hk => by cases hk; exact Nat.le_refl _) (by simp))); have HO2 : Hid (Own w2 w1.heap.size v2 l) := Lib.hid (show Own w2 w1.heap.size v2 l from (by have hh := hown2; rw [show bv ([] : List UInt8) = [] from rfl, List.nil_append, Nat.zero_add] at hh; unfold Own; rw [HL.out]; exact hh)); clear hown2 hg2; obtain ⟨A2, n2, c2, rfl, h1, h2, h3, h4, h5⟩ := HO2.out.open)))
  have HA2 := Lib.hid h4
  have HB2 := Lib.hid h5
  obtain rfl : n2 = n := by have := HL.out; omega
  clear h1 h2 h3 h4 h5 HO2
  refine (HDC.out A2 c2 w2 HB2.out HA2.out).mono ?_
  rintro e w3 ⟨s3, rfl, hr3, hb3⟩
  have B3 := Lib.hid (B1.out.trans ((HG2.out.trans (hb3.mono HG2.out.size)).mono B1.out.size))
  have HR3 := Lib.hid hr3
  clear hr3 hb3 HG2 HA2 HB2
  go_upto_region 6 with fail
  have R3 : Hid (Row (w3.alloc (.cells #[.int .u64 (Z.2.1.lsn : Int), .int .i64 Z.2.1.kind, .int .u64 (Z.2.1.txn : Int), .int .u64 (Z.2.1.back : Int), .int .i64 Z.2.1.page, .int .i64 Z.2.1.slot, .slice s3.Ao s3.no s3.co, .slice s3.An s3.nn s3.cn, .int .u64 (Z.2.1.next : Int)] 25)) w3.heap.size 25 (rcs Z.2.1 s3)) := Row.new w3 _ _
  have C3 : Hid (Below w3.heap.size w3 (w3.alloc (.cells #[.int .u64 (Z.2.1.lsn : Int), .int .i64 Z.2.1.kind, .int .u64 (Z.2.1.txn : Int), .int .u64 (Z.2.1.back : Int), .int .i64 Z.2.1.page, .int .i64 Z.2.1.slot, .slice s3.Ao s3.no s3.co, .slice s3.An s3.nn s3.cn, .int .u64 (Z.2.1.next : Int)] 25))) := (Below.refl _ _).alloc (Nat.le_refl _) _
  have hz3 : w3.heap.size + 1 ≤ (w3.alloc (.cells #[.int .u64 (Z.2.1.lsn : Int), .int .i64 Z.2.1.kind, .int .u64 (Z.2.1.txn : Int), .int .u64 (Z.2.1.back : Int), .int .i64 Z.2.1.page, .int .i64 Z.2.1.slot, .slice s3.Ao s3.no s3.co, .slice s3.An s3.nn s3.cn, .int .u64 (Z.2.1.next : Int)] 25)).heap.size := by simp
  have R34 : Hid (RecAt (w3.alloc (.cells #[.int .u64 (Z.2.1.lsn : Int), .int .i64 Z.2.1.kind, .int .u64 (Z.2.1.txn : Int), .int .u64 (Z.2.1.back : Int), .int .i64 Z.2.1.page, .int .i64 Z.2.1.slot, .slice s3.Ao s3.no s3.co, .slice s3.An s3.nn s3.cn, .int .u64 (Z.2.1.next : Int)] 25)) (w3.heap.size + 1) Z.2.1 s3) := (HR3.out.alloc (Nat.le_refl _) _).more (Nat.le_succ _)
  have B4 : Hid (Below w.heap.size w (w3.alloc (.cells #[.int .u64 (Z.2.1.lsn : Int), .int .i64 Z.2.1.kind, .int .u64 (Z.2.1.txn : Int), .int .u64 (Z.2.1.back : Int), .int .i64 Z.2.1.page, .int .i64 Z.2.1.slot, .slice s3.Ao s3.no s3.co, .slice s3.An s3.nn s3.cn, .int .u64 (Z.2.1.next : Int)] 25))) := B3.out.trans (C3.out.mono B3.out.size)
  generalize w3.alloc (.cells #[.int .u64 (Z.2.1.lsn : Int), .int .i64 Z.2.1.kind, .int .u64 (Z.2.1.txn : Int), .int .u64 (Z.2.1.back : Int), .int .i64 Z.2.1.page, .int .i64 Z.2.1.slot, .slice s3.Ao s3.no s3.co, .slice s3.An s3.nn s3.cn, .int .u64 (Z.2.1.next : Int)] 25) = w4 at R3 C3 hz3 R34 B4 ⊢
  generalize w3.heap.size = P3 at *
  clear HR3 C3 B3
  go_wp2_with fail
  refine (HRD.out w4 B4.out).mono ?_
  rintro e w5 ⟨s5, rfl, hr5, hb5⟩
  have R5 := Lib.hid (R3.out.below hb5 (by omega))
  have R35 := Lib.hid ((R34.out.more hz3).below hb5)
  have HR5 := Lib.hid hr5
  have B5 := Lib.hid (B4.out.trans (hb5.mono B4.out.size))
  have hz5 : P3 + 1 ≤ w5.heap.size := Nat.le_trans hz3 hb5.size
  have HW4 := Lib.hid hb5.size
  clear hr5 hb5 R3 R34 B4 hz3
  go_upto_region 7 with fail
  have R6 : Hid (Row (w5.alloc (.cells #[.int .u64 (Z.2.1.lsn : Int), .int .i64 Z.2.1.kind, .int .u64 (Z.2.1.txn : Int), .int .u64 (Z.2.1.back : Int), .int .i64 Z.2.1.page, .int .i64 Z.2.1.slot, .slice s5.Ao s5.no s5.co, .slice s5.An s5.nn s5.cn, .int .u64 (Z.2.1.next : Int)] 25)) w5.heap.size 25 (rcs Z.2.1 s5)) := Row.new w5 _ _
  have C6 : Hid (Below w5.heap.size w5 (w5.alloc (.cells #[.int .u64 (Z.2.1.lsn : Int), .int .i64 Z.2.1.kind, .int .u64 (Z.2.1.txn : Int), .int .u64 (Z.2.1.back : Int), .int .i64 Z.2.1.page, .int .i64 Z.2.1.slot, .slice s5.Ao s5.no s5.co, .slice s5.An s5.nn s5.cn, .int .u64 (Z.2.1.next : Int)] 25))) := (Below.refl _ _).alloc (Nat.le_refl _) _
  generalize w5.alloc (.cells #[.int .u64 (Z.2.1.lsn : Int), .int .i64 Z.2.1.kind, .int .u64 (Z.2.1.txn : Int), .int .u64 (Z.2.1.back : Int), .int .i64 Z.2.1.page, .int .i64 Z.2.1.slot, .slice s5.Ao s5.no s5.co, .slice s5.An s5.nn s5.cn, .int .u64 (Z.2.1.next : Int)] 25) = w6 at R6 C6 ⊢
  have R36 := Lib.hid (R5.out.below C6.out (by omega))
  have HA6 := Lib.hid (((R35.out.more HW4.out).below C6.out).more C6.out.size)
  have HB6 := Lib.hid ((HR5.out.below C6.out).more C6.out.size)
  have B6 := Lib.hid (B5.out.trans (C6.out.mono B5.out.size))
  generalize w5.heap.size = P5 at *
  clear R5 R35 HR5 B5 C6 HW4
  unfold rcs at R36 R6
  have ha0 : w6.cell? ⟨P3, 0, none⟩ = some (.int .u64 (Z.2.1.lsn : Int)) := R36.out.cell 0
  have ha1 : w6.cell? ⟨P3, 1, none⟩ = some (.int .i64 Z.2.1.kind) := R36.out.cell 1
  have ha2 : w6.cell? ⟨P3, 2, none⟩ = some (.int .u64 (Z.2.1.txn : Int)) := R36.out.cell 2
  have ha3 : w6.cell? ⟨P3, 3, none⟩ = some (.int .u64 (Z.2.1.back : Int)) := R36.out.cell 3
  have ha4 : w6.cell? ⟨P3, 4, none⟩ = some (.int .i64 Z.2.1.page) := R36.out.cell 4
  have ha5 : w6.cell? ⟨P3, 5, none⟩ = some (.int .i64 Z.2.1.slot) := R36.out.cell 5
  have ha6 : w6.cell? ⟨P3, 6, none⟩ = some (.slice s3.Ao s3.no s3.co) := R36.out.cell 6
  have ha7 : w6.cell? ⟨P3, 7, none⟩ = some (.slice s3.An s3.nn s3.cn) := R36.out.cell 7
  have ha8 : w6.cell? ⟨P3, 8, none⟩ = some (.int .u64 (Z.2.1.next : Int)) := R36.out.cell 8
  have hb0 : w6.cell? ⟨P5, 0, none⟩ = some (.int .u64 (Z.2.1.lsn : Int)) := R6.out.cell 0
  have hb1 : w6.cell? ⟨P5, 1, none⟩ = some (.int .i64 Z.2.1.kind) := R6.out.cell 1
  have hb2 : w6.cell? ⟨P5, 2, none⟩ = some (.int .u64 (Z.2.1.txn : Int)) := R6.out.cell 2
  have hb3 : w6.cell? ⟨P5, 3, none⟩ = some (.int .u64 (Z.2.1.back : Int)) := R6.out.cell 3
  have hb4 : w6.cell? ⟨P5, 4, none⟩ = some (.int .i64 Z.2.1.page) := R6.out.cell 4
  have hb5 : w6.cell? ⟨P5, 5, none⟩ = some (.int .i64 Z.2.1.slot) := R6.out.cell 5
  have hb6 : w6.cell? ⟨P5, 6, none⟩ = some (.slice s5.Ao s5.no s5.co) := R6.out.cell 6
  have hb7 : w6.cell? ⟨P5, 7, none⟩ = some (.slice s5.An s5.nn s5.cn) := R6.out.cell 7
  have hb8 : w6.cell? ⟨P5, 8, none⟩ = some (.int .u64 (Z.2.1.next : Int)) := R6.out.cell 8
  go_wp2_with fail
  refine (same_ref Z.2.1 Z.2.1 s3 s5 w6.heap.size w6 HA6.out HB6.out (Nat.le_refl _)).mono ?_
  rintro e w7 ⟨rfl, hb7⟩
  have B7 := Lib.hid (B6.out.trans (hb7.mono B6.out.size))
  clear hb7
  rw [same_self]
  go_wp2
  go_ret
  exact ⟨rfl, B7.out⟩

theorem resT_RecordDecodes : Try.f4.resultTypes = #[4] := by kernel_rfl
set_option maxRecDepth 100000 in
theorem lifted_RecordDecodes (os : Os) (started : os.Started) (H : Type) (enc : TypeId × Value → H) :
    ReturnsInHanded {} Try.checked os 4 .any (Rows.recordDecodesSpec.pre6 enc Try.prog Try.f4 Rows.recordDecodesRow.domain false) (Rows.recordDecodesSpec.post enc Try.prog Try.f4 false true false false) := by
  refine Lift.law_lift (C := Try.checked) (s := Rows.recordDecodesSpec) (tb := 4) own laidOut started (by kernel_rfl) Try.func4
    (ChangeSpec.witness6 (enc := enc) (C := Try.checked) false ⟨#[], #[.slice none 0 0], []⟩ 8 (by kernel_rfl) (by kernel_rfl) (by kernel_rfl) (by kernel_rfl))
    rfl resT_RecordDecodes Try.underlying4 (by
      have hr : ∀ t ∈ ([23] : List TypeId), Try.prog.readableRec t = true ∧ t < Try.prog.types.size := by
        intro t ht
        simp only [List.mem_cons, List.not_mem_nil, or_false] at ht
        rcases ht with rfl <;> exact ⟨by kernel_rfl, of_decide_eq_true (by kernel_rfl)⟩
      intro t ht
      exact hr t (by
        have ht' : t ∈ Try.f4.params.toList := ht
        rw [Try.params4] at ht'
        exact ht')) ?_
  intro W base args ds p hval0 hA0 hsz0
  have hval : ∀ (j : Nat) t v, Try.f4.params[j]? = some t → args[j]? = some v → Value.okWide Try.prog W .any base t v := hval0
  have hA : DataW.TrodAll enc Try.prog W 0 (fun _ => true) true Try.f4.params.toList args.toList ds p := hA0
  have hsz : (DataW.weightsEach Try.prog Try.f4.params.toList ds).all (· ≤ reachBytes) = true := hsz0
  clear hval0 hA0 hsz0
  rw [Try.params4] at hA hval hsz
  obtain ⟨v0, vs0, d0, ds0, p0, q0, hargs, rfl, rfl, h0, r0⟩ := trodAll_cons hA
  obtain ⟨rfl, rfl, rfl⟩ := trodAll_nil r0
  obtain rfl : args = #[v0] := by cases args; simp_all
  obtain ⟨A0, len0, cap0, l0, rfl, hl0, hlc0, hcm0, hn0, hb0, hd0⟩ := Lift.open_bytes Try.underlying23 Try.underlying5 (by kernel_rfl) (hval 0 23 v0 rfl rfl) h0
  have hc0 : cap0 ≤ 140737488351232 := Lift.bytes_reach bytes1 hsz (j := 0) rfl rfl Try.underlying23 hd0
  exact ⟨rfl, dec_walk A0 l0 len0 cap0 W hl0 hlc0 hc0 hn0 hb0⟩

theorem proved_RecordDecodes : Rows.RecordDecodesSaid :=
  OpenClaim.holds_of_wide 4 Try.f4 rfl rfl rfl rfl rfl rfl rfl ⟨rfl, rfl, rfl, rfl, rfl⟩ rfl rfl rfl rfl rfl (by kernel_rfl) Try.func4 (by kernel_rfl)
    (of_decide_eq_true (by kernel_rfl)) (by unfold Func.isWrapper; first | (rw [if_pos (by decide +kernel)]; kernel_rfl) | (rw [if_neg (by decide +kernel)]; exact ⟨rfl, rfl⟩))
    (fun os started H enc _ => lifted_RecordDecodes os started H enc)
end Go.Proofs.Ytgejjempllcjjaa.RecDec
