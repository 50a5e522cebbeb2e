/-
  RecordReads: whatever bytes are a row of records, or are refused, as the document says. No condition.
-/
import Derived.Test.YtnljhopikjkflaaRec25
import Derived.Test.YtnljhopikjkflaaRecO
import Derived.Great.BuildSlice
import Derived.Deep.SlicePairs
namespace Go.Proofs.Ytnljhopikjkflaa.RecRds
set_option maxRecDepth 100000
open Go.RowKit Go.Proofs.Ytnljhopikjkflaa.Wd Go.Proofs.Ytnljhopikjkflaa.Oct Go.Proofs.Ytnljhopikjkflaa.Dsk Go.Proofs.Ytnljhopikjkflaa.Rec Go.ChangeShapes Go.WideShapes Go.ChangeAt

theorem own : ownKnob Try.prog.godebug = none := by kernel_rfl
theorem laidOut : laidOutB Try.prog = true := by kernel_rfl
theorem bytes1 : Try.prog.bytesOf 5 = 1 := by kernel_rfl
theorem decRowM_len (l : List UInt8) : (decRowM l).2.length ≤ 64 := by
  unfold decRowM
  split
  · simp
  · rename_i h1
    split
    · simp
    · rename_i h2
      split
      · simp
      · rename_i h3
        split
        · simp
        · obtain ⟨a, p, rs, e⟩ : ∃ a p rs, rdE l (num (l.take 2)) = (a, p, rs) := ⟨_, _, _, rfl⟩
          rw [e] at h3 ⊢
          obtain rfl : a = 0 := by simpa using h3
          have := (rdE_seg (by omega) e).1
          show rs.length ≤ 64
          omega

set_option maxHeartbeats 4000000 in
theorem rds_walk (A : Option Addr) (l : List UInt8) (n c : Nat) (w : World) (hl : l.length = n) (hnc : n ≤ c) (hc : c ≤ 140737488351232) (hA : A = none → c = 0) (hb : Bs w w.heap.size A l) :
    Calls Try.prog 4 #[.slice A n c] w fun e w' => e = .returned (.bool true) ∧ Below w.heap.size w w' := by
  obtain ⟨i0, hi, hz0, hz1, hz2⟩ := info_parts info5
  have HL := Lib.hid hl
  have HA := Lib.hid hA
  have HB := Lib.hid hb
  clear hl hA hb
  go_enter Try.func4, Try.ntmps4
  go_wp2_with fail
  refine (wakes_any _).mono ?_
  rintro e w1 ⟨rfl, hb1⟩
  have B1 := Lib.hid hb1
  clear hb1
  by_cases hbig : 20000 < n
  · have hbi : (20000 : Int) < (n : Int) := by omega
    go_wp2_with fail
    go_ret
    exact ⟨rfl, B1.out⟩
  have hbi : ¬ (20000 : Int) < (n : Int) := by omega
  have HDC : Hid (∀ (A2 : Option Addr) (c2 : Nat) (W : World), Bs W W.heap.size A2 l → (A2 = none → c2 = 0) → Calls Try.prog 18 #[.slice A2 n c2] W (DecR W l)) := (show ∀ A2 c2 W, _ from fun A2 c2 W h h2 => decodeRow_any A2 n c2 l W HL.out (by omega) h h2)
  have HRD : Hid (∀ (W : World), Below w.heap.size w W → Calls Try.prog 19 #[.slice A n c] W (DecR W l)) := (show ∀ W, _ from fun W h => refDecodeRow_any A n c l W HL.out (by omega) hnc hc ((HB.out.below h).more h.size))
  unfold DecR at HDC HRD
  have HLE := Lib.hid (decRowM_len l)
  obtain ⟨Z, hZ⟩ : ∃ Z, Z = decRowM l := ⟨_, rfl⟩
  rw [← hZ] at HDC HRD HLE
  clear hZ
  obtain ⟨E, rs⟩ := Z
  dsimp only at HDC HRD HLE
  go_wp2_with (first
      | (at_builtin; go_loud (refine wpList_append_bs (o := ⟨some 15, _, _, _, _, _⟩) rfl (.tmp 13) (.tmp 14) 25 rfl w1.heap.size 5 i0 (.int .u8 0) Try.underlying25 hi hz0 hz1 hz2 rfl (.slice (some ⟨w1.heap.size, 0, none⟩) 0 0) 0 (bv []) rfl (Go.Proofs.Ytnljhopikjkflaa.Rec.Own.of_row (l := []) (Row.new w1 _ _) (Nat.le_refl _) rfl (Nat.zero_le _)) A n c l rfl HL.out w1.heap.size (((HB.out.below B1.out).more B1.out.size).alloc (Nat.le_refl _) _) HA.out (by omega) (by simp) ?_; intro v2 w2 hown2 hg2; have HG2 := Lib.hid (((Below.refl _ _).alloc (Nat.le_refl _) _).trans (below_own hg2 (fun k hk => by cases hk; exact Nat.le_refl _) (by simp))); have HO2 : Hid (Go.Proofs.Ytnljhopikjkflaa.Rec.Own w2 w1.heap.size v2 l) := Lib.hid (show Go.Proofs.Ytnljhopikjkflaa.Rec.Own w2 w1.heap.size v2 l from (by have hh := hown2; rw [show bv ([] : List UInt8) = [] from rfl, List.nil_append, Nat.zero_add] at hh; unfold Go.Proofs.Ytnljhopikjkflaa.Rec.Own; rw [HL.out]; exact hh)); clear hown2 hg2; obtain ⟨A2, n2, c2, rfl, h1, h2, h3, h4, h5⟩ := HO2.out.open)))
  have HA2 := Lib.hid h4
  have HB2 := Lib.hid h5
  obtain rfl : n2 = n := by have := HL.out; omega
  clear h1 h2 h3 h4 h5 HO2
  refine (HDC.out A2 c2 w2 HB2.out HA2.out).mono ?_
  rintro e w3 ⟨v3, ys, rfl, hr3, he3, hb3⟩
  have B3 := Lib.hid (B1.out.trans ((HG2.out.trans (hb3.mono HG2.out.size)).mono B1.out.size))
  have HR3 := Lib.hid hr3
  have HE3 := Lib.hid he3
  clear hr3 he3 hb3 HG2 HA2 HB2
  go_wp2_with fail
  refine (HRD.out w3 B3.out).mono ?_
  rintro e w4 ⟨v4, zs, rfl, hr4, he4, hb4⟩
  have B4 := Lib.hid (B3.out.trans (hb4.mono B3.out.size))
  obtain ⟨A3, c3, rfl, -, -, -, hl3⟩ := (HR3.out.below hb4).rl
  obtain ⟨A4, c4, rfl, -, -, -, hl4⟩ := hr4.rl
  have hyz : ys.length = zs.length := by
    have := congrArg List.length (HE3.out.trans he4.symm)
    rwa [List.length_map, List.length_map] at this
  have HSR := Lib.hid (sameRow_any A3 zs.length c3 ys A4 c4 zs w4 hyz (by have := HLE.out; rw [← he4, List.length_map] at this; omega) hl3 hl4 (HE3.out.trans he4.symm))
  rw [hyz]
  have hee : (E == E) = true := by simp
  clear hr4 he4 hb4 hl3 hl4 hyz HR3 HE3 B3 HDC HRD
  go_wp2_with fail
  refine HSR.out.mono ?_
  rintro e w5 ⟨rfl, hb5⟩
  have B5 := Lib.hid (B4.out.trans (hb5.mono B4.out.size))
  clear hb5 B4 HSR
  go_wp2
  go_ret
  exact ⟨rfl, B5.out⟩

theorem resT_RecordReads : Try.f4.resultTypes = #[4] := by kernel_rfl
set_option maxRecDepth 100000 in
theorem lifted_RecordReads (os : Os) (started : os.Started) (H : Type) (enc : TypeId × Value → H) :
    ReturnsInHanded {} Try.checked os 4 .any (Rows.recordReadsSpec.pre6 enc Try.prog Try.f4 Rows.recordReadsRow.domain false) (Rows.recordReadsSpec.post enc Try.prog Try.f4 false true false false) := by
  refine Lift.law_lift (C := Try.checked) (s := Rows.recordReadsSpec) (tb := 4) own laidOut started (by kernel_rfl) Try.func4
    (ChangeSpec.witness6 (enc := enc) (C := Try.checked) false ⟨#[], #[.slice none 0 0], []⟩ 8 (by kernel_rfl) (by kernel_rfl) (by kernel_rfl) (by kernel_rfl))
    rfl resT_RecordReads Try.underlying4 (by
      have hr : ∀ t ∈ ([25] : List TypeId), Try.prog.readableRec t = true ∧ t < Try.prog.types.size := by
        intro t ht
        simp only [List.mem_cons, List.not_mem_nil, or_false] at ht
        rcases ht with rfl <;> exact ⟨by kernel_rfl, of_decide_eq_true (by kernel_rfl)⟩
      intro t ht
      exact hr t (by
        have ht' : t ∈ Try.f4.params.toList := ht
        rw [Try.params4] at ht'
        exact ht')) ?_
  intro W base args ds p hval0 hA0 hsz0
  have hval : ∀ (j : Nat) t v, Try.f4.params[j]? = some t → args[j]? = some v → Value.okWide Try.prog W .any base t v := hval0
  have hA : DataW.TrodAll enc Try.prog W 0 (fun _ => true) true Try.f4.params.toList args.toList ds p := hA0
  have hsz : (DataW.weightsEach Try.prog Try.f4.params.toList ds).all (· ≤ reachBytes) = true := hsz0
  clear hval0 hA0 hsz0
  rw [Try.params4] at hA hval hsz
  obtain ⟨v0, vs0, d0, ds0, p0, q0, hargs, rfl, rfl, h0, r0⟩ := trodAll_cons hA
  obtain ⟨rfl, rfl, rfl⟩ := trodAll_nil r0
  obtain rfl : args = #[v0] := by cases args; simp_all
  obtain ⟨A0, len0, cap0, l0, rfl, hl0, hlc0, hcm0, hn0, hb0, hd0⟩ := Lift.open_bytes Try.underlying25 Try.underlying5 (by kernel_rfl) (hval 0 25 v0 rfl rfl) h0
  have hc0 : cap0 ≤ 140737488351232 := Lift.bytes_reach bytes1 hsz (j := 0) rfl rfl Try.underlying25 hd0
  exact ⟨rfl, rds_walk A0 l0 len0 cap0 W hl0 hlc0 hc0 hn0 hb0⟩

theorem proved_RecordReads : Rows.RecordReadsSaid :=
  OpenClaim.holds_of_wide 4 Try.f4 rfl rfl rfl rfl rfl rfl rfl ⟨rfl, rfl, rfl, rfl, rfl⟩ rfl rfl rfl rfl rfl (by kernel_rfl) Try.func4 (by kernel_rfl)
    (of_decide_eq_true (by kernel_rfl)) (by unfold Func.isWrapper; first | (rw [if_pos (by decide +kernel)]; kernel_rfl) | (rw [if_neg (by decide +kernel)]; exact ⟨rfl, rfl⟩))
    (fun os started H enc _ => lifted_RecordReads os started H enc)
end Go.Proofs.Ytnljhopikjkflaa.RecRds
