/-
  SumSeals: whatever bytes are sealed as the reference seals them. No condition.
-/
import Derived.Test.YtbankkjfedgnnaaSum4
import Derived.Test.YtbankkjfedgnnaaLift
namespace Go.Proofs.Ytbankkjfedgnnaa.SumSeals
open Go.ChangeShapes Go.WideShapes Go.ChangeAt Go.RowKit Go.Proofs.Ytbankkjfedgnnaa.Wd Go.Proofs.Ytbankkjfedgnnaa.Oct Go.Proofs.Ytbankkjfedgnnaa.Sm Go.Proofs.Ytbankkjfedgnnaa.Sum

theorem own : ownKnob Try.prog.godebug = none := by kernel_rfl
theorem laidOut : laidOutB Try.prog = true := by kernel_rfl
theorem bytes1 : Try.prog.bytesOf 5 = 1 := by kernel_rfl

set_option maxHeartbeats 400000 in
theorem walk (A : Option Addr) (n c : Nat) (l : List UInt8) (w : World) (h1 : l.length = n) (hnc : n ≤ c) (hm : c ≤ 140737488351232) (b1 : Bs w w.heap.size A l) (hA : A = none → c = 0) :
    Calls Try.prog 4 #[.slice A n c] w fun e w' => e = .returned (.bool true) ∧ Below w.heap.size w w' := by
  have H1 := Lib.hid h1
  have HA1 := Lib.hid hA
  clear h1 hA
  have hB : ∀ w', Below w.heap.size w w' → Bs w' w'.heap.size A l := fun w' h => (b1.below h).more h.size
  have HB := Lib.hid hB
  clear hB b1
  go_enter Try.func4, Try.ntmps4
  go_wp2_with fail
  refine (wakes_any _).mono ?_
  rintro e w1 ⟨rfl, hb1⟩
  have B1 := Lib.hid hb1
  clear hb1
  by_cases hbig : 20000 < n
  · go_wp2
    go_ret
    exact ⟨rfl, B1.out⟩
  go_wp2_with fail
  refine (both_any A none l [] c 0 n 0 w1 H1.out rfl (by omega) (HB.out _ B1.out) (Bs.nil _ _ _)).mono ?_
  rintro e w2 ⟨g, q, rfl, hl, hg, hrow, hb⟩
  rw [List.append_nil] at hl hrow
  obtain rfl : q = n := by have := hl.out; have := H1.out; omega
  have B2 := Lib.hid (B1.out.trans (hb.mono B1.out.size))
  have HG : Hid (∀ w', Below w2.heap.size w2 w' → Bs w' w'.heap.size (some ⟨g, 0, none⟩) l) := (show ∀ _, _ from fun w' h => (((hrow.bs hrow.lt : Bs w2 w2.heap.size (some ⟨g, 0, none⟩) l)).below h).more h.size)
  have N2 := Lib.hid (Below.refl w2.heap.size w2)
  clear hl hb hrow
  go_wp2_with fail
  refine (Seal16_any A l c q w2 H1.out (by omega) (HB.out _ B2.out)).mono ?_
  rintro e w3 ⟨g16, m16, rfl, hl, hg, hrow, hb⟩
  have HL16 := Lib.hid hl.out
  have B3 := Lib.hid (B2.out.trans (hb.mono B2.out.size))
  have N3 := Lib.hid (N2.out.trans (hb.mono N2.out.size))
  have HG16 : Hid (Bs w3 w3.heap.size (some ⟨g16, 0, none⟩) (sealed 33800 2 l)) := hrow.bs hrow.lt
  clear hl hb hrow
  have hm16 : m16 ≤ 140737488355320 := by have := HL16.out; rw [sealed_length, H1.out] at this; omega
  go_wp2_with fail
  refine (rseal16_any (some ⟨g, 0, none⟩) l q q w3 H1.out (by omega) (HG.out _ N3.out)).mono ?_
  rintro e w4 ⟨A16, r16, c16, rfl, hl, hrc, hA, hbs, hb⟩
  have B4 := Lib.hid (B3.out.trans (hb.mono B3.out.size))
  have N4 := Lib.hid (N3.out.trans (hb.mono N3.out.size))
  have HM16 := Lib.hid hl.out
  have HA16 := Lib.hid hA
  have HX := Lib.hid ((HG16.out.below hb).more hb.size)
  have HY := Lib.hid hbs
  clear hl hA hbs hb
  have HE := Lib.hid (same_n (some ⟨g16, 0, none⟩) A16 (sealed 33800 2 l) (sealed 33800 2 l) m16 c16 m16 r16 w4 HL16.out HM16.out (by omega) _ _ HX.out HY.out)
  rw [decide_eq_true rfl] at HE
  go_wp2_with fail
  refine (HE.out).mono ?_
  rintro e w5 ⟨rfl, hst⟩
  have B5 := Lib.hid (below_still B4.out hst)
  have N5 := Lib.hid (below_still N4.out hst)
  clear hst HE HX HY
  go_wp2_with fail
  refine (Seal32_any A l c q w5 H1.out (by omega) (HB.out _ B5.out)).mono ?_
  rintro e w6 ⟨g32, m32, rfl, hl, hg, hrow, hb⟩
  have HL32 := Lib.hid hl.out
  have B6 := Lib.hid (B5.out.trans (hb.mono B5.out.size))
  have N6 := Lib.hid (N5.out.trans (hb.mono N5.out.size))
  have HG32 : Hid (Bs w6 w6.heap.size (some ⟨g32, 0, none⟩) (sealed 2197175160 4 l)) := hrow.bs hrow.lt
  clear hl hb hrow
  have hm32 : m32 ≤ 140737488355320 := by have := HL32.out; rw [sealed_length, H1.out] at this; omega
  go_wp2_with fail
  refine (rseal32_any (some ⟨g, 0, none⟩) l q q w6 H1.out (by omega) (HG.out _ N6.out)).mono ?_
  rintro e w7 ⟨A32, r32, c32, rfl, hl, hrc, hA, hbs, hb⟩
  have B7 := Lib.hid (B6.out.trans (hb.mono B6.out.size))
  have N7 := Lib.hid (N6.out.trans (hb.mono N6.out.size))
  have HM32 := Lib.hid hl.out
  have HA32 := Lib.hid hA
  have HX := Lib.hid ((HG32.out.below hb).more hb.size)
  have HY := Lib.hid hbs
  clear hl hA hbs hb
  have HE := Lib.hid (same_n (some ⟨g32, 0, none⟩) A32 (sealed 2197175160 4 l) (sealed 2197175160 4 l) m32 c32 m32 r32 w7 HL32.out HM32.out (by omega) _ _ HX.out HY.out)
  rw [decide_eq_true rfl] at HE
  go_wp2_with fail
  refine (HE.out).mono ?_
  rintro e w8 ⟨rfl, hst⟩
  have B8 := Lib.hid (below_still B7.out hst)
  have N8 := Lib.hid (below_still N7.out hst)
  clear hst HE HX HY
  have HE := Lib.hid (same_n A (some ⟨g, 0, none⟩) l l c q q q w8 H1.out H1.out (by omega) _ _ (HB.out _ B8.out) (HG.out _ N8.out))
  rw [decide_eq_true rfl] at HE
  go_wp2_with fail
  refine (HE.out).mono ?_
  rintro e w9 ⟨rfl, hst⟩
  have B9 := Lib.hid (below_still B8.out hst)
  clear hst HE
  go_wp2
  go_ret
  exact ⟨rfl, B9.out⟩

theorem resT_SumSeals : Try.f4.resultTypes = #[4] := by kernel_rfl
set_option maxRecDepth 100000 in
theorem lifted_SumSeals (os : Os) (started : os.Started) (H : Type) (enc : TypeId × Value → H) :
    ReturnsInHanded {} Try.checked os 4 .any (Rows.sumSealsSpec.pre6 enc Try.prog Try.f4 Rows.sumSealsRow.domain false) (Rows.sumSealsSpec.post enc Try.prog Try.f4 false true false false) := by
  refine Lift.law_lift (C := Try.checked) (s := Rows.sumSealsSpec) (tb := 4) own laidOut started (by kernel_rfl) Try.func4
    (ChangeSpec.witness6 (enc := enc) (C := Try.checked) false ⟨#[], #[.slice none 0 0], []⟩ 8 (by kernel_rfl) (by kernel_rfl) (by kernel_rfl) (by kernel_rfl))
    rfl resT_SumSeals Try.underlying4 (by
      have hr : ∀ t ∈ ([22] : List TypeId), Try.prog.readableRec t = true ∧ t < Try.prog.types.size := by
        intro t ht
        simp only [List.mem_cons, List.not_mem_nil, or_false] at ht
        rcases ht with rfl <;> exact ⟨by kernel_rfl, of_decide_eq_true (by kernel_rfl)⟩
      intro t ht
      exact hr t (by
        have ht' : t ∈ Try.f4.params.toList := ht
        rw [Try.params4] at ht'
        exact ht')) ?_
  intro W base args ds p hval0 hA0 hsz0
  have hval : ∀ (j : Nat) t v, Try.f4.params[j]? = some t → args[j]? = some v → Value.okWide Try.prog W .any base t v := hval0
  have hA : DataW.TrodAll enc Try.prog W 0 (fun _ => true) true Try.f4.params.toList args.toList ds p := hA0
  have hsz : (DataW.weightsEach Try.prog Try.f4.params.toList ds).all (· ≤ reachBytes) = true := hsz0
  clear hval0 hA0 hsz0
  rw [Try.params4] at hA hval hsz
  obtain ⟨v0, vs0, d0, ds0, p0, q0, hargs, rfl, rfl, h0, r0⟩ := trodAll_cons hA
  obtain ⟨rfl, rfl, rfl⟩ := trodAll_nil r0
  obtain rfl : args = #[v0] := by cases args; simp_all
  obtain ⟨A0, len0, cap0, l0, rfl, hl0, hlc0, hcm0, hn0, hb0, hd0⟩ := Lift.open_bytes Try.underlying22 Try.underlying5 (by kernel_rfl) (hval 0 22 v0 rfl rfl) h0
  have hc0 : cap0 ≤ 140737488351232 := Lift.bytes_reach bytes1 hsz (j := 0) rfl rfl Try.underlying22 hd0
  exact ⟨rfl, walk A0 len0 cap0 l0 W hl0 hlc0 hc0 hb0 hn0⟩

theorem proved_SumSeals : Rows.SumSealsSaid :=
  OpenClaim.holds_of_wide 4 Try.f4 rfl rfl rfl rfl rfl rfl rfl ⟨rfl, rfl, rfl, rfl, rfl⟩ rfl rfl rfl rfl rfl (by kernel_rfl) Try.func4 (by kernel_rfl)
    (of_decide_eq_true (by kernel_rfl)) (by unfold Func.isWrapper; first | (rw [if_pos (by decide +kernel)]; kernel_rfl) | (rw [if_neg (by decide +kernel)]; exact ⟨rfl, rfl⟩))
    (fun os started H enc _ => lifted_SumSeals os started H enc)
end Go.Proofs.Ytbankkjfedgnnaa.SumSeals
