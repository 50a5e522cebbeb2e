/-
  SumBack: what was sealed is opened, and is as it was. No condition.
-/
import Derived.Test.YtbankkjfedgnnaaSum3
import Derived.Test.YtbankkjfedgnnaaLift
namespace Go.Proofs.Ytbankkjfedgnnaa.SumBack
open Go.ChangeShapes Go.WideShapes Go.ChangeAt Go.RowKit Go.Proofs.Ytbankkjfedgnnaa.Wd Go.Proofs.Ytbankkjfedgnnaa.Oct Go.Proofs.Ytbankkjfedgnnaa.Sm Go.Proofs.Ytbankkjfedgnnaa.Sum

theorem own : ownKnob Try.prog.godebug = none := by kernel_rfl
theorem laidOut : laidOutB Try.prog = true := by kernel_rfl
theorem bytes1 : Try.prog.bytesOf 5 = 1 := by kernel_rfl

theorem res_sealed {p n : Nat} (l : List UInt8) : res p n (sealed p n l) = (0, l) := by
  unfold res
  rw [if_neg (by rw [sealed_length]; omega), sealed_length, Nat.add_sub_cancel]
  have e : (sealed p n l).take l.length = l := by unfold sealed; rw [List.take_left]
  rw [e, if_pos rfl]
theorem walk (A : Option Addr) (n c : Nat) (l : List UInt8) (w : World) (h1 : l.length = n) (hnc : n ≤ c) (hm : c ≤ 140737488351232) (b1 : Bs w w.heap.size A l) (hA : A = none → c = 0) :
    Calls Try.prog 6 #[.slice A n c] w fun e w' => e = .returned (.bool true) ∧ Below w.heap.size w w' := by
  have H1 := Lib.hid h1
  have HA1 := Lib.hid hA
  clear h1 hA
  have hB : ∀ w', Below w.heap.size w w' → Bs w' w'.heap.size A l := fun w' h => (b1.below h).more h.size
  have HB := Lib.hid hB
  clear hB b1
  go_enter Try.func6, Try.ntmps6
  go_wp2_with fail
  refine (wakes_any _).mono ?_
  rintro e w1 ⟨rfl, hb1⟩
  have B1 := Lib.hid hb1
  clear hb1
  go_wp2_with fail
  refine (Seal16_any A l c n w1 H1.out (by omega) (HB.out _ B1.out)).mono ?_
  rintro e w2 ⟨g16, m16, rfl, hl, hg, hrow, hb⟩
  have HL16 := Lib.hid hl.out
  have B2 := Lib.hid (B1.out.trans (hb.mono B1.out.size))
  have N1 := Lib.hid hb
  have HG16 : Hid (Bs w2 w2.heap.size (some ⟨g16, 0, none⟩) (sealed 33800 2 l)) := hrow.bs hrow.lt
  clear hl hb hrow
  have hm16 : m16 ≤ 140737488355320 := by have := HL16.out; rw [sealed_length, H1.out] at this; omega
  go_wp2_with fail
  refine (Open16_any _ _ _ _ _ HL16.out (Nat.le_refl _) hm16 HG16.out).mono ?_
  rintro e w3 ⟨A16, q16, c16, l16, e16, rfl, hl, hmc, hA, hbs, hb, hr⟩
  have B3 := Lib.hid (B2.out.trans (hb.mono B2.out.size))
  have N2 := Lib.hid hb
  rw [res_sealed] at hr
  obtain ⟨rfl, rfl⟩ := Prod.mk.inj hr.out
  have HM16 := Lib.hid hl.out
  have HA16 := Lib.hid hA
  have HS16 := Lib.hid hbs
  clear hl hA hbs hb hr
  go_wp2_with fail
  refine (Seal32_any A l c n w3 H1.out (by omega) (HB.out _ B3.out)).mono ?_
  rintro e w4 ⟨g32, m32, rfl, hl, hg, hrow, hb⟩
  have HL32 := Lib.hid hl.out
  have B4 := Lib.hid (B3.out.trans (hb.mono B3.out.size))
  have N3 := Lib.hid hb
  have HG32 : Hid (Bs w4 w4.heap.size (some ⟨g32, 0, none⟩) (sealed 2197175160 4 l)) := hrow.bs hrow.lt
  clear hl hb hrow
  have hm32 : m32 ≤ 140737488355320 := by have := HL32.out; rw [sealed_length, H1.out] at this; omega
  go_wp2_with fail
  refine (Open32_any _ _ _ _ _ HL32.out (Nat.le_refl _) hm32 HG32.out).mono ?_
  rintro e w5 ⟨A32, q32, c32, l32, e32, rfl, hl, hmc, hA, hbs, hb, hr⟩
  have B5 := Lib.hid (B4.out.trans (hb.mono B4.out.size))
  have N4 := Lib.hid hb
  rw [res_sealed] at hr
  obtain ⟨rfl, rfl⟩ := Prod.mk.inj hr.out
  have HM32 := Lib.hid hl.out
  have HA32 := Lib.hid hA
  have HS32 := Lib.hid hbs
  clear hl hA hbs hb hr
  have X16 : Hid (Bs w5 w5.heap.size A16 l) := (((HS16.out.below N3.out).more N3.out.size).below N4.out).more N4.out.size
  have HE1 := Lib.hid (equal_n A16 A l l c16 c q16 n w5 HM16.out H1.out (by have := HM16.out; have := H1.out; omega) _ _ X16.out (HB.out _ B5.out))
  have HE2 := Lib.hid (equal_n A32 A l l c32 c q32 n w5 HM32.out H1.out (by have := HM32.out; have := H1.out; omega) _ _ HS32.out (HB.out _ B5.out))
  rw [decide_eq_true rfl] at HE1 HE2
  go_wp2_with fail
  refine (HE1.out).mono ?_
  rintro e w6 ⟨rfl, rfl⟩
  go_wp2_with fail
  refine (HE2.out).mono ?_
  rintro e w6 ⟨rfl, rfl⟩
  go_wp2
  go_ret
  exact ⟨rfl, B5.out⟩

theorem resT_SumBack : Try.f6.resultTypes = #[4] := by kernel_rfl
set_option maxRecDepth 100000 in
theorem lifted_SumBack (os : Os) (started : os.Started) (H : Type) (enc : TypeId × Value → H) :
    ReturnsInHanded {} Try.checked os 6 .any (Rows.sumBackSpec.pre6 enc Try.prog Try.f6 Rows.sumBackRow.domain false) (Rows.sumBackSpec.post enc Try.prog Try.f6 false true false false) := by
  refine Lift.law_lift (C := Try.checked) (s := Rows.sumBackSpec) (tb := 4) own laidOut started (by kernel_rfl) Try.func6
    (ChangeSpec.witness6 (enc := enc) (C := Try.checked) false ⟨#[], #[.slice none 0 0], []⟩ 8 (by kernel_rfl) (by kernel_rfl) (by kernel_rfl) (by kernel_rfl))
    rfl resT_SumBack Try.underlying4 (by
      have hr : ∀ t ∈ ([22] : List TypeId), Try.prog.readableRec t = true ∧ t < Try.prog.types.size := by
        intro t ht
        simp only [List.mem_cons, List.not_mem_nil, or_false] at ht
        rcases ht with rfl <;> exact ⟨by kernel_rfl, of_decide_eq_true (by kernel_rfl)⟩
      intro t ht
      exact hr t (by
        have ht' : t ∈ Try.f6.params.toList := ht
        rw [Try.params6] at ht'
        exact ht')) ?_
  intro W base args ds p hval0 hA0 hsz0
  have hval : ∀ (j : Nat) t v, Try.f6.params[j]? = some t → args[j]? = some v → Value.okWide Try.prog W .any base t v := hval0
  have hA : DataW.TrodAll enc Try.prog W 0 (fun _ => true) true Try.f6.params.toList args.toList ds p := hA0
  have hsz : (DataW.weightsEach Try.prog Try.f6.params.toList ds).all (· ≤ reachBytes) = true := hsz0
  clear hval0 hA0 hsz0
  rw [Try.params6] at hA hval hsz
  obtain ⟨v0, vs0, d0, ds0, p0, q0, hargs, rfl, rfl, h0, r0⟩ := trodAll_cons hA
  obtain ⟨rfl, rfl, rfl⟩ := trodAll_nil r0
  obtain rfl : args = #[v0] := by cases args; simp_all
  obtain ⟨A0, len0, cap0, l0, rfl, hl0, hlc0, hcm0, hn0, hb0, hd0⟩ := Lift.open_bytes Try.underlying22 Try.underlying5 (by kernel_rfl) (hval 0 22 v0 rfl rfl) h0
  have hc0 : cap0 ≤ 140737488351232 := Lift.bytes_reach bytes1 hsz (j := 0) rfl rfl Try.underlying22 hd0
  exact ⟨rfl, walk A0 len0 cap0 l0 W hl0 hlc0 hc0 hb0 hn0⟩

theorem proved_SumBack : Rows.SumBackSaid :=
  OpenClaim.holds_of_wide 6 Try.f6 rfl rfl rfl rfl rfl rfl rfl ⟨rfl, rfl, rfl, rfl, rfl⟩ rfl rfl rfl rfl rfl (by kernel_rfl) Try.func6 (by kernel_rfl)
    (of_decide_eq_true (by kernel_rfl)) (by unfold Func.isWrapper; first | (rw [if_pos (by decide +kernel)]; kernel_rfl) | (rw [if_neg (by decide +kernel)]; exact ⟨rfl, rfl⟩))
    (fun os started H enc _ => lifted_SumBack os started H enc)
end Go.Proofs.Ytbankkjfedgnnaa.SumBack
