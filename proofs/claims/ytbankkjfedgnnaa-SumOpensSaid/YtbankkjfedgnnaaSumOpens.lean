/-
  SumOpens: whatever bytes are opened, or refused, as the reference says. No condition.
-/
import Derived.Test.YtbankkjfedgnnaaSum4
import Derived.Test.YtbankkjfedgnnaaLift
namespace Go.Proofs.Ytbankkjfedgnnaa.SumOpens
open Go.ChangeShapes Go.WideShapes Go.ChangeAt Go.RowKit Go.Proofs.Ytbankkjfedgnnaa.Wd Go.Proofs.Ytbankkjfedgnnaa.Oct Go.Proofs.Ytbankkjfedgnnaa.Sm Go.Proofs.Ytbankkjfedgnnaa.Sum

theorem own : ownKnob Try.prog.godebug = none := by kernel_rfl
theorem laidOut : laidOutB Try.prog = true := by kernel_rfl
theorem bytes1 : Try.prog.bytesOf 5 = 1 := by kernel_rfl

set_option maxHeartbeats 400000 in
theorem walk (A : Option Addr) (n c : Nat) (l : List UInt8) (w : World) (h1 : l.length = n) (hnc : n ≤ c) (hm : c ≤ 140737488351232) (b1 : Bs w w.heap.size A l) (hA : A = none → c = 0) :
    Calls Try.prog 5 #[.slice A n c] w fun e w' => e = .returned (.bool true) ∧ Below w.heap.size w w' := by
  have H1 := Lib.hid h1
  have HA1 := Lib.hid hA
  clear h1 hA
  have hB : ∀ w', Below w.heap.size w w' → Bs w' w'.heap.size A l := fun w' h => (b1.below h).more h.size
  have HB := Lib.hid hB
  clear hB b1
  go_enter Try.func5, Try.ntmps5
  go_wp2_with fail
  refine (wakes_any _).mono ?_
  rintro e w1 ⟨rfl, hb1⟩
  have B1 := Lib.hid hb1
  clear hb1
  by_cases hbig : 20000 < n
  · go_wp2
    go_ret
    exact ⟨rfl, B1.out⟩
  go_wp2_with fail
  refine (Open16_any A l c n w1 H1.out hnc (by omega) (HB.out _ B1.out)).mono ?_
  rintro e w2 ⟨A16, q16, c16, l16, e16, rfl, hl, hmc, hA, hbs, hb, hr⟩
  have B2 := Lib.hid (B1.out.trans (hb.mono B1.out.size))
  have N16 := Lib.hid (Below.refl w2.heap.size w2)
  have HM16 := Lib.hid hl.out
  have HS16 : Hid (∀ w', Below w2.heap.size w2 w' → Bs w' w'.heap.size A16 l16) := (show ∀ _, _ from fun w' h => (hbs.below h).more h.size)
  have HR16 := Lib.hid hr.out
  skip
  clear hl hA hbs hb hr
  go_wp2_with fail
  refine (Open32_any A l c n w2 H1.out hnc (by omega) (HB.out _ B2.out)).mono ?_
  rintro e w3 ⟨A32, q32, c32, l32, e32, rfl, hl, hmc, hA, hbs, hb, hr⟩
  have B3 := Lib.hid (B2.out.trans (hb.mono B2.out.size))
  have N32 := Lib.hid (Below.refl w3.heap.size w3)
  have HM32 := Lib.hid hl.out
  have HS32 : Hid (∀ w', Below w3.heap.size w3 w' → Bs w' w'.heap.size A32 l32) := (show ∀ _, _ from fun w' h => (hbs.below h).more h.size)
  have HR32 := Lib.hid hr.out
  have N16 := Lib.hid hb
  clear hl hA hbs hb hr
  go_wp2_with fail
  refine (opened16_any A A16 l l16 c c16 n q16 e16 w3 H1.out hnc (by omega) (HB.out _ B3.out) HM16.out (HS16.out _ N16.out) HR16.out).mono ?_
  rintro e w4 ⟨rfl, hb⟩
  have B4 := Lib.hid (B3.out.trans (hb.mono B3.out.size))
  have N4 := Lib.hid hb
  clear hb
  go_wp2_with fail
  refine (opened32_any A A32 l l32 c c32 n q32 e32 w4 H1.out hnc (by omega) (HB.out _ B4.out) HM32.out (HS32.out _ N4.out) HR32.out).mono ?_
  rintro e w5 ⟨rfl, hb⟩
  have B5 := Lib.hid (B4.out.trans (hb.mono B4.out.size))
  clear hb
  go_wp2
  go_ret
  exact ⟨rfl, B5.out⟩

theorem resT_SumOpens : Try.f5.resultTypes = #[4] := by kernel_rfl
set_option maxRecDepth 100000 in
theorem lifted_SumOpens (os : Os) (started : os.Started) (H : Type) (enc : TypeId × Value → H) :
    ReturnsInHanded {} Try.checked os 5 .any (Rows.sumOpensSpec.pre6 enc Try.prog Try.f5 Rows.sumOpensRow.domain false) (Rows.sumOpensSpec.post enc Try.prog Try.f5 false true false false) := by
  refine Lift.law_lift (C := Try.checked) (s := Rows.sumOpensSpec) (tb := 4) own laidOut started (by kernel_rfl) Try.func5
    (ChangeSpec.witness6 (enc := enc) (C := Try.checked) false ⟨#[], #[.slice none 0 0], []⟩ 8 (by kernel_rfl) (by kernel_rfl) (by kernel_rfl) (by kernel_rfl))
    rfl resT_SumOpens Try.underlying4 (by
      have hr : ∀ t ∈ ([22] : List TypeId), Try.prog.readableRec t = true ∧ t < Try.prog.types.size := by
        intro t ht
        simp only [List.mem_cons, List.not_mem_nil, or_false] at ht
        rcases ht with rfl <;> exact ⟨by kernel_rfl, of_decide_eq_true (by kernel_rfl)⟩
      intro t ht
      exact hr t (by
        have ht' : t ∈ Try.f5.params.toList := ht
        rw [Try.params5] at ht'
        exact ht')) ?_
  intro W base args ds p hval0 hA0 hsz0
  have hval : ∀ (j : Nat) t v, Try.f5.params[j]? = some t → args[j]? = some v → Value.okWide Try.prog W .any base t v := hval0
  have hA : DataW.TrodAll enc Try.prog W 0 (fun _ => true) true Try.f5.params.toList args.toList ds p := hA0
  have hsz : (DataW.weightsEach Try.prog Try.f5.params.toList ds).all (· ≤ reachBytes) = true := hsz0
  clear hval0 hA0 hsz0
  rw [Try.params5] at hA hval hsz
  obtain ⟨v0, vs0, d0, ds0, p0, q0, hargs, rfl, rfl, h0, r0⟩ := trodAll_cons hA
  obtain ⟨rfl, rfl, rfl⟩ := trodAll_nil r0
  obtain rfl : args = #[v0] := by cases args; simp_all
  obtain ⟨A0, len0, cap0, l0, rfl, hl0, hlc0, hcm0, hn0, hb0, hd0⟩ := Lift.open_bytes Try.underlying22 Try.underlying5 (by kernel_rfl) (hval 0 22 v0 rfl rfl) h0
  have hc0 : cap0 ≤ 140737488351232 := Lift.bytes_reach bytes1 hsz (j := 0) rfl rfl Try.underlying22 hd0
  exact ⟨rfl, walk A0 len0 cap0 l0 W hl0 hlc0 hc0 hb0 hn0⟩

theorem proved_SumOpens : Rows.SumOpensSaid :=
  OpenClaim.holds_of_wide 5 Try.f5 rfl rfl rfl rfl rfl rfl rfl ⟨rfl, rfl, rfl, rfl, rfl⟩ rfl rfl rfl rfl rfl (by kernel_rfl) Try.func5 (by kernel_rfl)
    (of_decide_eq_true (by kernel_rfl)) (by unfold Func.isWrapper; first | (rw [if_pos (by decide +kernel)]; kernel_rfl) | (rw [if_neg (by decide +kernel)]; exact ⟨rfl, rfl⟩))
    (fun os started H enc _ => lifted_SumOpens os started H enc)
end Go.Proofs.Ytbankkjfedgnnaa.SumOpens
