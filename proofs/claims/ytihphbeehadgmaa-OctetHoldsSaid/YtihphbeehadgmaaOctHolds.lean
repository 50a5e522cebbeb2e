/-
  OctetHolds: bytes held against each other, and asked for noughts, as the document says. No condition.
-/
import Derived.Test.YtihphbeehadgmaaOct3
import Derived.Test.YtihphbeehadgmaaOct6
import Derived.Test.YtihphbeehadgmaaLift
namespace Go.Proofs.Ytihphbeehadgmaa.OctHolds
open Go.ChangeShapes Go.WideShapes Go.ChangeAt Go.RowKit Go.Proofs.Ytihphbeehadgmaa.Wd Go.Proofs.Ytihphbeehadgmaa.Oct

theorem own : ownKnob Try.prog.godebug = none := by kernel_rfl
theorem laidOut : laidOutB Try.prog = true := by kernel_rfl
theorem bytes1 : Try.prog.bytesOf 5 = 1 := by kernel_rfl

theorem all_snoc (l : List UInt8) (k : Nat) (h : k < l.length) : (l.take (k + 1)).all (· == 0) = ((l.take k).all (· == 0) && (l.getD k 0 == 0)) := by
  rw [List.take_succ_eq_append_getElem h, List.all_append]; simp [h]

set_option maxHeartbeats 1000000 in
theorem walk (A1 A2 : Option Addr) (n1 n2 c1 c2 : Nat) (l1 l2 : List UInt8) (w : World) (h1 : l1.length = n1) (h2 : l2.length = n2) (hn1 : n1 ≤ 140737488351232) (b1 : Bs w w.heap.size A1 l1) (b2 : Bs w w.heap.size A2 l2) (hA1 : A1 = none → c1 = 0) :
    Calls Try.prog 4 #[.slice A1 n1 c1, .slice A2 n2 c2] w fun e w' => e = .returned (.bool true) ∧ Below w.heap.size w w' := by
  obtain ⟨i0, hi, hz0, hz1, hz2⟩ := info_parts info5
  have H1 := Lib.hid h1
  have H2 := Lib.hid h2
  have HA1 := Lib.hid hA1
  clear h1 h2 hA1
  have hA : ∀ w', Below w.heap.size w w' → Bs w' w'.heap.size A1 l1 := fun w' h => (b1.below h).more h.size
  have hB : ∀ w', Below w.heap.size w w' → Bs w' w'.heap.size A2 l2 := fun w' h => (b2.below h).more h.size
  have HA := Lib.hid hA
  have HB := Lib.hid hB
  clear hA hB b1 b2
  have hd : ∃ d : Bool, decide (l1 = l2) = d := ⟨_, rfl⟩
  obtain ⟨d, hd⟩ := hd
  have HD := Lib.hid hd
  clear hd
  go_enter Try.func4, Try.ntmps4
  go_wp2_with fail
  refine (wakes_any _).mono ?_
  rintro e w1 ⟨rfl, hb1⟩
  have B1 := Lib.hid hb1
  clear hb1
  go_wp2_with fail
  go_loop [5, 12] (fun z i => ∃ (k : Nat) (b : Bool), k ≤ n1 ∧ i = .int .i64 k ∧ z = .bool b ∧ Hid (b = (l1.take k).all (· == 0))) (fun _ i => n1 - (intOf i).toNat)
  case atStart => exact ⟨0, true, by omega, rfl, rfl, (show _ = _ by simp)⟩
  case round =>
    obtain ⟨k, b, hk, rfl, rfl, hb⟩ := hrel
    by_cases hlt : k < n1
    · have hk' : k < l1.length := by rw [H1.out]; exact hlt
      obtain ⟨ba, oa, rfl, hba, hca⟩ := (HA.out _ B1.out) (by omega)
      have hx1 := hca k hk'
      have HT := Lib.hid (all_snoc l1 k hk')
      clear hca
      generalize l1.getD k 0 = x at hx1 HT
      cases b with
      | false =>
        go_wp2
        go_round
        case rel => exact ⟨k + 1, false, by omega, by go_num, rfl, (show _ = _ by rw [HT.out, ← hb.out]; rfl)⟩
        case measure => simp [intOf]; omega
      | true =>
        by_cases hx0 : x = 0
        · subst hx0
          go_wp2
          go_round
          case rel => exact ⟨k + 1, true, by omega, by go_num, rfl, (show _ = _ by rw [HT.out, ← hb.out]; rfl)⟩
          case measure => simp [intOf]; omega
        · have hxb : ((x.toNat : Int) == 0) = false := by rw [u8_beq0]; simp [hx0]
          have HX : Hid ((x == 0) = false) := (show _ = _ by simp [hx0])
          go_wp2
          go_round
          case rel => exact ⟨k + 1, false, by omega, by go_num, rfl, (show _ = _ by rw [HT.out, ← hb.out, HX.out]; rfl)⟩
          case measure => simp [intOf]; omega
    · obtain rfl : k = n1 := by omega
      have HZ : Hid (b = l1.all (· == 0)) := (show _ = _ by rw [hb.out, List.take_of_length_le (by rw [H1.out]; exact Nat.le_refl _)])
      clear hb
      go_wp2_with fail
      have e1 := equal_n A1 A2 l1 l2 c1 c2 k n2 w1 H1.out H2.out (by omega) _ _ (HA.out _ B1.out) (HB.out _ B1.out)
      rw [HD.out] at e1
      refine e1.mono ?_
      rintro e w2 ⟨rfl, rfl⟩
      clear e1
      go_wp2_with fail
      have e2 := same_n A1 A2 l1 l2 c1 c2 k n2 w1 H1.out H2.out (by omega) _ _ (HA.out _ B1.out) (HB.out _ B1.out)
      rw [HD.out] at e2
      refine e2.mono ?_
      rintro e w2 ⟨rfl, q, rfl⟩
      clear e2
      have hwq : w1.heap.size ≤ (w1.drewN q).heap.size := Nat.le_refl _
      have BQ := Lib.hid (below_still B1.out ⟨q, rfl⟩)
      have OW : Hid (((w1.drewN q).alloc (.cells #[] 5)).ownsRow w1.heap.size 5 1 (.slice (some ⟨w1.heap.size, 0, none⟩) 0 0) 0 []) := World.ownsRow_made (w1.drewN q) #[] 0 (Nat.le_refl _) (Nat.zero_le _) rfl
      have OB : Hid (Bs ((w1.drewN q).alloc (.cells #[] 5)) w1.heap.size A1 l1) := ((HA.out _ B1.out).drewN q).alloc (Nat.le_refl _) _
      have OS : w1.heap.size ≤ ((w1.drewN q).alloc (.cells #[] 5)).heap.size := by simp
      go_wp2_with (at_builtin; refine wpList_append_bs (by rfl) _ _ 22 rfl w1.heap.size 5 i0 (.int .u8 0) Try.underlying22 hi hz0 hz1 hz2 rfl (.slice (some ⟨w1.heap.size, 0, none⟩) 0 0) 0 [] rfl OW.out A1 k c1 l1 rfl H1.out w1.heap.size OB.out HA1.out (by omega) OS ?_; intro v w2 hown2 hg2; obtain ⟨A3, c3, rfl, hl3, hn3, hc3, hA3, hbs3, _⟩ := own_bs (l := l1) (by simpa using hown2); clear hown2; have HL3 := Lib.hid hl3; have HA3 := Lib.hid hA3; clear hl3 hA3)
      have B2 : Hid (Below w.heap.size w w2) := Lib.hid ((BQ.out.alloc (by simpa using B1.out.size) _).grown hg2 (by have := B1.out.size; simp; omega) (fun j hj => by have := B1.out.size; simp [Value.ownBlock] at hj; omega))
      clear hg2
      have e3 := equal_n A1 A3 l1 l1 c1 c3 k k w2 H1.out H1.out (by omega) _ _ (HA.out _ B2.out) hbs3
      rw [decide_eq_true rfl] at e3
      refine e3.mono ?_
      rintro e w3 ⟨rfl, rfl⟩
      clear e3
      go_wp2_with fail
      refine (zero_any A1 l1 c1 k w2 H1.out.symm (by unfold maxLen; omega) _ (HA.out _ B2.out)).mono ?_
      rintro e w3 ⟨rfl, rfl⟩
      rw [← HZ.out]
      go_wp2
      go_ret
      exact ⟨ret_bool (by simp), B2.out⟩

theorem resT_OctetHolds : Try.f4.resultTypes = #[4] := by kernel_rfl
set_option maxRecDepth 100000 in
theorem lifted_OctetHolds (os : Os) (started : os.Started) (H : Type) (enc : TypeId × Value → H) :
    ReturnsInHanded {} Try.checked os 4 .any (Rows.octetHoldsSpec.pre6 enc Try.prog Try.f4 Rows.octetHoldsRow.domain false) (Rows.octetHoldsSpec.post enc Try.prog Try.f4 false true false false) := by
  refine Lift.law_lift (C := Try.checked) (s := Rows.octetHoldsSpec) (tb := 4) own laidOut started (by kernel_rfl) Try.func4
    (ChangeSpec.witness6 (enc := enc) (C := Try.checked) false ⟨#[], #[.slice none 0 0, .slice none 0 0], []⟩ 8 (by kernel_rfl) (by kernel_rfl) (by kernel_rfl) (by kernel_rfl))
    rfl resT_OctetHolds Try.underlying4 (by
      have hr : ∀ t ∈ ([22, 22] : List TypeId), Try.prog.readableRec t = true ∧ t < Try.prog.types.size := by
        intro t ht
        simp only [List.mem_cons, List.not_mem_nil, or_false] at ht
        rcases ht with rfl | rfl <;> exact ⟨by kernel_rfl, of_decide_eq_true (by kernel_rfl)⟩
      intro t ht
      exact hr t (by
        have ht' : t ∈ Try.f4.params.toList := ht
        rw [Try.params4] at ht'
        exact ht')) ?_
  intro W base args ds p hval0 hA0 hsz0
  have hval : ∀ (j : Nat) t v, Try.f4.params[j]? = some t → args[j]? = some v → Value.okWide Try.prog W .any base t v := hval0
  have hA : DataW.TrodAll enc Try.prog W 0 (fun _ => true) true Try.f4.params.toList args.toList ds p := hA0
  have hsz : (DataW.weightsEach Try.prog Try.f4.params.toList ds).all (· ≤ reachBytes) = true := hsz0
  clear hval0 hA0 hsz0
  rw [Try.params4] at hA hval hsz
  obtain ⟨v0, vs0, d0, ds0, p0, q0, hargs, rfl, rfl, h0, r0⟩ := trodAll_cons hA
  obtain ⟨v1, vs1, d1, ds1, p1, q1, rfl, rfl, rfl, h1, r1⟩ := trodAll_cons r0
  obtain ⟨rfl, rfl, rfl⟩ := trodAll_nil r1
  obtain rfl : args = #[v0, v1] := by cases args; simp_all
  obtain ⟨A0, len0, cap0, l0, rfl, hl0, hlc0, hcm0, hn0, hb0, hd0⟩ := Lift.open_bytes Try.underlying22 Try.underlying5 (by kernel_rfl) (hval 0 22 v0 rfl rfl) h0
  have hc0 : cap0 ≤ 140737488351232 := Lift.bytes_reach bytes1 hsz (j := 0) rfl rfl Try.underlying22 hd0
  obtain ⟨A1, len1, cap1, l1, rfl, hl1, hlc1, hcm1, hn1, hb1, hd1⟩ := Lift.open_bytes Try.underlying22 Try.underlying5 (by kernel_rfl) (hval 1 22 v1 rfl rfl) h1
  have hc1 : cap1 ≤ 140737488351232 := Lift.bytes_reach bytes1 hsz (j := 1) rfl rfl Try.underlying22 hd1
  exact ⟨rfl, walk A0 A1 len0 len1 cap0 cap1 l0 l1 W hl0 hl1 (by omega) hb0 hb1 hn0⟩

theorem proved_OctetHolds : Rows.OctetHoldsSaid :=
  OpenClaim.holds_of_wide 4 Try.f4 rfl rfl rfl rfl rfl rfl rfl ⟨rfl, rfl, rfl, rfl, rfl⟩ rfl rfl rfl rfl rfl (by kernel_rfl) Try.func4 (by kernel_rfl)
    (of_decide_eq_true (by kernel_rfl)) (by unfold Func.isWrapper; first | (rw [if_pos (by decide +kernel)]; kernel_rfl) | (rw [if_neg (by decide +kernel)]; exact ⟨rfl, rfl⟩))
    (fun os started H enc _ => lifted_OctetHolds os started H enc)
end Go.Proofs.Ytihphbeehadgmaa.OctHolds
