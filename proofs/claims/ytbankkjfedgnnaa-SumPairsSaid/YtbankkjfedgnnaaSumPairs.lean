/-
  SumPairs: two bits turned, within 8 bytes of one another, are told. No condition.
-/
import Derived.Test.YtbankkjfedgnnaaSum5
import Derived.Test.YtbankkjfedgnnaaLift
namespace Go.Proofs.Ytbankkjfedgnnaa.SumPairs
open Go.ChangeShapes Go.WideShapes Go.ChangeAt Go.RowKit Go.Proofs.Ytbankkjfedgnnaa.Wd Go.Proofs.Ytbankkjfedgnnaa.Oct Go.Proofs.Ytbankkjfedgnnaa.Sm Go.Proofs.Ytbankkjfedgnnaa.Sum

theorem own : ownKnob Try.prog.godebug = none := by kernel_rfl
theorem laidOut : laidOutB Try.prog = true := by kernel_rfl
theorem bytes1 : Try.prog.bytesOf 5 = 1 := by kernel_rfl

theorem res_turned {p n : Nat} (hp : Poly p n) (l : List UInt8) (mask k i : Nat) {q : Int} {l' : List UInt8} (hr : res p n (flips mask k (sealed p n l) i) = (q, l'))
    (ht : halves p (8 * (sealed p n l).length - k) (low mask k (sealed p n l) i) = 0 → low mask k (sealed p n l) i = 0) {d : Bool} (hd : decide (low mask k (sealed p n l) i ≠ 0) = d) : q = if d then 130 else 0 := by
  have ho := opens_flips hp l mask k i ht
  unfold res at hr
  rw [if_neg (by rw [flips_length, sealed_length]; omega)] at hr
  by_cases h : low mask k (sealed p n l) i = 0
  · rw [if_pos (ho.2 h)] at hr
    have e := (Prod.mk.inj hr).1
    have : d = false := by rw [← hd]; simp [h]
    rw [this, ← e]; rfl
  · rw [if_neg (fun c => h (ho.1 c))] at hr
    have e := (Prod.mk.inj hr).1
    have : d = true := by rw [← hd]; simp [h]
    rw [this, ← e]; rfl
theorem mask_val (d : Nat) (hd : d < 64) : bits .or .u64 1 (IntKind.u64.wrap (2 ^ d)) = ((1 ||| 2 ^ d : Nat) : Int) ∧ (1 ||| 2 ^ d) < 18446744073709551616 := by
  have h1 : (2 : Nat) ^ d < 2 ^ 64 := Nat.pow_lt_pow_right (by omega) hd
  have h1' : (2 : Nat) ^ d < 18446744073709551616 := h1
  have h2 : (2 : Int) ^ d = ((2 ^ d : Nat) : Int) := by push_cast; rfl
  refine ⟨?_, Nat.or_lt_two_pow (n := 64) (by decide) h1⟩
  rw [h2]
  generalize (2 : Nat) ^ d = x at h1' ⊢
  rw [u64_wrap (by omega) (by omega)]
  exact u64_or_nat 1 x (by omega) h1'
set_option maxHeartbeats 1000000 in
theorem walk (A : Option Addr) (n c : Nat) (l : List UInt8) (at_ : Int) (gap : Int) (w : World) (h1 : l.length = n) (hnc : n ≤ c) (hm : c ≤ 140737488351232) (b1 : Bs w w.heap.size A l) (hA : A = none → c = 0)
    (ha1 : -9223372036854775808 ≤ at_) (ha2 : at_ ≤ 9223372036854775807) (hg1 : -9223372036854775808 ≤ gap) (hg2 : gap ≤ 9223372036854775807) :
    Calls Try.prog 8 #[.slice A n c, .int .i64 at_, .int .i64 gap] w fun e w' => e = .returned (.bool true) ∧ Below w.heap.size w w' := by
  have H1 := Lib.hid h1
  have HA1 := Lib.hid hA
  clear h1 hA
  have hB : ∀ w', Below w.heap.size w w' → Bs w' w'.heap.size A l := fun w' h => (b1.below h).more h.size
  have HB := Lib.hid hB
  clear hB b1
  obtain ⟨M, hM⟩ : ∃ M : Int, M = if gap < 0 then 0 else gap := ⟨_, rfl⟩
  have hM0 : 0 ≤ M := by rw [hM]; split <;> omega
  have hM1 : M ≤ 9223372036854775807 := by rw [hM]; split <;> omega
  have HM := Lib.hid hM
  clear hM
  go_enter Try.func8, Try.ntmps8
  go_wp2_with fail
  refine (wakes_any _).mono ?_
  rintro e w1 ⟨rfl, hb1⟩
  have B1 := Lib.hid hb1
  clear hb1
  by_cases hbig : 5000 < n
  · go_wp2
    go_ret
    exact ⟨rfl, B1.out⟩
  go_wp2_with (refine wpList_max0 (o := ⟨some 22, _, _, _, _, _⟩) rfl (.tmp 21) rfl gap M rfl HM.out ?_)
  have hd0 : 0 < (1 + M % 63).toNat := by omega
  have hd64 : (1 + M % 63).toNat < 64 := by omega
  obtain ⟨hmk, hmask⟩ := mask_val (1 + M % 63).toNat hd64
  rw [hmk]
  clear hmk
  have HMK : Hid (∃ d, 0 < d ∧ d < 64 ∧ (1 ||| 2 ^ (1 + M % 63).toNat) = 1 ||| 2 ^ d) := (show ∃ _, _ from ⟨_, hd0, hd64, rfl⟩)
  generalize (1 ||| 2 ^ (1 + M % 63).toNat) = mask at hmask HMK ⊢
  refine (Seal16_any A l c n w1 H1.out (by omega) (HB.out _ B1.out)).mono ?_
  rintro e w2 ⟨g16, m16, rfl, hl, hg, hrow, hb⟩
  have HL16 := Lib.hid hl.out
  have B2 := Lib.hid (B1.out.trans (hb.mono B1.out.size))
  have HG : Hid (Bs w2 w2.heap.size (some ⟨g16, 0, none⟩) (sealed 33800 2 l)) := hrow.bs hrow.lt
  clear hl hb hrow hg
  have hm16 : m16 ≤ 5004 := by have := HL16.out; rw [sealed_length, H1.out] at this; omega
  have hn16 : 0 < m16 := by have := HL16.out; rw [sealed_length, H1.out] at this; omega
  have HT := Lib.hid (turned_any (some ⟨g16, 0, none⟩) (sealed 33800 2 l) m16 m16 64 mask at_ w2 HL16.out hn16 (by omega) (by omega) hmask ha1 ha2 (fun hh => by cases hh) HG.out)
  obtain ⟨d16, hd16⟩ : ∃ d : Bool, decide (low mask (turnFrom at_ m16) (sealed 33800 2 l) 64 ≠ 0) = d := ⟨_, rfl⟩
  rw [hd16] at HT
  have HD16 : Hid (∀ q l', res 33800 2 (flips mask (turnFrom at_ m16) (sealed 33800 2 l) 64) = (q, l') → q = if d16 then 130 else 0) := (show ∀ _, _ from fun q l' hr => res_turned poly16 l _ _ _ hr (fun h => by obtain ⟨d, hd0, hd64, hd⟩ := HMK.out; rw [hd] at h ⊢; exact pair_told poly16 pair16 _ _ d hd0 hd64 (by rw [HL16.out]; exact Nat.mod_lt _ (by omega)) h) hd16)
  have HFL16 : Hid ((flips mask (turnFrom at_ m16) (sealed 33800 2 l) 64).length = m16) := (show _ = _ by rw [flips_length, HL16.out])
  clear hd16
  generalize flips mask (turnFrom at_ m16) (sealed 33800 2 l) 64 = f16 at HT HD16 HFL16
  go_wp2_with fail
  refine (HT.out).mono ?_
  rintro e w3 ⟨A16, c16, rfl, hc16, hA, hbs, hb⟩
  have B3 := Lib.hid (B2.out.trans (hb.mono B2.out.size))
  have HS16 : Hid (∀ w', Below w3.heap.size w3 w' → Bs w' w'.heap.size A16 f16) := (show ∀ _, _ from fun w' h => (hbs.below h).more h.size)
  have N3 := Lib.hid (Below.refl w3.heap.size w3)
  clear hA hbs hb HT HG
  go_wp2_with fail
  refine (Seal32_any A l c n w3 H1.out (by omega) (HB.out _ B3.out)).mono ?_
  rintro e w4 ⟨g32, m32, rfl, hl, hg, hrow, hb⟩
  have HL32 := Lib.hid hl.out
  have B4 := Lib.hid (B3.out.trans (hb.mono B3.out.size))
  have HG : Hid (Bs w4 w4.heap.size (some ⟨g32, 0, none⟩) (sealed 2197175160 4 l)) := hrow.bs hrow.lt
  have N4 := Lib.hid hb
  clear hl hb hrow hg
  have hm32 : m32 ≤ 5004 := by have := HL32.out; rw [sealed_length, H1.out] at this; omega
  have hn32 : 0 < m32 := by have := HL32.out; rw [sealed_length, H1.out] at this; omega
  have HT := Lib.hid (turned_any (some ⟨g32, 0, none⟩) (sealed 2197175160 4 l) m32 m32 64 mask at_ w4 HL32.out hn32 (by omega) (by omega) hmask ha1 ha2 (fun hh => by cases hh) HG.out)
  obtain ⟨d32, hd32⟩ : ∃ d : Bool, decide (low mask (turnFrom at_ m32) (sealed 2197175160 4 l) 64 ≠ 0) = d := ⟨_, rfl⟩
  rw [hd32] at HT
  have HD32 : Hid (∀ q l', res 2197175160 4 (flips mask (turnFrom at_ m32) (sealed 2197175160 4 l) 64) = (q, l') → q = if d32 then 130 else 0) := (show ∀ _, _ from fun q l' hr => res_turned poly32 l _ _ _ hr (fun h => by obtain ⟨d, hd0, hd64, hd⟩ := HMK.out; rw [hd] at h ⊢; exact pair_told poly32 pair32 _ _ d hd0 hd64 (by rw [HL32.out]; exact Nat.mod_lt _ (by omega)) h) hd32)
  have HFL32 : Hid ((flips mask (turnFrom at_ m32) (sealed 2197175160 4 l) 64).length = m32) := (show _ = _ by rw [flips_length, HL32.out])
  clear hd32
  generalize flips mask (turnFrom at_ m32) (sealed 2197175160 4 l) 64 = f32 at HT HD32 HFL32
  go_wp2_with fail
  refine (HT.out).mono ?_
  rintro e w5 ⟨A32, c32, rfl, hc32, hA, hbs, hb⟩
  have B5 := Lib.hid (B4.out.trans (hb.mono B4.out.size))
  have HS32 : Hid (∀ w', Below w5.heap.size w5 w' → Bs w' w'.heap.size A32 f32) := (show ∀ _, _ from fun w' h => (hbs.below h).more h.size)
  have N5 := Lib.hid (Below.refl w5.heap.size w5)
  have N35 := Lib.hid (N4.out.trans (hb.mono N4.out.size))
  clear hA hbs hb HT HG
  go_wp2_with fail
  refine (Open16_any A16 f16 c16 m16 w5 HFL16.out hc16 (by omega) (HS16.out _ N35.out)).mono ?_
  rintro e w6 ⟨A1, k1, c1, l1, q1, rfl, hl, hmc, hA, hbs, hb, hr⟩
  have B6 := Lib.hid (B5.out.trans (hb.mono B5.out.size))
  have N6 := Lib.hid hb
  have E1 := Lib.hid (HD16.out _ _ hr.out)
  clear hl hmc hA hbs hb hr
  go_wp2_with fail
  refine (Open32_any A32 f32 c32 m32 w6 HFL32.out hc32 (by omega) (HS32.out _ N6.out)).mono ?_
  rintro e w7 ⟨A2, k2, c2, l2, q2, rfl, hl, hmc, hA, hbs, hb, hr⟩
  have B7 := Lib.hid (B6.out.trans (hb.mono B6.out.size))
  have E2 := Lib.hid (HD32.out _ _ hr.out)
  clear hl hmc hA hbs hb hr HD16 HD32
  have F1 : Hid (∀ b, d16 = b → q1 = if b = true then 130 else 0) := (show ∀ _, _ from fun b h => by rw [← h]; exact E1.out)
  have F2 : Hid (∀ b, d32 = b → q2 = if b = true then 130 else 0) := (show ∀ _, _ from fun b h => by rw [← h]; exact E2.out)
  clear E1 E2
  cases d16
  · obtain rfl : q1 = 0 := F1.out false rfl
    clear F1
    cases d32
    · obtain rfl : q2 = 0 := F2.out false rfl
      clear F2
      go_wp2
      go_ret
      exact ⟨rfl, B7.out⟩
    · obtain rfl : q2 = 130 := F2.out true rfl
      clear F2
      go_wp2
      go_ret
      exact ⟨rfl, B7.out⟩
  · obtain rfl : q1 = 130 := F1.out true rfl
    clear F1
    cases d32
    · obtain rfl : q2 = 0 := F2.out false rfl
      clear F2
      go_wp2
      go_ret
      exact ⟨rfl, B7.out⟩
    · obtain rfl : q2 = 130 := F2.out true rfl
      clear F2
      go_wp2
      go_ret
      exact ⟨rfl, B7.out⟩

theorem resT_SumPairs : Try.f8.resultTypes = #[4] := by kernel_rfl
set_option maxRecDepth 100000 in
theorem lifted_SumPairs (os : Os) (started : os.Started) (H : Type) (enc : TypeId × Value → H) :
    ReturnsInHanded {} Try.checked os 8 .any (Rows.sumPairsSpec.pre6 enc Try.prog Try.f8 Rows.sumPairsRow.domain false) (Rows.sumPairsSpec.post enc Try.prog Try.f8 false true false false) := by
  refine Lift.law_lift (C := Try.checked) (s := Rows.sumPairsSpec) (tb := 4) own laidOut started (by kernel_rfl) Try.func8
    (ChangeSpec.witness6 (enc := enc) (C := Try.checked) false ⟨#[], #[.slice none 0 0, .int .i64 0, .int .i64 0], []⟩ 8 (by kernel_rfl) (by kernel_rfl) (by kernel_rfl) (by kernel_rfl))
    rfl resT_SumPairs Try.underlying4 (by
      have hr : ∀ t ∈ ([22, 3, 3] : List TypeId), Try.prog.readableRec t = true ∧ t < Try.prog.types.size := by
        intro t ht
        simp only [List.mem_cons, List.not_mem_nil, or_false] at ht
        rcases ht with rfl | rfl | rfl <;> exact ⟨by kernel_rfl, of_decide_eq_true (by kernel_rfl)⟩
      intro t ht
      exact hr t (by
        have ht' : t ∈ Try.f8.params.toList := ht
        rw [Try.params8] at ht'
        exact ht')) ?_
  intro W base args ds p hval0 hA0 hsz0
  have hval : ∀ (j : Nat) t v, Try.f8.params[j]? = some t → args[j]? = some v → Value.okWide Try.prog W .any base t v := hval0
  have hA : DataW.TrodAll enc Try.prog W 0 (fun _ => true) true Try.f8.params.toList args.toList ds p := hA0
  have hsz : (DataW.weightsEach Try.prog Try.f8.params.toList ds).all (· ≤ reachBytes) = true := hsz0
  clear hval0 hA0 hsz0
  rw [Try.params8] at hA hval hsz
  obtain ⟨v0, vs0, d0, ds0, p0, q0, hargs, rfl, rfl, h0, r0⟩ := trodAll_cons hA
  obtain ⟨v1, vs1, d1, ds1, p1, q1, rfl, rfl, rfl, h1, r1⟩ := trodAll_cons r0
  obtain ⟨v2, vs2, d2, ds2, p2, q2, rfl, rfl, rfl, h2, r2⟩ := trodAll_cons r1
  obtain ⟨rfl, rfl, rfl⟩ := trodAll_nil r2
  obtain rfl : args = #[v0, v1, v2] := by cases args; simp_all
  obtain ⟨A0, len0, cap0, l0, rfl, hl0, hlc0, hcm0, hn0, hb0, hd0⟩ := Lift.open_bytes Try.underlying22 Try.underlying5 (by kernel_rfl) (hval 0 22 v0 rfl rfl) h0
  have hc0 : cap0 ≤ 140737488351232 := Lift.bytes_reach bytes1 hsz (j := 0) rfl rfl Try.underlying22 hd0
  obtain ⟨a1, rfl, rfl, rfl, w1⟩ := open_int Try.underlying3 (hval 1 3 v1 rfl rfl) h1
  obtain ⟨a2, rfl, rfl, rfl, w2⟩ := open_int Try.underlying3 (hval 2 3 v2 rfl rfl) h2
  have hr1 : -9223372036854775808 ≤ a1 ∧ a1 ≤ 9223372036854775807 := by simpa [Lit.wf, IntKind.min, IntKind.max, IntKind.signed, IntKind.bits] using w1
  have hr2 : -9223372036854775808 ≤ a2 ∧ a2 ≤ 9223372036854775807 := by simpa [Lit.wf, IntKind.min, IntKind.max, IntKind.signed, IntKind.bits] using w2
  exact ⟨rfl, walk A0 len0 cap0 l0 a1 a2 W hl0 hlc0 hc0 hb0 hn0 hr1.1 hr1.2 hr2.1 hr2.2⟩

theorem proved_SumPairs : Rows.SumPairsSaid :=
  OpenClaim.holds_of_wide 8 Try.f8 rfl rfl rfl rfl rfl rfl rfl ⟨rfl, rfl, rfl, rfl, rfl⟩ rfl rfl rfl rfl rfl (by kernel_rfl) Try.func8 (by kernel_rfl)
    (of_decide_eq_true (by kernel_rfl)) (by unfold Func.isWrapper; first | (rw [if_pos (by decide +kernel)]; kernel_rfl) | (rw [if_neg (by decide +kernel)]; exact ⟨rfl, rfl⟩))
    (fun os started H enc _ => lifted_SumPairs os started H enc)
end Go.Proofs.Ytbankkjfedgnnaa.SumPairs
