/-
  OctetPuts: numbers stand as their bytes, the highest first, behind the bytes, which stay as they were. No condition.
-/
import Derived.Test.YtihphbeehadgmaaOct3
import Derived.Test.YtihphbeehadgmaaOct6
import Derived.Test.YtihphbeehadgmaaLift
namespace Go.Proofs.Ytihphbeehadgmaa.OctPuts
open Go.ChangeShapes Go.WideShapes Go.ChangeAt Go.RowKit Go.Proofs.Ytihphbeehadgmaa.Wd Go.Proofs.Ytihphbeehadgmaa.Oct

theorem own : ownKnob Try.prog.godebug = none := by kernel_rfl
theorem laidOut : laidOutB Try.prog = true := by kernel_rfl
theorem bytes1 : Try.prog.bytesOf 5 = 1 := by kernel_rfl

set_option maxHeartbeats 1000000 in
theorem walk (A : Option Addr) (n c : Nat) (l : List UInt8) (x : Nat) (w : World) (hl : l.length = n) (hn : n ≤ 140737488351232) (hb : Bs w w.heap.size A l) (hx : InU64 x) :
    Calls Try.prog 3 #[.slice A n c, .int .u64 (x : Int)] w fun e w' => e = .returned (.bool true) ∧ Below w.heap.size w w' := by
  have HL := Lib.hid hl
  clear hl
  have hA : ∀ w', Below w.heap.size w w' → Bs w' w'.heap.size A l := fun w' h => (hb.below h).more h.size
  clear hb
  have e16 : IntKind.u16.wrap (x : Int) = ((x % 65536 : Nat) : Int) := by rw [IntKind.wrap_u16]; simp
  have e32 : ((x : Int) % 4294967296) = ((x % 4294967296 : Nat) : Int) := by simp
  have E16 := Lib.hid e16
  have E32 := Lib.hid e32
  have l16 : ((x % 65536 : Nat) : Int) < 65536 := by omega
  have l32 : ((x % 4294967296 : Nat) : Int) < 4294967296 := by omega
  have m16 : hi 2 (x % 65536) = hi 2 x := hi_mod 2 2 x (by omega)
  have m32 : hi 4 (x % 4294967296) = hi 4 x := hi_mod 4 4 x (by omega)
  have M16 := Lib.hid m16
  have M32 := Lib.hid m32
  have L16 := Lib.hid l16
  have L32 := Lib.hid l32
  have HA := Lib.hid hA
  clear e16 e32 m16 m32 l16 l32 hA
  go_enter Try.func3, Try.ntmps3
  go_wp2_with fail
  refine (wakes_any _).mono ?_
  rintro e w1 ⟨rfl, b1⟩
  have B1 := Lib.hid b1
  clear b1
  go_wp2_with fail
  refine (both_any A none l [] c 0 n 0 _ HL.out rfl (by omega) (HA.out _ B1.out) (Bs.nil _ _ _)).mono ?_
  rintro e w2 ⟨g2, n2, rfl, k2, hg2, r2, b2⟩
  rw [List.append_nil] at k2 r2
  have B2 := Lib.hid (B1.out.trans (b2.mono B1.out.size))
  have lt2 := r2.lt
  clear b2
  go_wp2_with fail
  rw [E16.out]
  refine (put16_any A l c n _ _ HL.out.symm (by omega) L16.out (HA.out _ B2.out)).mono ?_
  rintro e w3 ⟨g3, n3, rfl, k3, hg3, r3, b3⟩
  rw [M16.out] at k3 r3
  have B3 := Lib.hid (B2.out.trans (b3.mono B2.out.size))
  have r2 := r2.below b3 lt2
  have lt3 := r3.lt
  have s3 := b3.size
  clear b3
  go_wp2_with fail
  rw [E32.out]
  refine (put32_any A l c n _ _ HL.out.symm (by omega) L32.out (HA.out _ B3.out)).mono ?_
  rintro e w4 ⟨g4, n4, rfl, k4, hg4, r4, b4⟩
  rw [M32.out] at k4 r4
  have B4 := Lib.hid (B3.out.trans (b4.mono B3.out.size))
  have r2 := r2.below b4 (by omega)
  have r3 := r3.below b4 lt3
  have lt4 := r4.lt
  have s4 := b4.size
  clear b4
  go_wp2_with fail
  refine (put64_any A l c n _ _ HL.out.symm (by omega) (HA.out _ B4.out)).mono ?_
  rintro e w5 ⟨g5, n5, rfl, k5, hg5, r5, b5⟩
  have B5 := Lib.hid (B4.out.trans (b5.mono B4.out.size))
  have r2 := r2.below b5 (by omega)
  have r3 := r3.below b5 (by omega)
  have r4 := r4.below b5 lt4
  have lt5 := r5.lt
  have s5 := b5.size
  clear b5
  have q3 : n3 ≤ 140737488351232 + 2 := by rw [← k3.out, List.length_append, hi_length, HL.out]; omega
  have q4 : n4 ≤ 140737488351232 + 4 := by rw [← k4.out, List.length_append, hi_length, HL.out]; omega
  have q5 : n5 ≤ 140737488351232 + 8 := by rw [← k5.out, List.length_append, hi_length, HL.out]; omega
  have q2 : n2 ≤ 140737488351232 := by rw [← k2.out, HL.out]; omega
  -- Same(one, Both(c, High(x, 2)))
  go_wp2_with fail
  refine (high_any 2 x _ (by omega) (by omega) hx).mono ?_
  rintro e w6 ⟨g6, n6, rfl, k6, hg6, r6, b6⟩
  have B6 := Lib.hid (B5.out.trans (b6.mono B5.out.size))
  have r2 := r2.below b6 (by omega)
  have r3 := r3.below b6 (by omega)
  have r4 := r4.below b6 (by omega)
  have r5 := r5.below b6 (by omega)
  have s6 := b6.size
  have lt6 := r6.lt
  clear b6
  have q6 : n6 ≤ 2 := by rw [← k6.out, hi_length]; omega
  go_wp2_with fail
  refine (both_any _ _ l (hi 2 x) _ _ n2 n6 _ k2.out k6.out (by omega) (r2.bs (by omega)) (r6.bs (by omega))).mono ?_
  rintro e w7 ⟨g7, n7, rfl, k7, hg7, r7, b7⟩
  have B7 := Lib.hid (B6.out.trans (b7.mono B6.out.size))
  have r2 := r2.below b7 (by omega)
  have r3 := r3.below b7 (by omega)
  have r4 := r4.below b7 (by omega)
  have r5 := r5.below b7 (by omega)
  have s7 := b7.size
  clear b7 r6 lt6
  go_wp2_with fail
  refine (same_true _ _ (l ++ hi 2 x) _ _ n3 n7 _ k3.out k7.out (by omega) (g3 + 1) (g7 + 1) (r3.bs (by omega)) (r7.bs (by omega))).mono ?_
  rintro e w8 ⟨rfl, d8, rfl⟩
  clear r7
  -- Same(two, Both(c, High(x, 4)))
  go_wp2_with fail
  refine (high_any 4 x _ (by omega) (by omega) hx).mono ?_
  rintro e w9 ⟨g9, n9, rfl, k9, hg9, r9, b9⟩
  have B9 := Lib.hid ((below_still B7.out ⟨d8, rfl⟩).trans (b9.mono B7.out.size))
  have r2 := (r2.drewN d8).below b9 (by simp; omega)
  have r4 := (r4.drewN d8).below b9 (by simp; omega)
  have r5 := (r5.drewN d8).below b9 (by simp; omega)
  have s9 : w7.heap.size ≤ w9.heap.size := b9.size
  have lt9 := r9.lt
  clear b9
  have q9 : n9 ≤ 4 := by rw [← k9.out, hi_length]; omega
  go_wp2_with fail
  refine (both_any _ _ l (hi 4 x) _ _ n2 n9 _ k2.out k9.out (by omega) (r2.bs (by omega)) (r9.bs (by omega))).mono ?_
  rintro e w10 ⟨g10, n10, rfl, k10, hg10, r10, b10⟩
  have B10 := Lib.hid (B9.out.trans (b10.mono B9.out.size))
  have r2 := r2.below b10 (by omega)
  have r4 := r4.below b10 (by omega)
  have r5 := r5.below b10 (by omega)
  have s10 := b10.size
  clear b10 r9 lt9
  go_wp2_with fail
  refine (same_true _ _ (l ++ hi 4 x) _ _ n4 n10 _ k4.out k10.out (by omega) (g4 + 1) (g10 + 1) (r4.bs (by omega)) (r10.bs (by omega))).mono ?_
  rintro e w11 ⟨rfl, d11, rfl⟩
  clear r10
  -- Same(three, Both(c, High(x, 8)))
  go_wp2_with fail
  refine (high_any 8 x _ (by omega) (by omega) hx).mono ?_
  rintro e w12 ⟨g12, n12, rfl, k12, hg12, r12, b12⟩
  have B12 := Lib.hid ((below_still B10.out ⟨d11, rfl⟩).trans (b12.mono B10.out.size))
  have r2 := (r2.drewN d11).below b12 (by simp; omega)
  have r5 := (r5.drewN d11).below b12 (by simp; omega)
  have s12 : w10.heap.size ≤ w12.heap.size := b12.size
  have lt12 := r12.lt
  clear b12
  have q12 : n12 ≤ 8 := by rw [← k12.out, hi_length]; omega
  go_wp2_with fail
  refine (both_any _ _ l (hi 8 x) _ _ n2 n12 _ k2.out k12.out (by omega) (r2.bs (by omega)) (r12.bs (by omega))).mono ?_
  rintro e w13 ⟨g13, n13, rfl, k13, hg13, r13, b13⟩
  have B13 := Lib.hid (B12.out.trans (b13.mono B12.out.size))
  have r2 := r2.below b13 (by omega)
  have r5 := r5.below b13 (by omega)
  have s13 := b13.size
  clear b13 r12 lt12
  go_wp2_with fail
  refine (same_true _ _ (l ++ hi 8 x) _ _ n5 n13 _ k5.out k13.out (by omega) (g5 + 1) (g13 + 1) (r5.bs (by omega)) (r13.bs (by omega))).mono ?_
  rintro e w14 ⟨rfl, d14, rfl⟩
  clear r13
  -- Same(b, c)
  go_wp2_with fail
  refine (same_true _ _ l _ _ n n2 _ HL.out k2.out (by omega) _ (g2 + 1) ((HA.out _ B13.out).drewN d14) ((r2.drewN d14).bs (by omega))).mono ?_
  rintro e w15 ⟨rfl, d15, rfl⟩
  go_wp2
  go_ret
  exact ⟨rfl, below_still B13.out ⟨_, rfl⟩⟩

theorem resT_OctetPuts : Try.f3.resultTypes = #[4] := by kernel_rfl
set_option maxRecDepth 100000 in
theorem lifted_OctetPuts (os : Os) (started : os.Started) (H : Type) (enc : TypeId × Value → H) :
    ReturnsInHanded {} Try.checked os 3 .any (Rows.octetPutsSpec.pre6 enc Try.prog Try.f3 Rows.octetPutsRow.domain false) (Rows.octetPutsSpec.post enc Try.prog Try.f3 false true false false) := by
  refine Lift.law_lift (C := Try.checked) (s := Rows.octetPutsSpec) (tb := 4) own laidOut started (by kernel_rfl) Try.func3
    (ChangeSpec.witness6 (enc := enc) (C := Try.checked) false ⟨#[], #[.slice none 0 0, .int .u64 0], []⟩ 8 (by kernel_rfl) (by kernel_rfl) (by kernel_rfl) (by kernel_rfl))
    rfl resT_OctetPuts Try.underlying4 (by
      have hr : ∀ t ∈ ([22, 23] : List TypeId), Try.prog.readableRec t = true ∧ t < Try.prog.types.size := by
        intro t ht
        simp only [List.mem_cons, List.not_mem_nil, or_false] at ht
        rcases ht with rfl | rfl <;> exact ⟨by kernel_rfl, of_decide_eq_true (by kernel_rfl)⟩
      intro t ht
      exact hr t (by
        have ht' : t ∈ Try.f3.params.toList := ht
        rw [Try.params3] at ht'
        exact ht')) ?_
  intro W base args ds p hval0 hA0 hsz0
  have hval : ∀ (j : Nat) t v, Try.f3.params[j]? = some t → args[j]? = some v → Value.okWide Try.prog W .any base t v := hval0
  have hA : DataW.TrodAll enc Try.prog W 0 (fun _ => true) true Try.f3.params.toList args.toList ds p := hA0
  have hsz : (DataW.weightsEach Try.prog Try.f3.params.toList ds).all (· ≤ reachBytes) = true := hsz0
  clear hval0 hA0 hsz0
  rw [Try.params3] at hA hval hsz
  obtain ⟨v0, vs0, d0, ds0, p0, q0, hargs, rfl, rfl, h0, r0⟩ := trodAll_cons hA
  obtain ⟨v1, vs1, d1, ds1, p1, q1, rfl, rfl, rfl, h1, r1⟩ := trodAll_cons r0
  obtain ⟨rfl, rfl, rfl⟩ := trodAll_nil r1
  obtain rfl : args = #[v0, v1] := by cases args; simp_all
  obtain ⟨A0, len0, cap0, l0, rfl, hl0, hlc0, hcm0, hn0, hb0, hd0⟩ := Lift.open_bytes Try.underlying22 Try.underlying5 (by kernel_rfl) (hval 0 22 v0 rfl rfl) h0
  have hc0 : cap0 ≤ 140737488351232 := Lift.bytes_reach bytes1 hsz (j := 0) rfl rfl Try.underlying22 hd0
  obtain ⟨a1, rfl, rfl, rfl, w1⟩ := open_int Try.underlying23 (hval 1 23 v1 rfl rfl) h1
  have ha1 : 0 ≤ a1 ∧ a1 ≤ 18446744073709551615 := by simpa [Lit.wf, IntKind.min, IntKind.max, IntKind.signed, IntKind.bits] using w1
  obtain ⟨x, rfl⟩ := Int.eq_ofNat_of_zero_le ha1.1
  have hx : InU64 x := (show x < 18446744073709551616 by omega)
  exact ⟨rfl, walk A0 len0 cap0 l0 x W hl0 (by omega) hb0 hx⟩

theorem proved_OctetPuts : Rows.OctetPutsSaid :=
  OpenClaim.holds_of_wide 3 Try.f3 rfl rfl rfl rfl rfl rfl rfl ⟨rfl, rfl, rfl, rfl, rfl⟩ rfl rfl rfl rfl rfl (by kernel_rfl) Try.func3 (by kernel_rfl)
    (of_decide_eq_true (by kernel_rfl)) (by unfold Func.isWrapper; first | (rw [if_pos (by decide +kernel)]; kernel_rfl) | (rw [if_neg (by decide +kernel)]; exact ⟨rfl, rfl⟩))
    (fun os started H enc _ => lifted_OctetPuts os started H enc)
end Go.Proofs.Ytihphbeehadgmaa.OctPuts
