/-
  RecordAgain: rows are decoded as they were encoded, and the other way round. No condition.
-/
import Derived.Test.YtnljhopikjkflaaRec23
import Derived.Test.YtnljhopikjkflaaRec11
import Derived.Test.YtnljhopikjkflaaRec12
import Derived.Test.YtnljhopikjkflaaRec3
import Derived.Test.YtnljhopikjkflaaRecO
import Derived.Deep.Cut
import Derived.Deep.CutRange
namespace Go.Proofs.Ytnljhopikjkflaa.RecAgn
set_option maxRecDepth 100000
open Go.RowKit Go.Proofs.Ytnljhopikjkflaa.Wd Go.Proofs.Ytnljhopikjkflaa.Oct Go.Proofs.Ytnljhopikjkflaa.Dsk Go.Proofs.Ytnljhopikjkflaa.Rec Go.ChangeShapes Go.WideShapes Go.ChangeAt

theorem own : ownKnob Try.prog.godebug = none := by kernel_rfl
theorem laidOut : laidOutB Try.prog = true := by kernel_rfl
theorem bytes1 : Try.prog.bytesOf 5 = 1 := by kernel_rfl
theorem same_self (r : RM) : sameB r r = true := by simp [sameB]
def JB (w : World) (_t : Value) (W : World) : Prop := Below w.heap.size w W
theorem rowE_zero {rs : List RM} (h : rowE rs = 0) : rs.length ≤ 64 ∧ rowM rs = true := by
  unfold rowE at h
  by_cases h64 : 64 < rs.length
  · rw [if_pos h64] at h; cases h
  · rw [if_neg h64] at h
    cases hr : rowM rs
    · rw [hr] at h; cases h
    · exact ⟨by omega, rfl⟩
theorem rowE_of {rs : List RM} (h : rs.length ≤ 64) (hr : rowM rs = true) : rowE rs = 0 := by
  unfold rowE
  rw [if_neg (by omega), if_pos hr]
theorem decRowM_none {l : List UInt8} (h : (decRowM l).1 ≠ 0) : (decRowM l).2 = [] := by
  unfold decRowM at h ⊢
  split
  · rfl
  · rename_i h1
    rw [if_neg h1] at h
    split
    · rfl
    · rename_i h2
      rw [if_neg h2] at h
      split
      · rfl
      · rename_i h3
        rw [if_neg h3] at h
        split
        · rfl
        · rename_i h4
          rw [if_neg h4] at h
          exact absurd rfl h
theorem large_len {xs : List (RM × RS)} (h : largeM (xs.map (·.1)) = false) : xs.length ≤ 200 := by
  unfold largeM at h
  simp only [Bool.or_eq_false_iff, decide_eq_false_iff_not, List.length_map] at h
  omega

set_option maxHeartbeats 8000000 in
theorem again_walk (A : Option Addr) (n c : Nat) (xs : List (RM × RS)) (A1 : Option Addr) (n1 c1 : Nat) (raw : List UInt8) (w : World) (hl : xs.length = n) (hnc : n ≤ c) (hR : Rl w w.heap.size A xs) (hk : ∀ x ∈ xs, RecOk w x)
    (hl1 : raw.length = n1) (hnc1 : n1 ≤ c1) (hc1 : c1 ≤ 140737488351232) (hA1 : A1 = none → c1 = 0) (hb1 : Bs w w.heap.size A1 raw) :
    Calls Try.prog 5 #[.slice A n c, .slice A1 n1 c1] w fun e w' => e = .returned (.bool true) ∧ Below w.heap.size w w' := by
  have HL := Lib.hid hl
  have HR := Lib.hid hR
  have HK := Lib.hid hk
  have HL1 := Lib.hid hl1
  have HA1 := Lib.hid hA1
  have HB1 := Lib.hid hb1
  clear hl hR hk hl1 hA1 hb1
  go_enter Try.func5, Try.ntmps5
  go_wp2_with fail
  refine (wakes_any _).mono ?_
  rintro e w1 ⟨rfl, hb1⟩
  have HW1 := Lib.hid hb1
  clear hb1
  go_wp2_with fail
  refine (large_any A n c xs w1 HL.out ((HR.out.below HW1.out).more HW1.out.size)).mono ?_
  rintro e w2 ⟨rfl, hb2⟩
  have HW2 := Lib.hid (HW1.out.trans (hb2.mono HW1.out.size))
  have HNL := Lib.hid (large_len (xs := xs))
  clear hb2 HW1
  generalize largeM (xs.map (·.1)) = M at HNL ⊢
  cases M
  case true =>
    go_wp2
    go_ret
    exact ⟨rfl, HW2.out⟩
  by_cases h20 : 20000 < n1
  case pos =>
    have h20i : (20000 : Int) < (n1 : Int) := by omega
    go_wp2
    go_ret
    exact ⟨rfl, HW2.out⟩
  have h20i : ¬ (20000 : Int) < (n1 : Int) := by omega
  have HN2 : Hid (n ≤ 200) := (show _ ≤ _ from by have := HNL.out rfl; rw [HL.out] at this; exact this)
  have HU : Hid (∀ x ∈ xs, U4 x.1) := (show ∀ x ∈ _, _ from fun x hx => ⟨(HK.out x hx).u1, (HK.out x hx).u2, (HK.out x hx).u3, (HK.out x hx).u4⟩)
  have HEN := Lib.hid (encodeRow_any A n c xs w2 HL.out (by have := HN2.out; omega) ((HR.out.below HW2.out).more HW2.out.size) HU.out)
  obtain ⟨rs, hrs⟩ : ∃ rs, rs = xs.map (·.1) := ⟨_, rfl⟩
  have HRL : Hid (rs.length = n) := (show _ = _ by rw [hrs, List.length_map, HL.out])
  unfold EncR at HEN
  rw [← hrs, HRL.out] at HEN
  have HRS := Lib.hid hrs
  have HEZ := Lib.hid (rowE_zero (rs := rs))
  generalize rowE rs = E at HEN HEZ
  clear HNL hrs
  go_wp2_with fail
  refine HEN.out.mono ?_
  rintro e w4 ⟨v4, rfl, ho4, hb4⟩
  have HW4 := Lib.hid (HW2.out.trans (hb4.mono HW2.out.size))
  have HO4 := Lib.hid ho4
  clear ho4 hb4 HEN HW2
  go_upto_if 29 with fail
  go_cut [6] from 7 to 59 (fun t6 wx => JB w t6 wx)
  case first =>
    by_cases hE : E = 0
    case neg =>
      have heb : (E == 0) = false := by simp [hE]
      go_wp2_with fail
      go_meet
      case rel => exact HW4.out
    subst hE
    have heb : ((0 : Int) == 0) = true := rfl
    obtain ⟨h64, hrM⟩ := HEZ.out rfl
    have HUR : Hid (∀ r ∈ rs, U4 r) := (show ∀ r ∈ _, _ from fun r hr => by
      rw [HRS.out] at hr
      obtain ⟨x, hx, e⟩ := List.mem_map.1 hr
      rw [← e]
      exact HU.out x hx)
    have hDB := decRowM_back hrM h64 HUR.out
    rw [HRL.out] at hDB
    have HDB := Lib.hid hDB
    have HBL : Hid ((rowB n rs).length ≤ 20000) := (show _ ≤ _ from by have := rowB_le n (rowM_ok hrM); omega)
    clear hDB h64 hrM HEZ
    obtain ⟨A5, n5, c5, rfl, hl5, -, -, hn5, hbs5⟩ := HO4.out.open
    rw [if_pos rfl] at hl5 hbs5
    have HDE := Lib.hid (decodeRow_any A5 n5 c5 (rowB n rs) w4 hl5 (by have := HBL.out; omega) hbs5 hn5)
    unfold DecR at HDE
    rw [HDB.out] at HDE
    dsimp only at HDE
    clear hl5 hbs5 hn5 HO4 HDB HBL
    go_wp2_with fail
    refine HDE.out.mono ?_
    rintro e w7 ⟨v7, ys, rfl, hr7, he7, hb7⟩
    have HW7 := Lib.hid (HW4.out.trans (hb7.mono HW4.out.size))
    obtain ⟨A7, c7, rfl, hyc, -, -, hrl7⟩ := hr7.rl
    have HRL7 := Lib.hid hrl7
    have HYE := Lib.hid he7
    have hyl : ys.length = n := by have := congrArg List.length he7; rw [List.length_map, HRL.out] at this; exact this
    have HYL := Lib.hid hyl
    rw [hyl] at hyc ⊢
    have hnn : ((n : Int) != (n : Int)) = false := by simp
    have h00 : ((0 : Int) != 0) = false := by decide
    clear hr7 he7 hb7 hrl7 hyl HDE HW4
    go_wp2_with fail
    go_loopw [46] (fun t46 wr => ∃ k : Nat, k ≤ n ∧ t46 = .int .i64 (k : Int) ∧ Hid (Below w.heap.size w wr ∧ Below w7.heap.size w7 wr)) (fun t46 _ => n - (intOf t46).toNat)
    case atStart => exact ⟨0, by omega, rfl, ⟨HW7.out, Below.refl _ _⟩⟩
    case round =>
      obtain ⟨k, hk, rfl, HI⟩ := hrel
      by_cases hlt : k < n
      case neg =>
        have h1 : ¬ (k : Int) < (n : Int) := by omega
        go_wp2_with fail
        go_meet
        case rel => exact HI.out.1
      clear HW7
      have h1 : (k : Int) < (n : Int) := by omega
      have hk0 : 0 ≤ (k : Int) := by omega
      obtain ⟨x, hx⟩ : ∃ x, xs[k]? = some x := ⟨_, List.getElem?_eq_getElem (by rw [HL.out]; exact hlt)⟩
      obtain ⟨y, hy⟩ : ∃ y, ys[k]? = some y := ⟨_, List.getElem?_eq_getElem (by rw [HYL.out]; exact hlt)⟩
      have hxy : x.1 = y.1 := by
        have h3 : rs[k]? = some y.1 := by rw [← HYE.out, List.getElem?_map, hy]; rfl
        rw [HRS.out, List.getElem?_map, hx] at h3
        exact Option.some.inj h3
      obtain ⟨b, o, rfl, hblt, hc⟩ := HR.out.1 (by rw [HL.out]; omega)
      obtain ⟨b2, o2, rfl, hblt2, hc2⟩ := HRL7.out.1 (by rw [HYL.out]; omega)
      obtain ⟨r, s⟩ := x
      obtain ⟨r2, s2⟩ := y
      obtain rfl : r = r2 := hxy
      have HC : Hid (∀ W, Below w.heap.size w W ∧ Below w7.heap.size w7 W → W.rangeAt b (o + k * 9) (rcs r s)) := (show ∀ W, _ → _ from fun W hW j v hj => (hW.1.cell (p := ⟨b, o + k * 9 + j, none⟩) hblt).trans (hc k _ hx j v hj))
      have HC2 : Hid (∀ W, Below w.heap.size w W ∧ Below w7.heap.size w7 W → W.rangeAt b2 (o2 + k * 9) (rcs r s2)) := (show ∀ W, _ → _ from fun W hW j v hj => (hW.2.cell (p := ⟨b2, o2 + k * 9 + j, none⟩) hblt2).trans (hc2 k _ hy j v hj))
      have HRX := Lib.hid (HR.out.2 _ (List.mem_of_getElem? hx))
      have HRY := Lib.hid (HRL7.out.2 _ (List.mem_of_getElem? hy))
      have HSM : Hid (∀ W, Below w.heap.size w W ∧ Below w7.heap.size w7 W → Calls Try.prog 12 #[.agg (rcs r s).toArray, .agg (rcs r s2).toArray] W fun e w' => e = .returned (.bool true) ∧ Below W.heap.size W w') := (show ∀ W, _ → _ from fun W hW => by
        have := same_rec r r s s2 W.heap.size W ((HRX.out.below hW.1).more hW.1.size) ((HRY.out.below hW.2).more hW.2.size) (Nat.le_refl _)
        rwa [same_self] at this)
      clear hc hc2 hx hy HRX HRY
      go_upto_region 13 with fail
      refine wp_region_held_drew (S := fun w' => Below w.heap.size w w' ∧ Below w7.heap.size w7 w') (by kernel_rfl) ⟨HI.out.1.trans ((below_drew _).mono HI.out.1.size), HI.out.2.trans ((below_drew _).mono HI.out.2.size)⟩ (fun hHeld => ?_)
      have S0 := Lib.hid hHeld
      clear hHeld HI
      generalize wr.drew = wj at S0 ⊢
      refine wpAnyH_take (i := 0) (oi := ⟨some 49, _, _, _, _, _⟩) (v := ?va1) rfl (by kernel_rfl) (by kernel_rfl) (by kernel_rfl) (fun _ _ _ h => h) (Or.inl ⟨by rfl, ?ya1⟩) S0.out ?ra1
      case ya1 =>
        rintro w' hSw
        go_simp
        try with_reducible rfl
      try simp only [Act.put, List.setIfInBounds_toArray, List.set_cons_zero, List.set_cons_succ]
      refine wpAnyH_take (i := 1) (oi := ⟨some 50, _, _, _, _, _⟩) (v := ?va2) rfl (by kernel_rfl) (by kernel_rfl) (by kernel_rfl) (fun _ _ _ h => h) (Or.inl ⟨by rfl, ?ya2⟩) S0.out ?ra2
      case ya2 =>
        rintro w' hSw
        go_simp
        try with_reducible rfl
      try simp only [Act.put, List.setIfInBounds_toArray, List.set_cons_zero, List.set_cons_succ]
      refine wpAnyH_take (i := 2) (oi := ⟨some 51, _, _, _, _, _⟩) (v := ?va3) rfl (by kernel_rfl) (by kernel_rfl) (by kernel_rfl) (fun _ _ _ h => h) (Or.inl ⟨by rfl, ?ya3⟩) S0.out ?ra3
      case ya3 =>
        rintro w' hSw
        go_simp
        try with_reducible rfl
      try simp only [Act.put, List.setIfInBounds_toArray, List.set_cons_zero, List.set_cons_succ]
      refine wpAnyH_take (i := 3) (oi := ⟨some 52, _, _, _, _, _⟩) rfl (by kernel_rfl) (by kernel_rfl) (by kernel_rfl) (fun _ _ _ h => h) (yieldsIf_load_mid (by rfl) 34 (.tmp 51) rfl b (o + k * 9) ?xa4 (rcs r s) _ (fun W h => HC.out W h) Try.underlying34 rfl rec_info) S0.out ?ra4
      case xa4 => first | rfl | (simp [Act.eval, go_sem]; done)
      try simp only [Act.put, List.setIfInBounds_toArray, List.set_cons_zero, List.set_cons_succ]
      refine wpAnyH_take (i := 4) (oi := ⟨some 53, _, _, _, _, _⟩) (v := ?va5) rfl (by kernel_rfl) (by kernel_rfl) (by kernel_rfl) (fun _ _ _ h => h) (Or.inl ⟨by rfl, ?ya5⟩) S0.out ?ra5
      case ya5 =>
        rintro w' hSw
        go_simp
        try with_reducible rfl
      try simp only [Act.put, List.setIfInBounds_toArray, List.set_cons_zero, List.set_cons_succ]
      refine wpAnyH_take (i := 5) (oi := ⟨some 54, _, _, _, _, _⟩) (v := ?va6) rfl (by kernel_rfl) (by kernel_rfl) (by kernel_rfl) (fun _ _ _ h => h) (Or.inl ⟨by rfl, ?ya6⟩) S0.out ?ra6
      case ya6 =>
        rintro w' hSw
        go_simp
        try with_reducible rfl
      try simp only [Act.put, List.setIfInBounds_toArray, List.set_cons_zero, List.set_cons_succ]
      refine wpAnyH_take (i := 6) (oi := ⟨some 55, _, _, _, _, _⟩) (v := ?va7) rfl (by kernel_rfl) (by kernel_rfl) (by kernel_rfl) (fun _ _ _ h => h) (Or.inl ⟨by rfl, ?ya7⟩) S0.out ?ra7
      case ya7 =>
        rintro w' hSw
        go_simp
        try with_reducible rfl
      try simp only [Act.put, List.setIfInBounds_toArray, List.set_cons_zero, List.set_cons_succ]
      refine wpAnyH_take (i := 7) (oi := ⟨some 56, _, _, _, _, _⟩) rfl (by kernel_rfl) (by kernel_rfl) (by kernel_rfl) (fun _ _ _ h => h) (yieldsIf_load_mid (by rfl) 34 (.tmp 55) rfl b2 (o2 + k * 9) ?xa8 (rcs r s2) _ (fun W h => HC2.out W h) Try.underlying34 rfl rec_info) S0.out ?ra8
      case xa8 => first | rfl | (simp [Act.eval, go_sem]; done)
      try simp only [Act.put, List.setIfInBounds_toArray, List.set_cons_zero, List.set_cons_succ]
      refine wpAnyH_ready (rs := [8]) (by kernel_rfl) (by simp) ?_
      refine (AllReadyH.cons rfl (fun K hK => ?_) AllReadyH.nil)
      go_simp
      refine (HSM.out _ S0.out).mono ?_
      rintro e w9 ⟨rfl, hb9⟩
      have S9 : Hid (Below w.heap.size w w9 ∧ Below w7.heap.size w7 w9) := ⟨S0.out.1.trans (hb9.mono S0.out.1.size), S0.out.2.trans (hb9.mono S0.out.2.size)⟩
      clear hb9 S0
      refine hK _ _ S9.out (fun _ => ?_)
      clear hK K
      try simp only [Act.put, List.setIfInBounds_toArray, List.set_cons_zero, List.set_cons_succ]
      refine wpAnyH_take (i := 9) (oi := ⟨some 58, _, _, _, _, _⟩) (v := ?va10) rfl (by kernel_rfl) (by kernel_rfl) (by kernel_rfl) (fun _ _ _ h => h) (Or.inl ⟨by rfl, ?ya10⟩) S9.out ?ra10
      case ya10 =>
        rintro w' hSw
        go_simp
        try with_reducible rfl
      try simp only [Act.put, List.setIfInBounds_toArray, List.set_cons_zero, List.set_cons_succ]
      refine wpAnyH_done (by kernel_rfl) ?_ _
      have hn200 := HN2.out
      go_wp2
      go_roundw
      case rel => exact ⟨k + 1, by omega, by go_num, S9.out⟩
      case measure => simp [intOf]; omega
  case rest =>
    have HW : Hid (Below w.heap.size w wc) := hcut
    clear hcut HW4 HO4 HEZ
    have HDE := Lib.hid (decodeRow_any A1 n1 c1 raw wc HL1.out (by omega) ((HB1.out.below HW.out).more HW.out.size) HA1.out)
    unfold DecR at HDE
    have HDN := Lib.hid (decRowM_none (l := raw))
    have HDA := Lib.hid (fun rs => decRowM_again (l := raw) (rs := rs))
    obtain ⟨DM, hDM⟩ : ∃ DM, DM = decRowM raw := ⟨_, rfl⟩
    rw [← hDM] at HDE HDN HDA
    clear hDM
    obtain ⟨E2, rs2⟩ := DM
    dsimp only at HDE HDN
    go_wp2_with fail
    refine HDE.out.mono ?_
    rintro e w5 ⟨v5, ys, rfl, hr5, he5, hb5⟩
    have HW5 := Lib.hid (HW.out.trans (hb5.mono HW.out.size))
    obtain ⟨A5, c5, rfl, hyc, -, -, hrl5⟩ := hr5.rl
    have HRL5 := Lib.hid hrl5
    have HYE := Lib.hid he5
    clear hr5 he5 hb5 hrl5 HDE HW
    by_cases hE2 : E2 = 0
    case neg =>
      have hne : (E2 != 0) = true := by simp [hE2]
      have hyl : ys.length = 0 := by have := congrArg List.length HYE.out; rw [HDN.out hE2, List.length_map] at this; exact this
      rw [hyl]
      clear hE2 hyl hyc
      go_wp2
      go_ret
      exact ⟨rfl, HW5.out⟩
    subst hE2
    obtain ⟨g1, g2, g3, g4⟩ := HDA.out rs2 rfl
    have HYL : Hid (ys.length = rs2.length) := (show _ = _ by have := congrArg List.length HYE.out; rw [List.length_map] at this; exact this)
    have HEN := Lib.hid (encodeRow_any A5 ys.length c5 ys w5 rfl (by rw [HYL.out]; omega) HRL5.out (fun y hy => g4 y.1 (by rw [← HYE.out]; exact List.mem_map_of_mem hy)))
    unfold EncR at HEN
    rw [HYE.out, rowE_of g1 g2, if_pos rfl, g3] at HEN
    have h00 : ((0 : Int) != 0) = false := by decide
    have h01 : ((0 : Int) == 0) = true := rfl
    clear g1 g2 g3 g4
    go_wp2_with fail
    refine HEN.out.mono ?_
    rintro e w6 ⟨v6, rfl, ho6, hb6⟩
    have HW6 := Lib.hid (HW5.out.trans (hb6.mono HW5.out.size))
    obtain ⟨A6, n6, c6, rfl, hl6, -, -, -, hbs6⟩ := ho6.open
    have HEQ := Lib.hid (equal_n A6 A1 raw raw c6 c1 n6 n1 w6 hl6 HL1.out (by have := HL1.out; omega) _ _ hbs6 ((HB1.out.below HW6.out).more HW6.out.size))
    rw [show decide (raw = raw) = true by simp] at HEQ
    clear ho6 hb6 hl6 hbs6 HEN
    go_wp2_with fail
    refine HEQ.out.mono ?_
    rintro e w8 ⟨rfl, rfl⟩
    go_wp2
    go_ret
    exact ⟨rfl, HW6.out⟩

theorem resT_RecordAgain : Try.f5.resultTypes = #[4] := by kernel_rfl
set_option maxRecDepth 100000 in
theorem lifted_RecordAgain (os : Os) (started : os.Started) (H : Type) (enc : TypeId × Value → H) :
    ReturnsInHanded {} Try.checked os 5 .any (Rows.recordAgainSpec.pre6 enc Try.prog Try.f5 Rows.recordAgainRow.domain false) (Rows.recordAgainSpec.post enc Try.prog Try.f5 false true false false) := by
  refine Lift.law_lift (C := Try.checked) (s := Rows.recordAgainSpec) (tb := 4) own laidOut started (by kernel_rfl) Try.func5
    (ChangeSpec.witness6 (enc := enc) (C := Try.checked) false ⟨#[], #[.slice none 0 0, .slice none 0 0], []⟩ 8 (by kernel_rfl) (by kernel_rfl) (by kernel_rfl) (by kernel_rfl))
    rfl resT_RecordAgain Try.underlying4 (by
      have hr : ∀ t ∈ ([22, 25] : List TypeId), Try.prog.readableRec t = true ∧ t < Try.prog.types.size := by
        intro t ht
        simp only [List.mem_cons, List.not_mem_nil, or_false] at ht
        rcases ht with rfl | rfl <;> exact ⟨by kernel_rfl, of_decide_eq_true (by kernel_rfl)⟩
      intro t ht
      exact hr t (by
        have ht' : t ∈ Try.f5.params.toList := ht
        rw [Try.params5] at ht'
        exact ht')) ?_
  intro W base args ds p hval0 hA0 hsz0
  have hval : ∀ (j : Nat) t v, Try.f5.params[j]? = some t → args[j]? = some v → Value.okWide Try.prog W .any base t v := hval0
  have hA : DataW.TrodAll enc Try.prog W 0 (fun _ => true) true Try.f5.params.toList args.toList ds p := hA0
  have hsz : (DataW.weightsEach Try.prog Try.f5.params.toList ds).all (· ≤ reachBytes) = true := hsz0
  clear hval0 hA0 hsz0
  rw [Try.params5] at hA hval hsz
  obtain ⟨v0, vs0, d0, ds0, p0, q0, hargs, rfl, rfl, h0, r0⟩ := trodAll_cons hA
  obtain ⟨v1, vs1, d1, ds1, p1, q1, rfl, rfl, rfl, h1, r1⟩ := trodAll_cons r0
  obtain ⟨rfl, rfl, rfl⟩ := trodAll_nil r1
  obtain rfl : args = #[v0, v1] := by cases args; simp_all
  obtain ⟨A0, n0, c0, os0, rfl, hl0, hlc0, hn0, hm0, ho0, hk0⟩ := open_recs (hval 0 22 v0 rfl rfl) h0 (by rw [List.all_eq_true] at hsz ⊢; intro z hz; exact hsz z (DataW.weights_mem_each (j := 0) (t := 22) (d := d0) rfl rfl z hz))
  obtain ⟨A1, len1, cap1, l1, rfl, hl1, hlc1, hcm1, hn1, hb1, hd1⟩ := Lift.open_bytes Try.underlying25 Try.underlying5 (by kernel_rfl) (hval 1 25 v1 rfl rfl) h1
  have hc1 : cap1 ≤ 140737488351232 := Lift.bytes_reach bytes1 hsz (j := 1) rfl rfl Try.underlying25 hd1
  exact ⟨rfl, again_walk A0 n0 c0 os0 A1 len1 cap1 l1 W hl0 hlc0 ho0 hk0 hl1 hlc1 hc1 hn1 hb1⟩

theorem proved_RecordAgain : Rows.RecordAgainSaid :=
  OpenClaim.holds_of_wide 5 Try.f5 rfl rfl rfl rfl rfl rfl rfl ⟨rfl, rfl, rfl, rfl, rfl⟩ rfl rfl rfl rfl rfl (by kernel_rfl) Try.func5 (by kernel_rfl)
    (of_decide_eq_true (by kernel_rfl)) (by unfold Func.isWrapper; first | (rw [if_pos (by decide +kernel)]; kernel_rfl) | (rw [if_neg (by decide +kernel)]; exact ⟨rfl, rfl⟩))
    (fun os started H enc _ => lifted_RecordAgain os started H enc)
end Go.Proofs.Ytnljhopikjkflaa.RecAgn
