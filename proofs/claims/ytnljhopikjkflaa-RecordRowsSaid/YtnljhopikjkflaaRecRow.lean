/-
  RecordRows: whatever row is encoded into the document's bytes, or refused; which records are the same. No condition.
-/
import Derived.Test.YtnljhopikjkflaaRec16
import Derived.Test.YtnljhopikjkflaaRec17
import Derived.Test.YtnljhopikjkflaaRec18
import Derived.Test.YtnljhopikjkflaaRec11
import Derived.Test.YtnljhopikjkflaaRec3
import Derived.Test.YtnljhopikjkflaaRecO
import Derived.Deep.Cut
import Derived.Deep.CutRange
namespace Go.Proofs.Ytnljhopikjkflaa.RecRow
set_option maxRecDepth 100000
open Go.RowKit Go.Proofs.Ytnljhopikjkflaa.Wd Go.Proofs.Ytnljhopikjkflaa.Oct Go.Proofs.Ytnljhopikjkflaa.Dsk Go.Proofs.Ytnljhopikjkflaa.Rec Go.ChangeShapes Go.WideShapes Go.ChangeAt

theorem own : ownKnob Try.prog.godebug = none := by kernel_rfl
theorem laidOut : laidOutB Try.prog = true := by kernel_rfl
theorem same_self (r : RM) : sameB r r = true := by simp [sameB]
theorem not_large {xs : List (RM × RS)} (h : largeM (xs.map (·.1)) = false) : xs.length ≤ 200 ∧ ∀ x ∈ xs, x.1.old.length ≤ 1000 ∧ x.1.new.length ≤ 1000 := by
  unfold largeM bigR at h
  simp only [Bool.or_eq_false_iff, decide_eq_false_iff_not, List.length_map, List.any_map, List.any_eq_false, Function.comp, Bool.or_eq_true, decide_eq_true_eq, not_or] at h
  exact ⟨by omega, fun x hx => by have := h.2 x hx; omega⟩
theorem rowE_cases (rs : List RM) : (64 < rs.length ∧ rowE rs = 3) ∨ (rs.length ≤ 64 ∧ rowM rs = false ∧ rowE rs = 150) ∨ (rs.length ≤ 64 ∧ rowM rs = true ∧ rowE rs = 0) := by
  unfold rowE
  by_cases h : 64 < rs.length
  · exact .inl ⟨h, by rw [if_pos h]⟩
  · rw [if_neg h]
    cases hr : rowM rs
    · exact .inr (.inl ⟨by omega, rfl, by simp⟩)
    · exact .inr (.inr ⟨by omega, rfl, by simp⟩)

set_option maxHeartbeats 8000000 in
theorem rows_walk (A : Option Addr) (n c : Nat) (xs : List (RM × RS)) (w : World) (hl : xs.length = n) (hnc : n ≤ c) (hR : Rl w w.heap.size A xs) (hk : ∀ x ∈ xs, RecOk w x) :
    Calls Try.prog 3 #[.slice A n c] w fun e w' => e = .returned (.bool true) ∧ Below w.heap.size w w' := by
  have HL := Lib.hid hl
  have HR := Lib.hid hR
  have HK := Lib.hid hk
  clear hl hR hk
  go_enter Try.func3, Try.ntmps3
  go_wp2_with fail
  refine (wakes_any _).mono ?_
  rintro e w1 ⟨rfl, hb1⟩
  have HB1 := Lib.hid hb1
  clear hb1
  go_wp2_with fail
  refine (large_any A n c xs w1 HL.out ((HR.out.below HB1.out).more HB1.out.size)).mono ?_
  rintro e w2 ⟨rfl, hb2⟩
  have HB2 := Lib.hid (HB1.out.trans (hb2.mono HB1.out.size))
  have HNL := Lib.hid (not_large (xs := xs))
  clear hb2 HB1
  generalize largeM (xs.map (·.1)) = M at HNL ⊢
  cases M
  case true =>
    go_wp2
    go_ret
    exact ⟨rfl, HB2.out⟩
  have HN2 : Hid (n ≤ 200) := (show _ ≤ _ from by have := (HNL.out rfl).1; rw [HL.out] at this; exact this)
  have HS2 : Hid (∀ x ∈ xs, x.2.no ≤ 2000 ∧ x.2.nn ≤ 2000) := (show ∀ x ∈ _, _ from fun x hx => by
    have h1 := (HNL.out rfl).2 x hx
    have h2 := (HK.out x hx).at_.lo
    have h3 := (HK.out x hx).at_.ln
    omega)
  have HU : Hid (∀ x ∈ xs, U4 x.1) := (show ∀ x ∈ _, _ from fun x hx => ⟨(HK.out x hx).u1, (HK.out x hx).u2, (HK.out x hx).u3, (HK.out x hx).u4⟩)
  obtain ⟨rs, hrs⟩ : ∃ rs, rs = xs.map (·.1) := ⟨_, rfl⟩
  have HRS := Lib.hid hrs
  have HRL : Hid (rs.length = n) := (show _ = _ by rw [hrs, List.length_map, HL.out])
  have HALL : Hid (∀ W, Below w.heap.size w W → Calls Try.prog 10 #[.slice A n c] W (AllOut W rs)) := (show ∀ W, _ → _ from fun W hW => by rw [hrs]; exact all_any A n c xs W HL.out (by have := HN2.out; omega) ((HR.out.below hW).more hW.size) HS2.out)
  have HUY : Hid (∀ ys : List (RM × RS), ys.map (·.1) = rs → ys.length = n ∧ ∀ y ∈ ys, U4 y.1) := (show ∀ ys, _ → _ from fun ys h => by
    refine ⟨by have := congrArg List.length h; rw [List.length_map, HRL.out] at this; exact this, fun y hy => ?_⟩
    have h1 : y.1 ∈ ys.map (·.1) := List.mem_map_of_mem hy
    rw [h, hrs] at h1
    obtain ⟨x, hx, e⟩ := List.mem_map.1 h1
    rw [← e]
    exact HU.out x hx)
  clear hrs HNL
  obtain ⟨E, hE⟩ : ∃ E, E = rowE rs := ⟨_, rfl⟩
  have HE := Lib.hid hE
  clear hE
  unfold AllOut at HALL
  go_wp2_with fail
  refine (HALL.out _ HB2.out).mono ?_
  rintro e w3 ⟨v3, ys3, rfl, hr3, he3, hb3⟩
  have HB3 := Lib.hid (HB2.out.trans (hb3.mono HB2.out.size))
  obtain ⟨A3, c3, rfl, -, -, -, hrl3⟩ := hr3.rl
  have HEN := Lib.hid (encodeRow_any A3 ys3.length c3 ys3 w3 rfl (by have := (HUY.out ys3 he3).1; have := HN2.out; omega) hrl3 (HUY.out ys3 he3).2)
  unfold EncR at HEN
  rw [he3, ← HE.out, HRL.out] at HEN
  rw [(HUY.out ys3 he3).1] at HEN ⊢
  clear hr3 he3 hb3 hrl3 HB2
  go_wp2_with fail
  refine HEN.out.mono ?_
  rintro e w4 ⟨v4, rfl, ho4, hb4⟩
  have HB4 := Lib.hid (HB3.out.trans (hb4.mono HB3.out.size))
  obtain ⟨A4, n4, c4, rfl, hl4, -, -, -, hbs4⟩ := ho4.open
  have HL4 := Lib.hid hl4
  have HO4 : Hid (Bs w4 w4.heap.size A4 (if E = 0 then rowB n rs else [])) := hbs4
  clear ho4 hb4 HEN HB3 hl4 hbs4
  go_wp2_with fail
  refine (HALL.out _ HB4.out).mono ?_
  rintro e w5 ⟨v5, ys5, rfl, hr5, he5, hb5⟩
  have HB5 := Lib.hid (HB4.out.trans (hb5.mono HB4.out.size))
  have HO5 := Lib.hid (HO4.out.below hb5)
  obtain ⟨A5, c5, rfl, -, -, -, hrl5⟩ := hr5.rl
  have HCK := Lib.hid (checkRow_any A5 ys5.length c5 ys5 w5 rfl (by have := (HUY.out ys5 he5).1; have := HN2.out; omega) hrl5 (HUY.out ys5 he5).2)
  rw [he5, ← HE.out] at HCK
  rw [(HUY.out ys5 he5).1] at HCK ⊢
  have HZ5 : Hid (w4.heap.size ≤ w5.heap.size) := hb5.size
  clear hr5 he5 hb5 hrl5 HB4 HO4 HALL
  go_wp2_with fail
  refine HCK.out.mono ?_
  rintro e w6 ⟨rfl, hb6⟩
  have HB6 := Lib.hid (HB5.out.trans (hb6.mono HB5.out.size))
  have HO6 : Hid (Bs w6 w6.heap.size A4 (if E = 0 then rowB n rs else [])) := (HO5.out.more HZ5.out |>.below hb6).more hb6.size
  clear hb6 HCK HB5 HO5 HZ5
  go_wp2_with fail
  go_loopw [22] (fun t22 wr => ∃ k : Nat, k ≤ n ∧ t22 = .int .i64 (k : Int) ∧ Hid (Below w.heap.size w wr ∧ Below w6.heap.size w6 wr)) (fun t22 _ => n - (intOf t22).toNat)
  case atStart => exact ⟨0, by omega, rfl, ⟨HB6.out, Below.refl _ _⟩⟩
  case round =>
    obtain ⟨k, hk, rfl, HI⟩ := hrel
    by_cases hlt : k < n
    case pos =>
      clear HB6
      have h1 : (k : Int) < (n : Int) := by omega
      have hk0 : 0 ≤ (k : Int) := by omega
      obtain ⟨x, hx⟩ : ∃ x, xs[k]? = some x := ⟨_, List.getElem?_eq_getElem (by rw [HL.out]; exact hlt)⟩
      obtain ⟨b, o, rfl, hblt, hc⟩ := HR.out.1 (by rw [HL.out]; omega)
      have HC : Hid (∀ W, Below w.heap.size w W ∧ Below w6.heap.size w6 W → W.rangeAt b (o + k * 9) (rcs x.1 x.2)) := (show ∀ W, _ → _ from fun W hW j v hj => (hW.1.cell (p := ⟨b, o + k * 9 + j, none⟩) hblt).trans (hc k x hx j v hj))
      have HIN := Lib.hid (show (Try.prog.info? 34).map (·.size) = some (rcs x.1 x.2).length from rec_info)
      have HRX := Lib.hid (HR.out.2 x (List.mem_of_getElem? hx))
      have HSX := Lib.hid (HS2.out x (List.mem_of_getElem? hx))
      have HPV : Hid (0 < k → ∃ (p : Nat) (z : RM × RS), k = p + 1 ∧ RecAt w w.heap.size z.1 z.2 ∧ ∀ W, Below w.heap.size w W ∧ Below w6.heap.size w6 W → W.rangeAt b (o + p * 9) (rcs z.1 z.2)) := (show _ → _ from fun hk0 => by
        obtain ⟨p, rfl⟩ : ∃ p, k = p + 1 := ⟨k - 1, by omega⟩
        obtain ⟨z, hz⟩ : ∃ z, xs[p]? = some z := ⟨_, List.getElem?_eq_getElem (by rw [HL.out]; omega)⟩
        exact ⟨p, z, rfl, HR.out.2 z (List.mem_of_getElem? hz), fun W hW j v hj => (hW.1.cell (p := ⟨b, o + p * 9 + j, none⟩) hblt).trans (hc p z hz j v hj)⟩)
      clear hc hx
      obtain ⟨r, s⟩ := x
      dsimp only at HC HIN HRX HSX
      have HCO : Hid (∀ W, Below w.heap.size w W ∧ Below w6.heap.size w6 W → Calls Try.prog 13 #[.agg (rcs r s).toArray] W fun e w' => ∃ s2, e = .returned (.agg (rcs r s2).toArray) ∧ RecAt w' w'.heap.size r s2 ∧ Below W.heap.size W w') := (show ∀ W, _ → _ from fun W hW => copied_any r s W ((HRX.out.below hW.1).more hW.1.size) HSX.out)
      go_upto_region 10 with fail
      refine wp_region_held_drew (S := fun w' => Below w.heap.size w w' ∧ Below w6.heap.size w6 w') (by kernel_rfl) ⟨HI.out.1.trans ((below_drew _).mono HI.out.1.size), HI.out.2.trans ((below_drew _).mono HI.out.2.size)⟩ (fun hHeld => ?_)
      have S0 := Lib.hid hHeld
      clear hHeld HI
      generalize wr.drew = wj at S0 ⊢
      by_cases hk1 : k = 0
      · have hkp2 : decide ((0 : Int) < (k : Int)) = false := by simp; omega
        have hkp3 : decide (0 < k) = false := by simp; omega
        have hkp4 : ¬ 0 < k := by omega
        clear hk1
        refine wpAnyH_take (i := 0) (oi := ⟨some 25, _, _, _, _, _⟩) (v := ?va1) rfl (by kernel_rfl) (by kernel_rfl) (by kernel_rfl) (fun _ _ _ h => h) (Or.inl ⟨by rfl, ?ya1⟩) S0.out ?ra1
        case ya1 =>
          rintro w' hSw
          go_simp
          try with_reducible rfl
        try simp only [Act.put, List.setIfInBounds_toArray, List.set_cons_zero, List.set_cons_succ]
        refine wpAnyH_take (i := 1) (oi := ⟨some 26, _, _, _, _, _⟩) (v := ?va2) rfl (by kernel_rfl) (by kernel_rfl) (by kernel_rfl) (fun _ _ _ h => h) (Or.inl ⟨by rfl, ?ya2⟩) S0.out ?ra2
        case ya2 =>
          rintro w' hSw
          go_simp
          try with_reducible rfl
        try simp only [Act.put, List.setIfInBounds_toArray, List.set_cons_zero, List.set_cons_succ]
        refine wpAnyH_take (i := 2) (oi := ⟨some 27, _, _, _, _, _⟩) (v := ?va3) rfl (by kernel_rfl) (by kernel_rfl) (by kernel_rfl) (fun _ _ _ h => h) (Or.inl ⟨by rfl, ?ya3⟩) S0.out ?ra3
        case ya3 =>
          rintro w' hSw
          go_simp
          try with_reducible rfl
        try simp only [Act.put, List.setIfInBounds_toArray, List.set_cons_zero, List.set_cons_succ]
        refine wpAnyH_take (i := 3) (oi := ⟨some 28, _, _, _, _, _⟩) rfl (by kernel_rfl) (by kernel_rfl) (by kernel_rfl) (fun _ _ _ h => h) (yieldsIf_load_mid (by rfl) 34 (.tmp 27) rfl b (o + k * 9) ?xa4 (rcs r s) _ (fun W h => HC.out W h) Try.underlying34 rfl rec_info) S0.out ?ra4
        case xa4 => first | rfl | (simp [Act.eval, go_sem]; done)
        try simp only [Act.put, List.setIfInBounds_toArray, List.set_cons_zero, List.set_cons_succ]
        refine wpAnyH_take (i := 4) (oi := ⟨some 29, _, _, _, _, _⟩) (v := ?va5) rfl (by kernel_rfl) (by kernel_rfl) (by kernel_rfl) (fun _ _ _ h => h) (Or.inl ⟨by rfl, ?ya5⟩) S0.out ?ra5
        case ya5 =>
          rintro w' hSw
          go_simp
          try with_reducible rfl
        try simp only [Act.put, List.setIfInBounds_toArray, List.set_cons_zero, List.set_cons_succ]
        refine wpAnyH_take (i := 5) (oi := ⟨some 30, _, _, _, _, _⟩) (v := ?va6) rfl (by kernel_rfl) (by kernel_rfl) (by kernel_rfl) (fun _ _ _ h => h) (Or.inl ⟨by rfl, ?ya6⟩) S0.out ?ra6
        case ya6 =>
          rintro w' hSw
          go_simp
          try with_reducible rfl
        try simp only [Act.put, List.setIfInBounds_toArray, List.set_cons_zero, List.set_cons_succ]
        refine wpAnyH_take (i := 6) (oi := ⟨some 31, _, _, _, _, _⟩) (v := ?va7) rfl (by kernel_rfl) (by kernel_rfl) (by kernel_rfl) (fun _ _ _ h => h) (Or.inl ⟨by rfl, ?ya7⟩) S0.out ?ra7
        case ya7 =>
          rintro w' hSw
          go_simp
          try with_reducible rfl
        try simp only [Act.put, List.setIfInBounds_toArray, List.set_cons_zero, List.set_cons_succ]
        refine wpAnyH_take (i := 7) (oi := ⟨some 32, _, _, _, _, _⟩) rfl (by kernel_rfl) (by kernel_rfl) (by kernel_rfl) (fun _ _ _ h => h) (yieldsIf_load_mid (by rfl) 34 (.tmp 31) rfl b (o + k * 9) ?xa8 (rcs r s) _ (fun W h => HC.out W h) Try.underlying34 rfl rec_info) S0.out ?ra8
        case xa8 => first | rfl | (simp [Act.eval, go_sem]; done)
        try simp only [Act.put, List.setIfInBounds_toArray, List.set_cons_zero, List.set_cons_succ]
        refine wpAnyH_ready (rs := [8]) (by kernel_rfl) (by simp) ?_
        refine (AllReadyH.cons rfl (fun K hK => ?_) AllReadyH.nil)
        go_simp
        refine (HCO.out _ S0.out).mono ?_
        rintro e w7 ⟨s2, rfl, hr7, hb7⟩
        have HR7 := Lib.hid hr7
        clear hr7
        have Sa9 : Hid (Below w.heap.size w w7 ∧ Below w6.heap.size w6 w7) := ⟨S0.out.1.trans (hb7.mono S0.out.1.size), S0.out.2.trans (hb7.mono S0.out.2.size)⟩
        clear hb7 S0
        refine hK _ _ Sa9.out (fun _ => ?_)
        clear hK K
        try simp only [Act.put, List.setIfInBounds_toArray, List.set_cons_zero, List.set_cons_succ]
        refine wpAnyH_ready (rs := [9]) (by kernel_rfl) (by simp) ?_
        refine (AllReadyH.cons rfl (fun K hK => ?_) AllReadyH.nil)
        go_simp
        have HSS := same_rec r r s s2 w7.heap.size w7 ((HRX.out.below Sa9.out.1).more Sa9.out.1.size) HR7.out (Nat.le_refl _)
        rw [same_self] at HSS
        refine HSS.mono ?_
        rintro e w8 ⟨rfl, hb8⟩
        clear HSS HR7
        have Sa10 : Hid (Below w.heap.size w w8 ∧ Below w6.heap.size w6 w8) := ⟨Sa9.out.1.trans (hb8.mono Sa9.out.1.size), Sa9.out.2.trans (hb8.mono Sa9.out.2.size)⟩
        clear hb8 Sa9
        refine hK _ _ Sa10.out (fun _ => ?_)
        clear hK K
        try simp only [Act.put, List.setIfInBounds_toArray, List.set_cons_zero, List.set_cons_succ]
        refine wpAnyH_take (i := 10) (oi := ⟨some 35, _, _, _, _, _⟩) (v := ?va11) rfl (by kernel_rfl) (by kernel_rfl) (by kernel_rfl) (fun _ _ _ h => h) (Or.inl ⟨by rfl, ?ya11⟩) Sa10.out ?ra11
        case ya11 =>
          rintro w' hSw
          go_simp
          try with_reducible rfl
        try simp only [Act.put, List.setIfInBounds_toArray, List.set_cons_zero, List.set_cons_succ]
        refine wpAnyH_take (i := 11) (oi := ⟨some 36, _, _, _, _, _⟩) (v := ?va12) rfl (by kernel_rfl) (by kernel_rfl) (by kernel_rfl) (fun _ _ _ h => h) (Or.inl ⟨by rfl, ?ya12⟩) Sa10.out ?ra12
        case ya12 =>
          rintro w' hSw
          go_simp
          try with_reducible rfl
        try simp only [Act.put, List.setIfInBounds_toArray, List.set_cons_zero, List.set_cons_succ]
        refine wpAnyH_take (i := 12) (oi := ⟨some 37, _, _, _, _, _⟩) (v := ?va13) rfl (by kernel_rfl) (by kernel_rfl) (by kernel_rfl) (fun _ _ _ h => h) (Or.inl ⟨by rfl, ?ya13⟩) Sa10.out ?ra13
        case ya13 =>
          rintro w' hSw
          go_simp
          try with_reducible rfl
        try simp only [Act.put, List.setIfInBounds_toArray, List.set_cons_zero, List.set_cons_succ]
        refine wpAnyH_take (i := 13) (oi := ⟨some 38, _, _, _, _, _⟩) (v := ?va14) rfl (by kernel_rfl) (by kernel_rfl) (by kernel_rfl) (fun _ _ _ h => h) (Or.inl ⟨by rfl, ?ya14⟩) Sa10.out ?ra14
        case ya14 =>
          rintro w' hSw
          go_simp
          try with_reducible rfl
        try simp only [Act.put, List.setIfInBounds_toArray, List.set_cons_zero, List.set_cons_succ]
        refine wpAnyH_take (i := 14) (oi := ⟨some 39, _, _, _, _, _⟩) (v := ?va15) rfl (by kernel_rfl) (by kernel_rfl) (by kernel_rfl) (fun _ _ _ h => h) (Or.inl ⟨by rfl, ?ya15⟩) Sa10.out ?ra15
        case ya15 =>
          rintro w' hSw
          go_simp
          try with_reducible rfl
        try simp only [Act.put, List.setIfInBounds_toArray, List.set_cons_zero, List.set_cons_succ]
        refine wpAnyH_take (i := 15) (oi := ⟨some 40, _, _, _, _, _⟩) (v := undef) rfl (by kernel_rfl) (by kernel_rfl) (by kernel_rfl) (fun _ _ _ h => h) (Or.inr ⟨by rfl, rfl⟩) Sa10.out ?ra16
        try simp only [Act.put, List.setIfInBounds_toArray, List.set_cons_zero, List.set_cons_succ]
        refine wpAnyH_take (i := 16) (oi := ⟨some 41, _, _, _, _, _⟩) (v := undef) rfl (by kernel_rfl) (by kernel_rfl) (by kernel_rfl) (fun _ _ _ h => h) (Or.inr ⟨by rfl, rfl⟩) Sa10.out ?ra17
        try simp only [Act.put, List.setIfInBounds_toArray, List.set_cons_zero, List.set_cons_succ]
        refine wpAnyH_take (i := 17) (oi := ⟨some 42, _, _, _, _, _⟩) (v := undef) rfl (by kernel_rfl) (by kernel_rfl) (by kernel_rfl) (fun _ _ _ h => h) (Or.inr ⟨by rfl, rfl⟩) Sa10.out ?ra18
        try simp only [Act.put, List.setIfInBounds_toArray, List.set_cons_zero, List.set_cons_succ]
        refine wpAnyH_take (i := 18) (oi := ⟨some 43, _, _, _, _, _⟩) (v := undef) rfl (by kernel_rfl) (by kernel_rfl) (by kernel_rfl) (fun _ _ _ h => h) (Or.inr ⟨by rfl, rfl⟩) Sa10.out ?ra19
        try simp only [Act.put, List.setIfInBounds_toArray, List.set_cons_zero, List.set_cons_succ]
        refine wpAnyH_take (i := 19) (oi := ⟨some 44, _, _, _, _, _⟩) (v := undef) rfl (by kernel_rfl) (by kernel_rfl) (by kernel_rfl) (fun _ _ _ h => h) (Or.inr ⟨by rfl, rfl⟩) Sa10.out ?ra20
        try simp only [Act.put, List.setIfInBounds_toArray, List.set_cons_zero, List.set_cons_succ]
        refine wpAnyH_take (i := 20) (oi := ⟨some 45, _, _, _, _, _⟩) (v := undef) rfl (by kernel_rfl) (by kernel_rfl) (by kernel_rfl) (fun _ _ _ h => h) (Or.inr ⟨by rfl, rfl⟩) Sa10.out ?ra21
        try simp only [Act.put, List.setIfInBounds_toArray, List.set_cons_zero, List.set_cons_succ]
        refine wpAnyH_take (i := 21) (oi := ⟨some 46, _, _, _, _, _⟩) (v := undef) rfl (by kernel_rfl) (by kernel_rfl) (by kernel_rfl) (fun _ _ _ h => h) (Or.inr ⟨by rfl, rfl⟩) Sa10.out ?ra22
        try simp only [Act.put, List.setIfInBounds_toArray, List.set_cons_zero, List.set_cons_succ]
        refine wpAnyH_take (i := 22) (oi := ⟨some 47, _, _, _, _, _⟩) (v := undef) rfl (by kernel_rfl) (by kernel_rfl) (by kernel_rfl) (fun _ _ _ h => h) (Or.inr ⟨by rfl, rfl⟩) Sa10.out ?ra23
        try simp only [Act.put, List.setIfInBounds_toArray, List.set_cons_zero, List.set_cons_succ]
        refine wpAnyH_take (i := 23) (oi := ⟨some 48, _, _, _, _, _⟩) (v := undef) rfl (by kernel_rfl) (by kernel_rfl) (by kernel_rfl) (fun _ _ _ h => h) (Or.inr ⟨by rfl, rfl⟩) Sa10.out ?ra24
        try simp only [Act.put, List.setIfInBounds_toArray, List.set_cons_zero, List.set_cons_succ]
        refine wpAnyH_take (i := 24) (oi := ⟨some 49, _, _, _, _, _⟩) (v := undef) rfl (by kernel_rfl) (by kernel_rfl) (by kernel_rfl) (fun _ _ _ h => h) (Or.inr ⟨by rfl, rfl⟩) Sa10.out ?ra25
        try simp only [Act.put, List.setIfInBounds_toArray, List.set_cons_zero, List.set_cons_succ]
        refine wpAnyH_take (i := 25) (oi := ⟨some 50, _, _, _, _, _⟩) (v := undef) rfl (by kernel_rfl) (by kernel_rfl) (by kernel_rfl) (fun _ _ _ h => h) (Or.inr ⟨by rfl, rfl⟩) Sa10.out ?ra26
        try simp only [Act.put, List.setIfInBounds_toArray, List.set_cons_zero, List.set_cons_succ]
        refine wpAnyH_take (i := 26) (oi := ⟨some 51, _, _, _, _, _⟩) (v := undef) rfl (by kernel_rfl) (by kernel_rfl) (by kernel_rfl) (fun _ _ _ h => h) (Or.inr ⟨by rfl, rfl⟩) Sa10.out ?ra27
        try simp only [Act.put, List.setIfInBounds_toArray, List.set_cons_zero, List.set_cons_succ]
        refine wpAnyH_take (i := 27) (oi := ⟨some 52, _, _, _, _, _⟩) (v := undef) rfl (by kernel_rfl) (by kernel_rfl) (by kernel_rfl) (fun _ _ _ h => h) (Or.inr ⟨by rfl, rfl⟩) Sa10.out ?ra28
        try simp only [Act.put, List.setIfInBounds_toArray, List.set_cons_zero, List.set_cons_succ]
        refine wpAnyH_take (i := 28) (oi := ⟨some 53, _, _, _, _, _⟩) (v := undef) rfl (by kernel_rfl) (by kernel_rfl) (by kernel_rfl) (fun _ _ _ h => h) (Or.inr ⟨by rfl, rfl⟩) Sa10.out ?ra29
        try simp only [Act.put, List.setIfInBounds_toArray, List.set_cons_zero, List.set_cons_succ]
        refine wpAnyH_take (i := 29) (oi := ⟨some 54, _, _, _, _, _⟩) (v := undef) rfl (by kernel_rfl) (by kernel_rfl) (by kernel_rfl) (fun _ _ _ h => h) (Or.inr ⟨by rfl, rfl⟩) Sa10.out ?ra30
        try simp only [Act.put, List.setIfInBounds_toArray, List.set_cons_zero, List.set_cons_succ]
        refine wpAnyH_take (i := 30) (oi := ⟨some 55, _, _, _, _, _⟩) (v := undef) rfl (by kernel_rfl) (by kernel_rfl) (by kernel_rfl) (fun _ _ _ h => h) (Or.inr ⟨by rfl, rfl⟩) Sa10.out ?ra31
        try simp only [Act.put, List.setIfInBounds_toArray, List.set_cons_zero, List.set_cons_succ]
        refine wpAnyH_take (i := 31) (oi := ⟨some 56, _, _, _, _, _⟩) (v := undef) rfl (by kernel_rfl) (by kernel_rfl) (by kernel_rfl) (fun _ _ _ h => h) (Or.inr ⟨by rfl, rfl⟩) Sa10.out ?ra32
        try simp only [Act.put, List.setIfInBounds_toArray, List.set_cons_zero, List.set_cons_succ]
        refine wpAnyH_take (i := 32) (oi := ⟨some 57, _, _, _, _, _⟩) (v := undef) rfl (by kernel_rfl) (by kernel_rfl) (by kernel_rfl) (fun _ _ _ h => h) (Or.inr ⟨by rfl, rfl⟩) Sa10.out ?ra33
        try simp only [Act.put, List.setIfInBounds_toArray, List.set_cons_zero, List.set_cons_succ]
        refine wpAnyH_take (i := 33) (oi := ⟨some 58, _, _, _, _, _⟩) (v := undef) rfl (by kernel_rfl) (by kernel_rfl) (by kernel_rfl) (fun _ _ _ h => h) (Or.inr ⟨by rfl, rfl⟩) Sa10.out ?ra34
        try simp only [Act.put, List.setIfInBounds_toArray, List.set_cons_zero, List.set_cons_succ]
        refine wpAnyH_take (i := 34) (oi := ⟨some 59, _, _, _, _, _⟩) (v := undef) rfl (by kernel_rfl) (by kernel_rfl) (by kernel_rfl) (fun _ _ _ h => h) (Or.inr ⟨by rfl, rfl⟩) Sa10.out ?ra35
        try simp only [Act.put, List.setIfInBounds_toArray, List.set_cons_zero, List.set_cons_succ]
        refine wpAnyH_take (i := 35) (oi := ⟨some 60, _, _, _, _, _⟩) (v := undef) rfl (by kernel_rfl) (by kernel_rfl) (by kernel_rfl) (fun _ _ _ h => h) (Or.inr ⟨by rfl, rfl⟩) Sa10.out ?ra36
        try simp only [Act.put, List.setIfInBounds_toArray, List.set_cons_zero, List.set_cons_succ]
        refine wpAnyH_take (i := 36) (oi := ⟨some 61, _, _, _, _, _⟩) (v := ?va37) rfl (by kernel_rfl) (by kernel_rfl) (by kernel_rfl) (fun _ _ _ h => h) (Or.inl ⟨by rfl, ?ya37⟩) Sa10.out ?ra37
        case ya37 =>
          rintro w' hSw
          go_simp
          try with_reducible rfl
        try simp only [Act.put, List.setIfInBounds_toArray, List.set_cons_zero, List.set_cons_succ]
        refine wpAnyH_take (i := 37) (oi := ⟨some 62, _, _, _, _, _⟩) (v := ?va38) rfl (by kernel_rfl) (by kernel_rfl) (by kernel_rfl) (fun _ _ _ h => h) (Or.inl ⟨by rfl, ?ya38⟩) Sa10.out ?ra38
        case ya38 =>
          rintro w' hSw
          go_simp
          try with_reducible rfl
        try simp only [Act.put, List.setIfInBounds_toArray, List.set_cons_zero, List.set_cons_succ]
        refine wpAnyH_done (by kernel_rfl) ?_ _
        have hn200 := HN2.out
        go_wp2
        go_roundw
        case rel => exact ⟨k + 1, by omega, by go_num, Sa10.out⟩
        case measure => simp [intOf]; omega
      obtain ⟨p, z, hkp, hzr, hzc⟩ := HPV.out (by omega)
      obtain ⟨rz, sz⟩ := z
      have hkp2 : decide ((0 : Int) < (k : Int)) = true := by simp; omega
      have hkp3 : decide (0 < k) = true := by simp; omega
      have hkp4 : 0 < k := by omega
      have hk1' : (k : Int) - 1 = (p : Int) := by omega
      have hwp : IntKind.i64.wrap (p : Int) = (p : Int) := by have := HN2.out; simp [IntKind.wrap, IntKind.signed, IntKind.bits]; omega
      have hpn : (p : Int) < (n : Int) := by omega
      have hpN : p < n := by omega
      have hp0 : 0 ≤ (p : Int) := by omega
      have HCZ := Lib.hid hzc
      have HRZ := Lib.hid hzr
      have HSM1 : Hid (∀ W, Below w.heap.size w W ∧ Below w6.heap.size w6 W → Calls Try.prog 12 #[.agg (rcs r s).toArray, .agg (rcs rz sz).toArray] W fun e w' => e = .returned (.bool (sameB r rz)) ∧ Below W.heap.size W w') := (show ∀ W, _ → _ from fun W hW => same_rec r rz s sz w.heap.size W (HRX.out.below hW.1) (HRZ.out.below hW.1) hW.1.size)
      have HSM2 : Hid (∀ W, Below w.heap.size w W ∧ Below w6.heap.size w6 W → Calls Try.prog 14 #[.agg (rcs r s).toArray, .agg (rcs rz sz).toArray] W fun e w' => e = .returned (.bool (sameB r rz)) ∧ Below W.heap.size W w') := (show ∀ W, _ → _ from fun W hW => same_ref r rz s sz w.heap.size W (HRX.out.below hW.1) (HRZ.out.below hW.1) hW.1.size)
      generalize sameB r rz = m at HSM1 HSM2
      have hmm : (m != m) = false := by cases m <;> rfl
      clear hk1 hkp hzr hzc HPV
      refine wpAnyH_take (i := 0) (oi := ⟨some 25, _, _, _, _, _⟩) (v := ?vb1) rfl (by kernel_rfl) (by kernel_rfl) (by kernel_rfl) (fun _ _ _ h => h) (Or.inl ⟨by rfl, ?yb1⟩) S0.out ?rb1
      case yb1 =>
        rintro w' hSw
        go_simp
        try with_reducible rfl
      try simp only [Act.put, List.setIfInBounds_toArray, List.set_cons_zero, List.set_cons_succ]
      refine wpAnyH_take (i := 1) (oi := ⟨some 26, _, _, _, _, _⟩) (v := ?vb2) rfl (by kernel_rfl) (by kernel_rfl) (by kernel_rfl) (fun _ _ _ h => h) (Or.inl ⟨by rfl, ?yb2⟩) S0.out ?rb2
      case yb2 =>
        rintro w' hSw
        go_simp
        try with_reducible rfl
      try simp only [Act.put, List.setIfInBounds_toArray, List.set_cons_zero, List.set_cons_succ]
      refine wpAnyH_take (i := 2) (oi := ⟨some 27, _, _, _, _, _⟩) (v := ?vb3) rfl (by kernel_rfl) (by kernel_rfl) (by kernel_rfl) (fun _ _ _ h => h) (Or.inl ⟨by rfl, ?yb3⟩) S0.out ?rb3
      case yb3 =>
        rintro w' hSw
        go_simp
        try with_reducible rfl
      try simp only [Act.put, List.setIfInBounds_toArray, List.set_cons_zero, List.set_cons_succ]
      refine wpAnyH_take (i := 3) (oi := ⟨some 28, _, _, _, _, _⟩) rfl (by kernel_rfl) (by kernel_rfl) (by kernel_rfl) (fun _ _ _ h => h) (yieldsIf_load_mid (by rfl) 34 (.tmp 27) rfl b (o + k * 9) ?xb4 (rcs r s) _ (fun W h => HC.out W h) Try.underlying34 rfl rec_info) S0.out ?rb4
      case xb4 => first | rfl | (simp [Act.eval, go_sem]; done)
      try simp only [Act.put, List.setIfInBounds_toArray, List.set_cons_zero, List.set_cons_succ]
      refine wpAnyH_take (i := 4) (oi := ⟨some 29, _, _, _, _, _⟩) (v := ?vb5) rfl (by kernel_rfl) (by kernel_rfl) (by kernel_rfl) (fun _ _ _ h => h) (Or.inl ⟨by rfl, ?yb5⟩) S0.out ?rb5
      case yb5 =>
        rintro w' hSw
        go_simp
        try with_reducible rfl
      try simp only [Act.put, List.setIfInBounds_toArray, List.set_cons_zero, List.set_cons_succ]
      refine wpAnyH_take (i := 5) (oi := ⟨some 30, _, _, _, _, _⟩) (v := ?vb6) rfl (by kernel_rfl) (by kernel_rfl) (by kernel_rfl) (fun _ _ _ h => h) (Or.inl ⟨by rfl, ?yb6⟩) S0.out ?rb6
      case yb6 =>
        rintro w' hSw
        go_simp
        try with_reducible rfl
      try simp only [Act.put, List.setIfInBounds_toArray, List.set_cons_zero, List.set_cons_succ]
      refine wpAnyH_take (i := 6) (oi := ⟨some 31, _, _, _, _, _⟩) (v := ?vb7) rfl (by kernel_rfl) (by kernel_rfl) (by kernel_rfl) (fun _ _ _ h => h) (Or.inl ⟨by rfl, ?yb7⟩) S0.out ?rb7
      case yb7 =>
        rintro w' hSw
        go_simp
        try with_reducible rfl
      try simp only [Act.put, List.setIfInBounds_toArray, List.set_cons_zero, List.set_cons_succ]
      refine wpAnyH_take (i := 7) (oi := ⟨some 32, _, _, _, _, _⟩) rfl (by kernel_rfl) (by kernel_rfl) (by kernel_rfl) (fun _ _ _ h => h) (yieldsIf_load_mid (by rfl) 34 (.tmp 31) rfl b (o + k * 9) ?xb8 (rcs r s) _ (fun W h => HC.out W h) Try.underlying34 rfl rec_info) S0.out ?rb8
      case xb8 => first | rfl | (simp [Act.eval, go_sem]; done)
      try simp only [Act.put, List.setIfInBounds_toArray, List.set_cons_zero, List.set_cons_succ]
      refine wpAnyH_ready (rs := [8]) (by kernel_rfl) (by simp) ?_
      refine (AllReadyH.cons rfl (fun K hK => ?_) AllReadyH.nil)
      go_simp
      refine (HCO.out _ S0.out).mono ?_
      rintro e w7 ⟨s2, rfl, hr7, hb7⟩
      have HR7 := Lib.hid hr7
      clear hr7
      have Sb9 : Hid (Below w.heap.size w w7 ∧ Below w6.heap.size w6 w7) := ⟨S0.out.1.trans (hb7.mono S0.out.1.size), S0.out.2.trans (hb7.mono S0.out.2.size)⟩
      clear hb7 S0
      refine hK _ _ Sb9.out (fun _ => ?_)
      clear hK K
      try simp only [Act.put, List.setIfInBounds_toArray, List.set_cons_zero, List.set_cons_succ]
      refine wpAnyH_ready (rs := [9]) (by kernel_rfl) (by simp) ?_
      refine (AllReadyH.cons rfl (fun K hK => ?_) AllReadyH.nil)
      go_simp
      have HSS := same_rec r r s s2 w7.heap.size w7 ((HRX.out.below Sb9.out.1).more Sb9.out.1.size) HR7.out (Nat.le_refl _)
      rw [same_self] at HSS
      refine HSS.mono ?_
      rintro e w8 ⟨rfl, hb8⟩
      clear HSS HR7
      have Sb10 : Hid (Below w.heap.size w w8 ∧ Below w6.heap.size w6 w8) := ⟨Sb9.out.1.trans (hb8.mono Sb9.out.1.size), Sb9.out.2.trans (hb8.mono Sb9.out.2.size)⟩
      clear hb8 Sb9
      refine hK _ _ Sb10.out (fun _ => ?_)
      clear hK K
      try simp only [Act.put, List.setIfInBounds_toArray, List.set_cons_zero, List.set_cons_succ]
      refine wpAnyH_take (i := 10) (oi := ⟨some 35, _, _, _, _, _⟩) (v := ?vb11) rfl (by kernel_rfl) (by kernel_rfl) (by kernel_rfl) (fun _ _ _ h => h) (Or.inl ⟨by rfl, ?yb11⟩) Sb10.out ?rb11
      case yb11 =>
        rintro w' hSw
        go_simp
        try with_reducible rfl
      try simp only [Act.put, List.setIfInBounds_toArray, List.set_cons_zero, List.set_cons_succ]
      refine wpAnyH_take (i := 11) (oi := ⟨some 36, _, _, _, _, _⟩) (v := ?vb12) rfl (by kernel_rfl) (by kernel_rfl) (by kernel_rfl) (fun _ _ _ h => h) (Or.inl ⟨by rfl, ?yb12⟩) Sb10.out ?rb12
      case yb12 =>
        rintro w' hSw
        go_simp
        try with_reducible rfl
      try simp only [Act.put, List.setIfInBounds_toArray, List.set_cons_zero, List.set_cons_succ]
      refine wpAnyH_take (i := 12) (oi := ⟨some 37, _, _, _, _, _⟩) (v := ?vb13) rfl (by kernel_rfl) (by kernel_rfl) (by kernel_rfl) (fun _ _ _ h => h) (Or.inl ⟨by rfl, ?yb13⟩) Sb10.out ?rb13
      case yb13 =>
        rintro w' hSw
        go_simp
        try with_reducible rfl
      try simp only [Act.put, List.setIfInBounds_toArray, List.set_cons_zero, List.set_cons_succ]
      refine wpAnyH_take (i := 13) (oi := ⟨some 38, _, _, _, _, _⟩) (v := ?vb14) rfl (by kernel_rfl) (by kernel_rfl) (by kernel_rfl) (fun _ _ _ h => h) (Or.inl ⟨by rfl, ?yb14⟩) Sb10.out ?rb14
      case yb14 =>
        rintro w' hSw
        go_simp
        try with_reducible rfl
      try simp only [Act.put, List.setIfInBounds_toArray, List.set_cons_zero, List.set_cons_succ]
      refine wpAnyH_take (i := 14) (oi := ⟨some 39, _, _, _, _, _⟩) (v := ?vb15) rfl (by kernel_rfl) (by kernel_rfl) (by kernel_rfl) (fun _ _ _ h => h) (Or.inl ⟨by rfl, ?yb15⟩) Sb10.out ?rb15
      case yb15 =>
        rintro w' hSw
        go_simp
        try with_reducible rfl
      try simp only [Act.put, List.setIfInBounds_toArray, List.set_cons_zero, List.set_cons_succ]
      refine wpAnyH_take (i := 15) (oi := ⟨some 40, _, _, _, _, _⟩) (v := ?vb16) rfl (by kernel_rfl) (by kernel_rfl) (by kernel_rfl) (fun _ _ _ h => h) (Or.inl ⟨by rfl, ?yb16⟩) Sb10.out ?rb16
      case yb16 =>
        rintro w' hSw
        go_simp
        try with_reducible rfl
      try simp only [Act.put, List.setIfInBounds_toArray, List.set_cons_zero, List.set_cons_succ]
      refine wpAnyH_take (i := 16) (oi := ⟨some 41, _, _, _, _, _⟩) (v := ?vb17) rfl (by kernel_rfl) (by kernel_rfl) (by kernel_rfl) (fun _ _ _ h => h) (Or.inl ⟨by rfl, ?yb17⟩) Sb10.out ?rb17
      case yb17 =>
        rintro w' hSw
        go_simp
        try with_reducible rfl
      try simp only [Act.put, List.setIfInBounds_toArray, List.set_cons_zero, List.set_cons_succ]
      refine wpAnyH_take (i := 17) (oi := ⟨some 42, _, _, _, _, _⟩) (v := ?vb18) rfl (by kernel_rfl) (by kernel_rfl) (by kernel_rfl) (fun _ _ _ h => h) (Or.inl ⟨by rfl, ?yb18⟩) Sb10.out ?rb18
      case yb18 =>
        rintro w' hSw
        go_simp
        try with_reducible rfl
      try simp only [Act.put, List.setIfInBounds_toArray, List.set_cons_zero, List.set_cons_succ]
      refine wpAnyH_take (i := 18) (oi := ⟨some 43, _, _, _, _, _⟩) rfl (by kernel_rfl) (by kernel_rfl) (by kernel_rfl) (fun _ _ _ h => h) (yieldsIf_load_mid (by rfl) 34 (.tmp 42) rfl b (o + k * 9) ?xb19 (rcs r s) _ (fun W h => HC.out W h) Try.underlying34 rfl rec_info) Sb10.out ?rb19
      case xb19 => first | rfl | (simp [Act.eval, go_sem]; done)
      try simp only [Act.put, List.setIfInBounds_toArray, List.set_cons_zero, List.set_cons_succ]
      refine wpAnyH_take (i := 19) (oi := ⟨some 44, _, _, _, _, _⟩) (v := ?vb20) rfl (by kernel_rfl) (by kernel_rfl) (by kernel_rfl) (fun _ _ _ h => h) (Or.inl ⟨by rfl, ?yb20⟩) Sb10.out ?rb20
      case yb20 =>
        rintro w' hSw
        go_simp
        try with_reducible rfl
      try simp only [Act.put, List.setIfInBounds_toArray, List.set_cons_zero, List.set_cons_succ]
      refine wpAnyH_take (i := 20) (oi := ⟨some 45, _, _, _, _, _⟩) (v := ?vb21) rfl (by kernel_rfl) (by kernel_rfl) (by kernel_rfl) (fun _ _ _ h => h) (Or.inl ⟨by rfl, ?yb21⟩) Sb10.out ?rb21
      case yb21 =>
        rintro w' hSw
        go_simp
        try with_reducible rfl
      try simp only [Act.put, List.setIfInBounds_toArray, List.set_cons_zero, List.set_cons_succ]
      refine wpAnyH_take (i := 21) (oi := ⟨some 46, _, _, _, _, _⟩) (v := ?vb22) rfl (by kernel_rfl) (by kernel_rfl) (by kernel_rfl) (fun _ _ _ h => h) (Or.inl ⟨by rfl, ?yb22⟩) Sb10.out ?rb22
      case yb22 =>
        rintro w' hSw
        go_simp
        try with_reducible rfl
      try simp only [Act.put, List.setIfInBounds_toArray, List.set_cons_zero, List.set_cons_succ]
      refine wpAnyH_take (i := 22) (oi := ⟨some 47, _, _, _, _, _⟩) (v := ?vb23) rfl (by kernel_rfl) (by kernel_rfl) (by kernel_rfl) (fun _ _ _ h => h) (Or.inl ⟨by rfl, ?yb23⟩) Sb10.out ?rb23
      case yb23 =>
        rintro w' hSw
        go_simp
        try with_reducible rfl
      try simp only [Act.put, List.setIfInBounds_toArray, List.set_cons_zero, List.set_cons_succ]
      refine wpAnyH_take (i := 23) (oi := ⟨some 48, _, _, _, _, _⟩) rfl (by kernel_rfl) (by kernel_rfl) (by kernel_rfl) (fun _ _ _ h => h) (yieldsIf_load_mid (by rfl) 34 (.tmp 47) rfl b (o + p * 9) ?xb24 (rcs rz sz) _ (fun W h => HCZ.out W h) Try.underlying34 rfl rec_info) Sb10.out ?rb24
      case xb24 => first | rfl | (simp [Act.eval, go_sem]; done)
      try simp only [Act.put, List.setIfInBounds_toArray, List.set_cons_zero, List.set_cons_succ]
      refine wpAnyH_take (i := 25) (oi := ⟨some 50, _, _, _, _, _⟩) (v := ?vb25) rfl (by kernel_rfl) (by kernel_rfl) (by kernel_rfl) (fun _ _ _ h => h) (Or.inl ⟨by rfl, ?yb25⟩) Sb10.out ?rb25
      case yb25 =>
        rintro w' hSw
        go_simp
        try with_reducible rfl
      try simp only [Act.put, List.setIfInBounds_toArray, List.set_cons_zero, List.set_cons_succ]
      refine wpAnyH_take (i := 26) (oi := ⟨some 51, _, _, _, _, _⟩) (v := ?vb26) rfl (by kernel_rfl) (by kernel_rfl) (by kernel_rfl) (fun _ _ _ h => h) (Or.inl ⟨by rfl, ?yb26⟩) Sb10.out ?rb26
      case yb26 =>
        rintro w' hSw
        go_simp
        try with_reducible rfl
      try simp only [Act.put, List.setIfInBounds_toArray, List.set_cons_zero, List.set_cons_succ]
      refine wpAnyH_take (i := 27) (oi := ⟨some 52, _, _, _, _, _⟩) (v := ?vb27) rfl (by kernel_rfl) (by kernel_rfl) (by kernel_rfl) (fun _ _ _ h => h) (Or.inl ⟨by rfl, ?yb27⟩) Sb10.out ?rb27
      case yb27 =>
        rintro w' hSw
        go_simp
        try with_reducible rfl
      try simp only [Act.put, List.setIfInBounds_toArray, List.set_cons_zero, List.set_cons_succ]
      refine wpAnyH_take (i := 28) (oi := ⟨some 53, _, _, _, _, _⟩) rfl (by kernel_rfl) (by kernel_rfl) (by kernel_rfl) (fun _ _ _ h => h) (yieldsIf_load_mid (by rfl) 34 (.tmp 52) rfl b (o + k * 9) ?xb28 (rcs r s) _ (fun W h => HC.out W h) Try.underlying34 rfl rec_info) Sb10.out ?rb28
      case xb28 => first | rfl | (simp [Act.eval, go_sem]; done)
      try simp only [Act.put, List.setIfInBounds_toArray, List.set_cons_zero, List.set_cons_succ]
      refine wpAnyH_take (i := 29) (oi := ⟨some 54, _, _, _, _, _⟩) (v := ?vb29) rfl (by kernel_rfl) (by kernel_rfl) (by kernel_rfl) (fun _ _ _ h => h) (Or.inl ⟨by rfl, ?yb29⟩) Sb10.out ?rb29
      case yb29 =>
        rintro w' hSw
        go_simp
        try with_reducible rfl
      try simp only [Act.put, List.setIfInBounds_toArray, List.set_cons_zero, List.set_cons_succ]
      refine wpAnyH_take (i := 30) (oi := ⟨some 55, _, _, _, _, _⟩) (v := ?vb30) rfl (by kernel_rfl) (by kernel_rfl) (by kernel_rfl) (fun _ _ _ h => h) (Or.inl ⟨by rfl, ?yb30⟩) Sb10.out ?rb30
      case yb30 =>
        rintro w' hSw
        go_simp
        try with_reducible rfl
      try simp only [Act.put, List.setIfInBounds_toArray, List.set_cons_zero, List.set_cons_succ]
      refine wpAnyH_take (i := 31) (oi := ⟨some 56, _, _, _, _, _⟩) (v := ?vb31) rfl (by kernel_rfl) (by kernel_rfl) (by kernel_rfl) (fun _ _ _ h => h) (Or.inl ⟨by rfl, ?yb31⟩) Sb10.out ?rb31
      case yb31 =>
        rintro w' hSw
        go_simp
        try with_reducible rfl
      try simp only [Act.put, List.setIfInBounds_toArray, List.set_cons_zero, List.set_cons_succ]
      refine wpAnyH_take (i := 32) (oi := ⟨some 57, _, _, _, _, _⟩) (v := ?vb32) rfl (by kernel_rfl) (by kernel_rfl) (by kernel_rfl) (fun _ _ _ h => h) (Or.inl ⟨by rfl, ?yb32⟩) Sb10.out ?rb32
      case yb32 =>
        rintro w' hSw
        go_simp
        try with_reducible rfl
      try simp only [Act.put, List.setIfInBounds_toArray, List.set_cons_zero, List.set_cons_succ]
      refine wpAnyH_take (i := 33) (oi := ⟨some 58, _, _, _, _, _⟩) rfl (by kernel_rfl) (by kernel_rfl) (by kernel_rfl) (fun _ _ _ h => h) (yieldsIf_load_mid (by rfl) 34 (.tmp 57) rfl b (o + p * 9) ?xb33 (rcs rz sz) _ (fun W h => HCZ.out W h) Try.underlying34 rfl rec_info) Sb10.out ?rb33
      case xb33 => first | rfl | (simp [Act.eval, go_sem]; done)
      try simp only [Act.put, List.setIfInBounds_toArray, List.set_cons_zero, List.set_cons_succ]
      refine wpAnyH_ready (rs := [24]) (by kernel_rfl) (by simp) ?_
      refine (AllReadyH.cons rfl (fun K hK => ?_) AllReadyH.nil)
      go_simp
      refine (HSM1.out _ Sb10.out).mono ?_
      rintro e w9 ⟨rfl, hb9⟩
      have Sb34 : Hid (Below w.heap.size w w9 ∧ Below w6.heap.size w6 w9) := ⟨Sb10.out.1.trans (hb9.mono Sb10.out.1.size), Sb10.out.2.trans (hb9.mono Sb10.out.2.size)⟩
      clear hb9 Sb10
      refine hK _ _ Sb34.out (fun _ => ?_)
      clear hK K
      try simp only [Act.put, List.setIfInBounds_toArray, List.set_cons_zero, List.set_cons_succ]
      refine wpAnyH_ready (rs := [34]) (by kernel_rfl) (by simp) ?_
      refine (AllReadyH.cons rfl (fun K hK => ?_) AllReadyH.nil)
      go_simp
      refine (HSM2.out _ Sb34.out).mono ?_
      rintro e w10 ⟨rfl, hb9⟩
      have Sb35 : Hid (Below w.heap.size w w10 ∧ Below w6.heap.size w6 w10) := ⟨Sb34.out.1.trans (hb9.mono Sb34.out.1.size), Sb34.out.2.trans (hb9.mono Sb34.out.2.size)⟩
      clear hb9 Sb34
      refine hK _ _ Sb35.out (fun _ => ?_)
      clear hK K
      try simp only [Act.put, List.setIfInBounds_toArray, List.set_cons_zero, List.set_cons_succ]
      refine wpAnyH_take (i := 35) (oi := ⟨some 60, _, _, _, _, _⟩) (v := ?vb36) rfl (by kernel_rfl) (by kernel_rfl) (by kernel_rfl) (fun _ _ _ h => h) (Or.inl ⟨by rfl, ?yb36⟩) Sb35.out ?rb36
      case yb36 =>
        rintro w' hSw
        go_simp
        try with_reducible rfl
      try simp only [Act.put, List.setIfInBounds_toArray, List.set_cons_zero, List.set_cons_succ]
      refine wpAnyH_take (i := 36) (oi := ⟨some 61, _, _, _, _, _⟩) (v := ?vb37) rfl (by kernel_rfl) (by kernel_rfl) (by kernel_rfl) (fun _ _ _ h => h) (Or.inl ⟨by rfl, ?yb37⟩) Sb35.out ?rb37
      case yb37 =>
        rintro w' hSw
        go_simp
        try with_reducible rfl
      try simp only [Act.put, List.setIfInBounds_toArray, List.set_cons_zero, List.set_cons_succ]
      refine wpAnyH_take (i := 37) (oi := ⟨some 62, _, _, _, _, _⟩) (v := ?vb38) rfl (by kernel_rfl) (by kernel_rfl) (by kernel_rfl) (fun _ _ _ h => h) (Or.inl ⟨by rfl, ?yb38⟩) Sb35.out ?rb38
      case yb38 =>
        rintro w' hSw
        go_simp
        try with_reducible rfl
      try simp only [Act.put, List.setIfInBounds_toArray, List.set_cons_zero, List.set_cons_succ]
      refine wpAnyH_done (by kernel_rfl) ?_ _
      have hn200 := HN2.out
      go_wp2
      go_roundw
      case rel => exact ⟨k + 1, by omega, by go_num, Sb35.out⟩
      case measure => simp [intOf]; omega
    case neg =>
      have h1 : ¬ (k : Int) < (n : Int) := by omega
      obtain rfl : k = n := by omega
      have HBW := Lib.hid HI.out.1
      have HOW : Hid (Bs wr wr.heap.size A4 (if E = 0 then rowB k rs else [])) := (HO6.out.below HI.out.2).more HI.out.2.size
      clear HI HO6 HB6
      have HCS := Lib.hid (rowE_cases rs)
      rw [HRL.out, ← HE.out] at HCS
      rcases HCS.out with ⟨h64, hE⟩ | ⟨h64, hM, hE⟩ | ⟨h64, hM, hE⟩
      · subst hE
        have hgt : (64 : Int) < (k : Int) := by omega
        obtain rfl : n4 = 0 := by simpa using HL4.out.symm
        clear HCS h64
        go_wp2
        go_ret
        exact ⟨rfl, HBW.out⟩
      · subst hE
        have hgt : ¬ (64 : Int) < (k : Int) := by omega
        obtain rfl : n4 = 0 := by simpa using HL4.out.symm
        have HRR := Lib.hid (rightRow_any A k c xs wr HL.out (by omega) ((HR.out.below HBW.out).more HBW.out.size) HU.out)
        rw [← HRS.out, hM] at HRR
        clear HCS hM h64
        go_wp2_with fail
        refine HRR.out.mono ?_
        rintro e w8 ⟨rfl, hb8⟩
        have HB8 := Lib.hid (HBW.out.trans (hb8.mono HBW.out.size))
        clear hb8 HRR
        go_wp2
        go_ret
        exact ⟨rfl, HB8.out⟩
      · subst hE
        have hgt : ¬ (64 : Int) < (k : Int) := by omega
        have HRR := Lib.hid (rightRow_any A k c xs wr HL.out (by omega) ((HR.out.below HBW.out).more HBW.out.size) HU.out)
        rw [← HRS.out, hM] at HRR
        have HOK : Hid (∀ x ∈ xs, okM x.1 = true) := (show ∀ x ∈ _, _ from fun x hx => rowM_ok hM x.1 (by rw [HRS.out]; exact List.mem_map_of_mem hx))
        have HBL : Hid ((rowB k rs).length ≤ 20000) := (show _ ≤ _ from by have := rowB_le k (rowM_ok hM); rw [HRL.out] at this; omega)
        clear HCS hM
        rw [if_pos rfl] at HOW
        have HL4' : Hid ((rowB k rs).length = n4) := (show _ = _ by have := HL4.out; rwa [if_pos rfl] at this)
        go_wp2_with fail
        refine HRR.out.mono ?_
        rintro e w8 ⟨rfl, hb8⟩
        have HB8 := Lib.hid (HBW.out.trans (hb8.mono HBW.out.size))
        have HO8 := Lib.hid ((HOW.out.below hb8).more hb8.size)
        have HRW := Lib.hid (refRow_any A k c xs w8 HL.out h64 ((HR.out.below HB8.out).more HB8.out.size) HU.out HOK.out)
        rw [← HRS.out] at HRW
        clear hb8 HRR HBW HOW
        go_wp2_with fail
        refine HRW.out.mono ?_
        rintro e w9 ⟨v9, rfl, ho9, hb9⟩
        have HB9 := Lib.hid (HB8.out.trans (hb9.mono HB8.out.size))
        have HO9 := Lib.hid (HO8.out.below hb9)
        obtain ⟨A9, n9, c9, rfl, hl9, -, -, -, hbs9⟩ := ho9.open
        have HST := Lib.hid (same_true A4 A9 (rowB k rs) c4 c9 n4 n9 w9 HL4'.out hl9 (by have := HL4'.out; have := HBL.out; omega) _ _ HO9.out hbs9)
        clear ho9 hb9 hl9 hbs9 HRW HB8 HO8
        go_wp2_with fail
        refine HST.out.mono ?_
        rintro e wf ⟨rfl, q, rfl⟩
        go_wp2
        go_ret
        exact ⟨rfl, below_still HB9.out ⟨q, rfl⟩⟩

theorem resT_RecordRows : Try.f3.resultTypes = #[4] := by kernel_rfl
set_option maxRecDepth 100000 in
theorem lifted_RecordRows (os : Os) (started : os.Started) (H : Type) (enc : TypeId × Value → H) :
    ReturnsInHanded {} Try.checked os 3 .any (Rows.recordRowsSpec.pre6 enc Try.prog Try.f3 Rows.recordRowsRow.domain false) (Rows.recordRowsSpec.post enc Try.prog Try.f3 false true false false) := by
  refine Lift.law_lift (C := Try.checked) (s := Rows.recordRowsSpec) (tb := 4) own laidOut started (by kernel_rfl) Try.func3
    (ChangeSpec.witness6 (enc := enc) (C := Try.checked) false ⟨#[], #[.slice none 0 0], []⟩ 8 (by kernel_rfl) (by kernel_rfl) (by kernel_rfl) (by kernel_rfl))
    rfl resT_RecordRows Try.underlying4 (by
      have hr : ∀ t ∈ ([22] : List TypeId), Try.prog.readableRec t = true ∧ t < Try.prog.types.size := by
        intro t ht
        simp only [List.mem_cons, List.not_mem_nil, or_false] at ht
        rcases ht with rfl <;> exact ⟨by kernel_rfl, of_decide_eq_true (by kernel_rfl)⟩
      intro t ht
      exact hr t (by
        have ht' : t ∈ Try.f3.params.toList := ht
        rw [Try.params3] at ht'
        exact ht')) ?_
  intro W base args ds p hval0 hA0 hsz0
  have hval : ∀ (j : Nat) t v, Try.f3.params[j]? = some t → args[j]? = some v → Value.okWide Try.prog W .any base t v := hval0
  have hA : DataW.TrodAll enc Try.prog W 0 (fun _ => true) true Try.f3.params.toList args.toList ds p := hA0
  have hsz : (DataW.weightsEach Try.prog Try.f3.params.toList ds).all (· ≤ reachBytes) = true := hsz0
  clear hval0 hA0 hsz0
  rw [Try.params3] at hA hval hsz
  obtain ⟨v0, vs0, d0, ds0, p0, q0, hargs, rfl, rfl, h0, r0⟩ := trodAll_cons hA
  obtain ⟨rfl, rfl, rfl⟩ := trodAll_nil r0
  obtain rfl : args = #[v0] := by cases args; simp_all
  obtain ⟨A0, n0, c0, os0, rfl, hl0, hlc0, hn0, hm0, ho0, hk0⟩ := open_recs (hval 0 22 v0 rfl rfl) h0 (by rw [List.all_eq_true] at hsz ⊢; intro z hz; exact hsz z (DataW.weights_mem_each (j := 0) (t := 22) (d := d0) rfl rfl z hz))
  exact ⟨rfl, rows_walk A0 n0 c0 os0 W hl0 hlc0 ho0 hk0⟩

theorem proved_RecordRows : Rows.RecordRowsSaid :=
  OpenClaim.holds_of_wide 3 Try.f3 rfl rfl rfl rfl rfl rfl rfl ⟨rfl, rfl, rfl, rfl, rfl⟩ rfl rfl rfl rfl rfl (by kernel_rfl) Try.func3 (by kernel_rfl)
    (of_decide_eq_true (by kernel_rfl)) (by unfold Func.isWrapper; first | (rw [if_pos (by decide +kernel)]; kernel_rfl) | (rw [if_neg (by decide +kernel)]; exact ⟨rfl, rfl⟩))
    (fun os started H enc _ => lifted_RecordRows os started H enc)
end Go.Proofs.Ytnljhopikjkflaa.RecRow
