/-
  The reference's Same and Copy; short.
-/
import Derived.Test.YtnojkoefdigcnaaPgG
namespace Go.Proofs.Ytnojkoefdigcnaa.Pg
set_option maxRecDepth 100000
open Go.RowKit Go.Proofs.Ytnojkoefdigcnaa.Wd Go.Proofs.Ytnojkoefdigcnaa.Oct Go.Proofs.Ytnojkoefdigcnaa.Dsk Go.Proofs.Ytnojkoefdigcnaa.Rec Go.Proofs.Ytnojkoefdigcnaa.Sum Go.Proofs.Ytnojkoefdigcnaa.Sm


set_option maxHeartbeats 2000000 in
theorem rsame_any (n1 : Int) (l1 : Nat) (s1 : PS) (f1 : Nat → List UInt8) (n2 : Int) (l2 : Nat) (s2 : PS) (f2 : Nat → List UInt8) (B : Nat) (w : World) (h1 : PgAt w B f1 s1) (h2 : PgAt w B f2 s2) (hB : B ≤ w.heap.size) :
    Calls Try.prog 47 #[.agg (pcs n1 l1 s1).toArray, .agg (pcs n2 l2 s2).toArray] w fun e w' => e = .returned (.bool (sameM n1 l1 f1 n2 l2 f2)) ∧ Below w.heap.size w w' := by
  have mixed : Try.prog.follows .mixedOrders = true := by kernel_rfl
  have HH1 := Lib.hid h1
  have HH2 := Lib.hid h2
  clear h1 h2
  have HI := Lib.hid (eq4_iff (f := f1) (g := f2))
  obtain ⟨V, hV⟩ : ∃ V, V = sameM n1 l1 f1 n2 l2 f2 := ⟨_, rfl⟩
  rw [← hV]
  have HV := Lib.hid hV
  clear hV
  unfold pcs
  go_enter Try.func47, Try.ntmps47
  go_upto_region 1 with fail
  have HB := Lib.hid (boxed2 w n1 l1 s1 n2 l2 s2)
  unfold pcs at HB
  generalize (w.alloc (.cells #[.int .i64 n1, .int .u64 (l1 : Int), .slice (s1.A 0) (s1.n 0) (s1.c 0), .slice (s1.A 1) (s1.n 1) (s1.c 1), .slice (s1.A 2) (s1.n 2) (s1.c 2), .slice (s1.A 3) (s1.n 3) (s1.c 3)] 73)).alloc (.cells #[.int .i64 n2, .int .u64 (l2 : Int), .slice (s2.A 0) (s2.n 0) (s2.c 0), .slice (s2.A 1) (s2.n 1) (s2.c 1), .slice (s2.A 2) (s2.n 2) (s2.c 2), .slice (s2.A 3) (s2.n 3) (s2.c 3)] 73) = w1 at HB ⊢
  have HA1 := Lib.hid (HH1.out.below (HB.out.hb.mono hB))
  have HA2 := Lib.hid (HH2.out.below (HB.out.hb.mono hB))
  clear HH1 HH2
  go_wp2_with fail
  go_loopw [4, 6] (fun r i wr => ∃ k : Nat, k ≤ 4 ∧ i = .int .i64 (k : Int) ∧ r = .bool false ∧ Hid ((∀ j, j < k → f1 j = f2 j) ∧ Still w1 wr)) (fun _ i _ => 4 - (intOf i).toNat)
  case atStart => exact ⟨0, by omega, rfl, rfl, ⟨fun j h => by omega, Still.refl _⟩⟩
  case round =>
    obtain ⟨k, hk, rfl, rfl, HR⟩ := hrel
    have HJ := Lib.hid HR.out.1
    have HS := Lib.hid HR.out.2
    have HBr := Lib.hid (HB.out.then (below_still (Below.refl _ _) HS.out))
    clear HR
    by_cases hlt : k < 4
    · have hq1 : (k : Int) < 4 := by omega
      have hq0 : 0 ≤ (k : Int) := by omega
      have hca : wr.cell? ⟨w.heap.size, 2 + k, none⟩ = some (.slice (s1.A k) (s1.n k) (s1.c k)) := pcs_cell HBr.out.ra k hlt
      have hcb : wr.cell? ⟨w.heap.size + 1, 2 + k, none⟩ = some (.slice (s2.A k) (s2.n k) (s2.c k)) := pcs_cell HBr.out.rb k hlt
      have hva := conv_any wr.drew B (s1.A k) (s1.n k) (s1.c k) (f1 k) (HA1.out k hlt).len ((HA1.out k hlt).bs.below (below_still (Below.refl _ _) HS.out.drew))
      have hvb := conv_any wr.drew B (s2.A k) (s2.n k) (s2.c k) (f2 k) (HA2.out k hlt).len ((HA2.out k hlt).bs.below (below_still (Below.refl _ _) HS.out.drew))
      go_upto_region 4 with fail
      refine wp_region_held_drew (S := fun w' => w'.cell? ⟨w.heap.size, 2 + k, none⟩ = some (.slice (s1.A k) (s1.n k) (s1.c k)) ∧ w'.cell? ⟨w.heap.size + 1, 2 + k, none⟩ = some (.slice (s2.A k) (s2.n k) (s2.c k)) ∧ (convert 31 9 (.slice (s1.A k) (s1.n k) (s1.c k))).run Try.prog w' = .ok (.string (bstr (f1 k))) w' ∧ (convert 31 9 (.slice (s2.A k) (s2.n k) (s2.c k))).run Try.prog w' = .ok (.string (bstr (f2 k))) w') (by kernel_rfl) ⟨hca, hcb, hva, hvb⟩ (fun hHeld => ?_)
      refine wpAnyH_take (i := 0) (oi := ⟨some 9, _, _, _, _, _⟩) (v := ?v0rs) rfl (by kernel_rfl) (by kernel_rfl) (by kernel_rfl) (fun _ _ _ h => h) (Or.inl ⟨by rfl, ?y0rs⟩) hHeld ?r0rs
      case y0rs =>
        rintro w' hSw
        go_simp
        try with_reducible rfl
      try simp only [Act.put, List.setIfInBounds_toArray, List.set_cons_zero, List.set_cons_succ]
      refine wpAnyH_take (i := 1) (oi := ⟨some 10, _, _, _, _, _⟩) (v := ?v1rs) rfl (by kernel_rfl) (by kernel_rfl) (by kernel_rfl) (fun _ _ _ h => h) (Or.inl ⟨by rfl, ?y1rs⟩) hHeld ?r1rs
      case y1rs =>
        rintro w' hSw
        go_simp
        try with_reducible rfl
      try simp only [Act.put, List.setIfInBounds_toArray, List.set_cons_zero, List.set_cons_succ]
      refine wpAnyH_take (i := 2) (oi := ⟨some 11, _, _, _, _, _⟩) (v := ?v2rs) rfl (by kernel_rfl) (by kernel_rfl) (by kernel_rfl) (fun _ _ _ h => h) (Or.inl ⟨by rfl, ?y2rs⟩) hHeld ?r2rs
      case y2rs =>
        rintro w' hSw
        go_simp
        try with_reducible rfl
      try simp only [Act.put, List.setIfInBounds_toArray, List.set_cons_zero, List.set_cons_succ]
      refine wpAnyH_take (i := 3) (oi := ⟨some 12, _, _, _, _, _⟩) (v := ?v3rs) rfl (by kernel_rfl) (by kernel_rfl) (by kernel_rfl) (fun _ _ _ h => h) (Or.inl ⟨by rfl, ?y3rs⟩) hHeld ?r3rs
      case y3rs =>
        rintro w' hSw
        obtain ⟨ca, cb, cc, cd⟩ := hSw
        go_simp
        try with_reducible rfl
      try simp only [Act.put, List.setIfInBounds_toArray, List.set_cons_zero, List.set_cons_succ]
      refine wpAnyH_take (i := 4) (oi := ⟨some 13, _, _, _, _, _⟩) (v := ?v4rs) rfl (by kernel_rfl) (by kernel_rfl) (by kernel_rfl) (fun _ _ _ h => h) (Or.inl ⟨by rfl, ?y4rs⟩) hHeld ?r4rs
      case y4rs =>
        rintro w' hSw
        obtain ⟨ca, cb, cc, cd⟩ := hSw
        go_simp
        try with_reducible rfl
      try simp only [Act.put, List.setIfInBounds_toArray, List.set_cons_zero, List.set_cons_succ]
      refine wpAnyH_take (i := 5) (oi := ⟨some 14, _, _, _, _, _⟩) (v := ?v5rs) rfl (by kernel_rfl) (by kernel_rfl) (by kernel_rfl) (fun _ _ _ h => h) (Or.inl ⟨by rfl, ?y5rs⟩) hHeld ?r5rs
      case y5rs =>
        rintro w' hSw
        go_simp
        try with_reducible rfl
      try simp only [Act.put, List.setIfInBounds_toArray, List.set_cons_zero, List.set_cons_succ]
      refine wpAnyH_take (i := 6) (oi := ⟨some 15, _, _, _, _, _⟩) (v := ?v6rs) rfl (by kernel_rfl) (by kernel_rfl) (by kernel_rfl) (fun _ _ _ h => h) (Or.inl ⟨by rfl, ?y6rs⟩) hHeld ?r6rs
      case y6rs =>
        rintro w' hSw
        go_simp
        try with_reducible rfl
      try simp only [Act.put, List.setIfInBounds_toArray, List.set_cons_zero, List.set_cons_succ]
      refine wpAnyH_take (i := 7) (oi := ⟨some 16, _, _, _, _, _⟩) (v := ?v7rs) rfl (by kernel_rfl) (by kernel_rfl) (by kernel_rfl) (fun _ _ _ h => h) (Or.inl ⟨by rfl, ?y7rs⟩) hHeld ?r7rs
      case y7rs =>
        rintro w' hSw
        go_simp
        try with_reducible rfl
      try simp only [Act.put, List.setIfInBounds_toArray, List.set_cons_zero, List.set_cons_succ]
      refine wpAnyH_take (i := 8) (oi := ⟨some 17, _, _, _, _, _⟩) (v := ?v8rs) rfl (by kernel_rfl) (by kernel_rfl) (by kernel_rfl) (fun _ _ _ h => h) (Or.inl ⟨by rfl, ?y8rs⟩) hHeld ?r8rs
      case y8rs =>
        rintro w' hSw
        obtain ⟨ca, cb, cc, cd⟩ := hSw
        go_simp
        try with_reducible rfl
      try simp only [Act.put, List.setIfInBounds_toArray, List.set_cons_zero, List.set_cons_succ]
      refine wpAnyH_take (i := 9) (oi := ⟨some 18, _, _, _, _, _⟩) (v := ?v9rs) rfl (by kernel_rfl) (by kernel_rfl) (by kernel_rfl) (fun _ _ _ h => h) (Or.inl ⟨by rfl, ?y9rs⟩) hHeld ?r9rs
      case y9rs =>
        rintro w' hSw
        obtain ⟨ca, cb, cc, cd⟩ := hSw
        go_simp
        try with_reducible rfl
      try simp only [Act.put, List.setIfInBounds_toArray, List.set_cons_zero, List.set_cons_succ]
      refine wpAnyH_take (i := 10) (oi := ⟨some 19, _, _, _, _, _⟩) (v := ?v10rs) rfl (by kernel_rfl) (by kernel_rfl) (by kernel_rfl) (fun _ _ _ h => h) (Or.inl ⟨by rfl, ?y10rs⟩) hHeld ?r10rs
      case y10rs =>
        rintro w' hSw
        go_simp
        try with_reducible rfl
      try simp only [Act.put, List.setIfInBounds_toArray, List.set_cons_zero, List.set_cons_succ]
      refine wpAnyH_done (by kernel_rfl) ?_ _
      clear hca hcb hva hvb
      obtain ⟨b, hbe⟩ : ∃ b, b = (!((bstr (f1 k)).toList == (bstr (f2 k)).toList)) := ⟨_, rfl⟩
      rw [← hbe]
      by_cases hz : f1 k = f2 k
      · have HZ : Hid (∀ j, j < k + 1 → f1 j = f2 j) := Lib.hid fun j hj => by
          rcases Nat.lt_succ_iff_lt_or_eq.1 hj with h | h
          · exact HJ.out j h
          · rw [h]; exact hz
        obtain rfl : b = false := by rw [hbe, hz]; simp
        clear hbe
        have HS2 := Lib.hid HS.out.drew
        clear hz
        go_wp2
        go_roundw
        case rel => exact ⟨k + 1, by omega, by go_num, rfl, ⟨HZ.out, HS2.out⟩⟩
        case measure => simp [intOf]; omega
      · have HZ := Lib.hid hz
        have HS2 := Lib.hid (below_still HB.out.hb HS.out.drew)
        obtain rfl : b = true := by rw [hbe, bstr_list, bstr_list]; simp [hz]
        clear hbe
        have HVF : Hid (V = false) := (show _ = _ by
          rw [HV.out]
          unfold sameM
          cases h4 : eq4 f1 f2
          · simp
          · exact absurd (HI.out.1 h4 k hlt) hz)
        clear hz
        go_wp2
        go_ret
        exact ⟨ret_bool (by rw [HVF.out]), HS2.out⟩
    · have hq1 : ¬ (k : Int) < 4 := by omega
      have ha0 : wr.cell? ⟨w.heap.size, 0, none⟩ = some (.int .i64 n1) := HBr.out.ra.cell 0
      have ha1 : wr.cell? ⟨w.heap.size, 1, none⟩ = some (.int .u64 (l1 : Int)) := HBr.out.ra.cell 1
      have hb0 : wr.cell? ⟨w.heap.size + 1, 0, none⟩ = some (.int .i64 n2) := HBr.out.rb.cell 0
      have hb1 : wr.cell? ⟨w.heap.size + 1, 1, none⟩ = some (.int .u64 (l2 : Int)) := HBr.out.rb.cell 1
      have hall : eq4 f1 f2 = true := HI.out.2 fun j hj => HJ.out j (by omega)
      have HVF : Hid (V = (decide (n1 = n2) && decide (l1 = l2))) := (show _ = _ by rw [HV.out]; unfold sameM; simp [hall])
      clear hall HV
      by_cases hn : n1 = n2
      · have hnb : (n1 == n2) = true := by simp [hn]
        have HN := Lib.hid hn
        clear hn
        go_wp2
        go_ret
        exact ⟨ret_bool (by rw [HVF.out, HN.out]; rw [Bool.eq_iff_iff]; simp; try omega), HBr.out.hb⟩
      · have hnb : (n1 == n2) = false := by simp [hn]
        have HN := Lib.hid hn
        clear hn
        go_wp2
        go_ret
        exact ⟨ret_bool (by rw [HVF.out]; simp [HN.out]), HBr.out.hb⟩
end Go.Proofs.Ytnojkoefdigcnaa.Pg
