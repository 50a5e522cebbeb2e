/-
  The statements' same.
-/
import Derived.Test.YtbfpadilcfelbaaDevQ
namespace Go.Proofs.Ytbfpadilcfelbaa.Dsk
open Go.RowKit Go.Proofs.Ytbfpadilcfelbaa.Wd

theorem yieldsIf_neq_blk {ops : Array Oper} {S : World → Prop} {o : Oper} {a : Act} (hw : Region.wanted o (yielded ops a.tmps) = true) (x y : Operand) (ho : o.op = .binOp .neq 39 x y 39) (l m : List UInt8) (hx : a.eval x = blk l) (hy : a.eval y = blk m) (hl : l.length = 64) (hm : m.length = 64) :
    YieldsIf Try.prog ops S o (.bool (!decide (l = m))) a :=
  Or.inl ⟨hw, fun w _ => by
    have hr := run_neq_blk w x y l m hl hm
    rw [Sem.run_bind] at hr
    unfold execOp
    simp only [ho, hx, hy, Sem.run_bind]
    revert hr
    generalize (eqGuard .neq 39 x y (blk l) (blk m)).run Try.prog w = r
    intro hr
    cases r with
    | halt e u => simp [Result.andThen] at hr
    | ok z u =>
      simp only [Result.andThen_ok] at hr ⊢
      rw [hr]
      rfl⟩
theorem take_snoc {α : Type} {l1 l2 : List α} {k : Nat} (h1 : k < l1.length) (h2 : k < l2.length) (h : l1.take k = l2.take k) (hk : l1[k] = l2[k]) : l1.take (k + 1) = l2.take (k + 1) := by
  rw [List.take_succ_eq_append_getElem h1, List.take_succ_eq_append_getElem h2, h, hk]

set_option maxRecDepth 100000 in
set_option maxHeartbeats 2000000 in
theorem same_any (A1 A2 : Option Addr) (n1 n2 c1 c2 : Nat) (L1 L2 : List (List UInt8)) (w : World) (h1 : L1.length = n1) (h2 : L2.length = n2) (b1 : Blks w w.heap.size A1 L1) (b2 : Blks w w.heap.size A2 L2) (hn1 : n1 ≤ 1000000) (hn2 : n2 ≤ 1000000) :
    Calls Try.prog 22 #[.slice A1 n1 c1, .slice A2 n2 c2] w fun e w' => e = .returned (.bool (decide (L1 = L2))) ∧ Below w.heap.size w w' := by
  by_cases hne : n1 = n2
  case neg =>
    have hd : decide (L1 = L2) = false := by
      simp only [decide_eq_false_iff_not]
      rintro rfl
      exact hne (h1.symm.trans h2)
    rw [hd]
    have hne' : ¬ (n1 : Int) = (n2 : Int) := by omega
    clear b1 b2
    go_enter Try.func22, Try.ntmps22
    go_wp2
    go_ret
    exact ⟨rfl, Below.refl _ _⟩
  subst hne
  have H1 := Lib.hid h1
  have H2 := Lib.hid h2
  have B1 := Lib.hid b1
  have B2 := Lib.hid b2
  clear h1 h2 b1 b2
  go_enter Try.func22, Try.ntmps22
  go_wp2
  go_loopw [13] (fun i wr => ∃ k : Nat, k ≤ n1 ∧ i = .int .i64 k ∧ Hid (L1.take k = L2.take k) ∧ Hid (Below w.heap.size w wr)) (fun i _ => n1 - (intOf i).toNat)
  case atStart => exact ⟨0, by omega, rfl, (show _ = _ by simp), (show Below _ _ _ from Below.refl _ _)⟩
  case round =>
    obtain ⟨k, hk, rfl, HE, HB⟩ := hrel
    by_cases hlt : k < n1
    · obtain ⟨g1, o1, rfl, hg1, hr1⟩ := B1.out (by rw [H1.out]; omega)
      obtain ⟨g2, o2, rfl, hg2, hr2⟩ := B2.out (by rw [H2.out]; omega)
      have hk1 : k < L1.length := by rw [H1.out]; exact hlt
      have hk2 : k < L2.length := by rw [H2.out]; exact hlt
      have e1 : L1.getD k [] = L1[k] := by simp [List.getD_eq_getElem?_getD, hk1]
      have e2 : L2.getD k [] = L2[k] := by simp [List.getD_eq_getElem?_getD, hk2]
      obtain ⟨l1, hl1⟩ : ∃ l1, l1 = L1[k] := ⟨_, rfl⟩
      obtain ⟨l2, hl2⟩ : ∃ l2, l2 = L2[k] := ⟨_, rfl⟩
      have hx1 := hr1 k hk1
      have hx2 := hr2 k hk2
      rw [e1, ← hl1] at hx1
      rw [e2, ← hl2] at hx2
      have hp1 := range_below hx1.2 HB.out hg1
      have hp2 := range_below hx2.2 HB.out hg2
      have HS1 : Hid ((Try.prog.info? 39).map (·.size) = some (bv l1).length) := (show _ = _ by rw [bv_length, hx1.1]; exact size39)
      have HS2 : Hid ((Try.prog.info? 39).map (·.size) = some (bv l2).length) := (show _ = _ by rw [bv_length, hx2.1]; exact size39)
      have HL1 := Lib.hid hx1.1
      have HL2 := Lib.hid hx2.1
      have HQ1 := Lib.hid hl1
      have HQ2 := Lib.hid hl2
      have hki : (k : Int) < (n1 : Int) := by omega
      clear hr1 hr2 e1 e2 hx1 hx2 hl1 hl2
      go_wp2_with fail
      refine wp_region_held_drew (S := fun w' : World => w'.rangeAt g1 (o1 + k * 64) (bv l1) ∧ w'.rangeAt g2 (o2 + k * 64) (bv l2)) (by kernel_rfl) ⟨hp1, hp2⟩ (fun hHeld => ?_)
      refine wpAnyH_take (i := 0) (oi := ⟨some 16, _, _, _, _, _⟩) (v := ?v0) rfl (by kernel_rfl) (by kernel_rfl) (by kernel_rfl) (fun _ _ _ h => h) (Or.inl ⟨by rfl, ?y0⟩) hHeld ?r0
      case y0 =>
        rintro w' ⟨q0, q1⟩
        go_simp
        try with_reducible rfl
      try simp only [Act.put, List.setIfInBounds_toArray, List.set_cons_zero, List.set_cons_succ]
      refine wpAnyH_take (i := 1) (oi := ⟨some 17, _, _, _, _, _⟩) (v := ?v1) rfl (by kernel_rfl) (by kernel_rfl) (by kernel_rfl) (fun _ _ _ h => h) (Or.inl ⟨by rfl, ?y1⟩) hHeld ?r1
      case y1 =>
        rintro w' ⟨q0, q1⟩
        go_simp
        try with_reducible rfl
      try simp only [Act.put, List.setIfInBounds_toArray, List.set_cons_zero, List.set_cons_succ]
      refine wpAnyH_take (i := 2) (oi := ⟨some 18, _, _, _, _, _⟩) (v := ?v2) rfl (by kernel_rfl) (by kernel_rfl) (by kernel_rfl) (fun _ _ _ h => h) (Or.inl ⟨by rfl, ?y2⟩) hHeld ?r2
      case y2 =>
        rintro w' ⟨q0, q1⟩
        go_simp
        try with_reducible rfl
      try simp only [Act.put, List.setIfInBounds_toArray, List.set_cons_zero, List.set_cons_succ]
      refine wpAnyH_take (i := 3) (oi := ⟨some 19, _, _, _, _, _⟩) rfl (by kernel_rfl) (by kernel_rfl) (by kernel_rfl) (fun _ _ _ h => h) (yieldsIf_load_mid (by rfl) 39 (.tmp 18) rfl g1 (o1 + k * 64) ?x3 (bv l1) _ (fun _ hS => hS.1) Try.underlying39 rfl HS1.out) hHeld ?r3
      case x3 => first | rfl | (simp [Act.eval, go_sem]; done)
      try simp only [Act.put, List.setIfInBounds_toArray, List.set_cons_zero, List.set_cons_succ]
      refine wpAnyH_take (i := 4) (oi := ⟨some 20, _, _, _, _, _⟩) (v := ?v4) rfl (by kernel_rfl) (by kernel_rfl) (by kernel_rfl) (fun _ _ _ h => h) (Or.inl ⟨by rfl, ?y4⟩) hHeld ?r4
      case y4 =>
        rintro w' ⟨q0, q1⟩
        go_simp
        try with_reducible rfl
      try simp only [Act.put, List.setIfInBounds_toArray, List.set_cons_zero, List.set_cons_succ]
      refine wpAnyH_take (i := 5) (oi := ⟨some 21, _, _, _, _, _⟩) (v := ?v5) rfl (by kernel_rfl) (by kernel_rfl) (by kernel_rfl) (fun _ _ _ h => h) (Or.inl ⟨by rfl, ?y5⟩) hHeld ?r5
      case y5 =>
        rintro w' ⟨q0, q1⟩
        go_simp
        try with_reducible rfl
      try simp only [Act.put, List.setIfInBounds_toArray, List.set_cons_zero, List.set_cons_succ]
      refine wpAnyH_take (i := 6) (oi := ⟨some 22, _, _, _, _, _⟩) (v := ?v6) rfl (by kernel_rfl) (by kernel_rfl) (by kernel_rfl) (fun _ _ _ h => h) (Or.inl ⟨by rfl, ?y6⟩) hHeld ?r6
      case y6 =>
        rintro w' ⟨q0, q1⟩
        go_simp
        try with_reducible rfl
      try simp only [Act.put, List.setIfInBounds_toArray, List.set_cons_zero, List.set_cons_succ]
      refine wpAnyH_take (i := 7) (oi := ⟨some 23, _, _, _, _, _⟩) rfl (by kernel_rfl) (by kernel_rfl) (by kernel_rfl) (fun _ _ _ h => h) (yieldsIf_load_mid (by rfl) 39 (.tmp 22) rfl g2 (o2 + k * 64) ?x7 (bv l2) _ (fun _ hS => hS.2) Try.underlying39 rfl HS2.out) hHeld ?r7
      case x7 => first | rfl | (simp [Act.eval, go_sem]; done)
      try simp only [Act.put, List.setIfInBounds_toArray, List.set_cons_zero, List.set_cons_succ]
      refine wpAnyH_take (i := 8) (oi := ⟨some 24, _, _, _, _, _⟩) rfl (by kernel_rfl) (by kernel_rfl) (by kernel_rfl) (fun _ _ _ h => h) (yieldsIf_neq_blk (by rfl) (.tmp 19) (.tmp 23) rfl l1 l2 rfl rfl HL1.out HL2.out) hHeld ?r8
      try simp only [Act.put, List.setIfInBounds_toArray, List.set_cons_zero, List.set_cons_succ]
      refine wpAnyH_done (by kernel_rfl) ?_ _
      have HBD : Hid (Below w.heap.size w wr.drew) := (show Below _ _ _ from ⟨HB.out.os, HB.out.tape, HB.out.output, HB.out.size, HB.out.block⟩)
      by_cases heq : l1 = l2
      · have hd : decide (l1 = l2) = true := decide_eq_true heq
        have HT := Lib.hid (take_snoc hk1 hk2 HE.out (by rw [← HQ1.out, ← HQ2.out, heq]))
        rw [hd]
        clear hp1 hp2 hHeld heq hd
        go_wp2
        go_roundw
        case rel => exact ⟨k + 1, by omega, by go_num, HT, HBD⟩
        case measure => simp [intOf]; omega
      · have hd : decide (l1 = l2) = false := decide_eq_false heq
        have hD : decide (L1 = L2) = false := by
          simp only [decide_eq_false_iff_not]
          intro e
          subst e
          exact heq (HQ1.out.trans HQ2.out.symm)
        have HDD := Lib.hid hD
        rw [hd]
        clear hp1 hp2 hHeld heq hd hD
        go_wp2
        go_ret
        exact ⟨by rw [HDD.out]; rfl, HBD.out⟩
    · obtain rfl : k = n1 := by omega
      have hD : decide (L1 = L2) = true := by
        have := HE.out
        rw [List.take_of_length_le (by rw [H1.out]; exact Nat.le_refl _), List.take_of_length_le (by rw [H2.out]; exact Nat.le_refl _)] at this
        exact decide_eq_true this
      have HDD := Lib.hid hD
      clear hD
      go_wp2
      go_ret
      exact ⟨by rw [HDD.out]; rfl, HB.out⟩
end Go.Proofs.Ytbfpadilcfelbaa.Dsk
