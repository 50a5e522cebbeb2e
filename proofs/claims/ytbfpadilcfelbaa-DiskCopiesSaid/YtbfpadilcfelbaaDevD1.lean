/-
  The contract of Copy.
-/
import Derived.Test.YtbfpadilcfelbaaDevD0
namespace Go.Proofs.Ytbfpadilcfelbaa.Dsk
open Go.RowKit Go.Proofs.Ytbfpadilcfelbaa.Wd

theorem copy_nil (w : World) : Calls Try.prog 16 #[.pointer none] w fun e w' => e = .returned (.pointer none) ∧ w' = w := by
  go_enter Try.func16, Try.ntmps16
  go_wp2
  go_ret
  exact ⟨rfl, rfl⟩
set_option maxRecDepth 100000 in
set_option maxHeartbeats 2000000 in
theorem copy_any (g : Nat) (d : DM) (F : Nat → Prop) (w : World) (h : Disk w F g d) (hp : d.pend.length ≤ 1000000) :
    Calls Try.prog 16 #[.pointer (some ⟨g, 0, none⟩)] w fun e w' => e = .returned (.pointer (some ⟨w.heap.size, 0, none⟩)) ∧ Disk w' (fun k => w.heap.size ≤ k ∧ k < w'.heap.size) w.heap.size d ∧ Below w.heap.size w w' := by
  obtain ⟨⟨gs, A, c, h⟩, hF⟩ := h
  have hgl : g < w.heap.size := h.row.lt
  obtain ⟨ns, hns⟩ : ∃ n, n = d.sec.length := ⟨_, rfl⟩
  obtain ⟨np, hnp⟩ : ∃ n, n = d.pend.length := ⟨_, rfl⟩
  have hrow : Row w g 64 [.slice (some ⟨gs, 0, none⟩) ns ns, .slice A np c, .bool d.dead, .bool d.ps, .int .i64 d.pl, .bool d.fs, .int .i64 d.fl, .int .i64 d.ops] := by rw [hns, hnp]; exact h.row
  have hns0 : ns ≤ 2048 := by rw [hns]; exact h.good.most
  rw [← hnp] at hp
  have c0 : w.cell? ⟨g, 0, none⟩ = some (.slice (some ⟨gs, 0, none⟩) ns ns) := hrow.cell 0
  have c1 : w.cell? ⟨g, 1, none⟩ = some (.slice A np c) := hrow.cell 1
  have c2 : w.cell? ⟨g, 2, none⟩ = some (.bool d.dead) := hrow.cell 2
  have c3 : w.cell? ⟨g, 3, none⟩ = some (.bool d.ps) := hrow.cell 3
  have c4 : w.cell? ⟨g, 4, none⟩ = some (.int .i64 d.pl) := hrow.cell 4
  have c5 : w.cell? ⟨g, 5, none⟩ = some (.bool d.fs) := hrow.cell 5
  have c6 : w.cell? ⟨g, 6, none⟩ = some (.int .i64 d.fl) := hrow.cell 6
  have c7 : w.cell? ⟨g, 7, none⟩ = some (.int .i64 d.ops) := hrow.cell 7
  have hmk := make_blks ns hns0
  obtain ⟨w1, hw1⟩ : ∃ w1, w1 = w.alloc (.cells #[.slice (some ⟨w.heap.size + 1, 0, none⟩) ns ns, .slice A np c, .bool d.dead, .bool d.ps, .int .i64 d.pl, .bool d.fs, .int .i64 d.fl, .int .i64 d.ops] 64) := ⟨_, rfl⟩
  obtain ⟨w2, hw2⟩ : ∃ w2, w2 = w1.alloc (.cells (madeCells (bv nought).toArray (ns * 64)) 39) := ⟨_, rfl⟩
  have s1 : w1.heap.size = w.heap.size + 1 := by rw [hw1]; simp
  have s2 : w2.heap.size = w.heap.size + 1 + 1 := by rw [hw2]; simp [s1]
  have r0 : Row w2 w.heap.size 64 [.slice (some ⟨w.heap.size + 1, 0, none⟩) ns ns, .slice A np c, .bool d.dead, .bool d.ps, .int .i64 d.pl, .bool d.fs, .int .i64 d.fl, .int .i64 d.ops] := by
    rw [hw2, hw1]
    exact (Row.new w _ [.slice (some ⟨w.heap.size + 1, 0, none⟩) ns ns, .slice A np c, .bool d.dead, .bool d.ps, .int .i64 d.pl, .bool d.fs, .int .i64 d.fl, .int .i64 d.ops]).alloc _
  obtain ⟨cs0, hl0, hr0⟩ := Row.madeAny w1 (bv nought).toArray (ns * 64) 39
  rw [← hw2, s1] at hr0
  have hb2 : Below w.heap.size w w2 := by
    rw [hw2, hw1]
    exact ((Below.refl _ _).alloc (Nat.le_refl _) _).alloc (by simp) _
  have hd2 := h.below hb2
  have hfl : (bv d.sec.flatten).length = ns * 64 := by rw [bv_length, flat_len d.sec h.good.sec, hns]
  have q1 : w2.cell? ⟨w.heap.size, 0, none⟩ = some (.slice (some ⟨w.heap.size + 1, 0, none⟩) ns ns) := r0.cell 0
  have q2 : w2.cell? ⟨g, 0, none⟩ = some (.slice (some ⟨gs, 0, none⟩) ns ns) := (hb2.cell (p := ⟨g, 0, none⟩) hgl).trans c0
  have HSRC : Hid (w2.rangeAt gs 0 (bv d.sec.flatten)) := (show World.rangeAt _ _ _ _ from Row.range hd2.secs fun j v hj => by simpa using hj)
  have HW2 : Hid ((w.alloc (.cells #[.slice (some ⟨w.heap.size + 1, 0, none⟩) ns ns, .slice A np c, .bool d.dead, .bool d.ps, .int .i64 d.pl, .bool d.fs, .int .i64 d.fl, .int .i64 d.ops] 64)).alloc (.cells (madeCells (bv nought).toArray (ns * 64)) 39) = w2) := (show _ = _ by rw [hw2, hw1])
  have HR0 := Lib.hid r0
  have HC0 := Lib.hid hr0
  have HL0 := Lib.hid hl0
  have HB2 := Lib.hid hb2
  have HFL := Lib.hid hfl
  have HS2 := Lib.hid s2
  have hmk2 := make_writes np hp
  have hgs : gs < w.heap.size := h.secs.lt
  clear hw2 hw1 s1 s2 r0 hr0 hl0 hb2 hd2 hfl
  have HD := Lib.hid h
  have HNS := Lib.hid hns
  have HNP := Lib.hid hnp
  have HROW := Lib.hid hrow
  have HFF := Lib.hid hF
  clear h hns hnp hrow hF
  go_enter Try.func16, Try.ntmps16
  go_wp2_with fail
  rw [HW2.out]
  refine wp_region_held_drew (S := fun w' : World => w'.cell? ⟨w.heap.size, 0, none⟩ = some (.slice (some ⟨w.heap.size + 1, 0, none⟩) ns ns) ∧ w'.cell? ⟨g, 0, none⟩ = some (.slice (some ⟨gs, 0, none⟩) ns ns)) (by kernel_rfl) ⟨q1, q2⟩ (fun hHeld => ?_)
  refine wpAnyH_take (i := 0) (oi := ⟨some 16, _, _, _, _, _⟩) (v := ?v0) rfl (by kernel_rfl) (by kernel_rfl) (by kernel_rfl) (fun _ _ _ h => h) (Or.inl ⟨by rfl, ?y0⟩) hHeld ?r0
  case y0 =>
    rintro w' ⟨z1, z2⟩
    go_simp
    try with_reducible rfl
  try simp only [Act.put, List.setIfInBounds_toArray, List.set_cons_zero, List.set_cons_succ]
  refine wpAnyH_take (i := 1) (oi := ⟨some 17, _, _, _, _, _⟩) (v := ?v1) rfl (by kernel_rfl) (by kernel_rfl) (by kernel_rfl) (fun _ _ _ h => h) (Or.inl ⟨by rfl, ?y1⟩) hHeld ?r1
  case y1 =>
    rintro w' ⟨z1, z2⟩
    go_simp
    try with_reducible rfl
  try simp only [Act.put, List.setIfInBounds_toArray, List.set_cons_zero, List.set_cons_succ]
  refine wpAnyH_take (i := 2) (oi := ⟨some 18, _, _, _, _, _⟩) (v := ?v2) rfl (by kernel_rfl) (by kernel_rfl) (by kernel_rfl) (fun _ _ _ h => h) (Or.inl ⟨by rfl, ?y2⟩) hHeld ?r2
  case y2 =>
    rintro w' ⟨z1, z2⟩
    go_simp
    try with_reducible rfl
  try simp only [Act.put, List.setIfInBounds_toArray, List.set_cons_zero, List.set_cons_succ]
  refine wpAnyH_take (i := 3) (oi := ⟨some 19, _, _, _, _, _⟩) (v := ?v3) rfl (by kernel_rfl) (by kernel_rfl) (by kernel_rfl) (fun _ _ _ h => h) (Or.inl ⟨by rfl, ?y3⟩) hHeld ?r3
  case y3 =>
    rintro w' ⟨z1, z2⟩
    go_simp
    try with_reducible rfl
  try simp only [Act.put, List.setIfInBounds_toArray, List.set_cons_zero, List.set_cons_succ]
  refine wpAnyH_take (i := 4) (oi := ⟨some 20, _, _, _, _, _⟩) (v := ?v4) rfl (by kernel_rfl) (by kernel_rfl) (by kernel_rfl) (fun _ _ _ h => h) (Or.inl ⟨by rfl, ?y4⟩) hHeld ?r4
  case y4 =>
    rintro w' ⟨z1, z2⟩
    go_simp
    try with_reducible rfl
  try simp only [Act.put, List.setIfInBounds_toArray, List.set_cons_zero, List.set_cons_succ]
  refine wpAnyH_take (i := 5) (oi := ⟨some 21, _, _, _, _, _⟩) (v := ?v5) rfl (by kernel_rfl) (by kernel_rfl) (by kernel_rfl) (fun _ _ _ h => h) (Or.inl ⟨by rfl, ?y5⟩) hHeld ?r5
  case y5 =>
    rintro w' ⟨z1, z2⟩
    go_simp
    try with_reducible rfl
  try simp only [Act.put, List.setIfInBounds_toArray, List.set_cons_zero, List.set_cons_succ]
  refine wpAnyH_ready (rs := [6]) (by kernel_rfl) (by simp) ?_
  refine AllReadyH.cons rfl (fun K hK => ?_) AllReadyH.nil
  rw [if_pos (by rfl)]
  refine wp_copy_rowK (.tmp 17) (.tmp 21) 28 28 rfl 39 Try.underlying28 64 size39 (by decide) (w.heap.size + 1) ns ns (some ⟨gs, 0, none⟩) ns ns ?d17 ?d21 cs0 39 (bv d.sec.flatten) HC0.out ns (Nat.min_self ns) HFL.out (fun _ => ⟨⟨gs, 0, none⟩, rfl, fun j v hj => by rw [Addr.add_lit]; exact HSRC.out j v hj⟩) (by rw [HFL.out, HL0.out]; exact Nat.le_refl _) bv_one ?_
  case d17 => first | rfl | (simp [Act.eval]; done)
  case d21 => first | rfl | (simp [Act.eval]; done)
  intro w3 hr3 hg3
  rw [splice_all cs0 (bv d.sec.flatten) (by rw [HFL.out, HL0.out])] at hr3
  have hne1 : some w.heap.size ≠ some (w.heap.size + 1) := fun e => by have := Option.some.inj e; omega
  have hne2 : some g ≠ some (w.heap.size + 1) := fun e => by have := Option.some.inj e; omega
  refine hK _ _ ⟨hg3.cell q1 hne1, hg3.cell q2 hne2⟩ (fun _ => wpAnyH_done (by kernel_rfl) ?_ _)
  have hg3' : w2.grownBy w3 (some (w.heap.size + 1)) := ⟨hg3.os, hg3.tape, hg3.output, hg3.size, hg3.block⟩
  have r03 := HR0.out.grown hg3' hne1
  have hb3 : Below w.heap.size w w3 := HB2.out.grown hg3' (by rw [HS2.out]; omega) (fun j e => by have := Option.some.inj e; omega)
  have hs3 : w.heap.size + 1 < w3.heap.size := hr3.lt
  have HR3 := Lib.hid hr3
  have HR03 := Lib.hid r03
  have HB3 := Lib.hid hb3
  have c1' : w3.cell? ⟨g, 1, none⟩ = some (.slice A np c) := (hb3.cell (p := ⟨g, 1, none⟩) hgl).trans c1
  have k1 : (w3.alloc (.cells (madeCells (pcs (0, nought, nought)).toArray (np * 129)) 77)).cell? ⟨w.heap.size, 1, none⟩ = some (.slice A np c) := (r03.alloc _).cell 1
  have k2 : (w3.alloc (.cells (madeCells (pcs (0, nought, nought)).toArray (np * 129)) 77)).frozen? ⟨w.heap.size, 1, none⟩ = false := (r03.alloc _).frozen 1
  obtain ⟨w5, hw5⟩ : ∃ w5, w5 = ((w3.setCell ⟨w.heap.size, 1, none⟩ (.slice (some ⟨w3.heap.size, 0, none⟩) np np)).alloc (.cells (madeCells (pcs (0, nought, nought)).toArray (np * 129)) 77)) := ⟨_, rfl⟩
  have hltw : w.heap.size < w3.heap.size := by omega
  have r05 : Row w5 w.heap.size 64 [.slice (some ⟨w.heap.size + 1, 0, none⟩) ns ns, (.slice (some ⟨w3.heap.size, 0, none⟩) np np), .bool d.dead, .bool d.ps, .int .i64 d.pl, .bool d.fs, .int .i64 d.fl, .int .i64 d.ops] := by
    rw [hw5]
    exact (r03.store 1 _).alloc _
  have rs5 : Row w5 (w.heap.size + 1) 39 (bv d.sec.flatten) := by
    rw [hw5]
    exact (Row.far hr3 (p := ⟨w.heap.size, 1, none⟩) (by show w.heap.size + 1 ≠ w.heap.size; omega) _).alloc _
  obtain ⟨cs1, hl1, hr1⟩ := Row.madeAny (w3.setCell ⟨w.heap.size, 1, none⟩ (.slice (some ⟨w3.heap.size, 0, none⟩) np np)) (pcs (0, nought, nought)).toArray (np * 129) 77
  have rp5 : Row w5 w3.heap.size 77 cs1 := by
    rw [show (w3.setCell ⟨w.heap.size, 1, none⟩ (.slice (some ⟨w3.heap.size, 0, none⟩) np np)).heap.size = w3.heap.size by simp [World.setCell]] at hr1
    rw [hw5]
    exact hr1
  have hb5 : Below w.heap.size w w5 := by
    rw [hw5]
    exact (hb3.setCell (p := ⟨w.heap.size, 1, none⟩) (Nat.le_refl _) _).alloc (by simp [World.setCell]; omega) _
  have q3 : w5.cell? ⟨w.heap.size, 1, none⟩ = some (.slice (some ⟨w3.heap.size, 0, none⟩) np np) := r05.cell 1
  have q4 : w5.cell? ⟨g, 1, none⟩ = some (.slice A np c) := (hb5.cell (p := ⟨g, 1, none⟩) hgl).trans c1
  have hd5 := HD.out.below hb5
  have HPL : Hid ((d.pend.flatMap pcs).length = np * 129) := (show _ = _ by rw [HNP.out]; exact hd5.pend.1)
  have HSRC2 : Hid (0 < (d.pend.flatMap pcs).length → ∃ ad, A = some ad ∧ ∀ j v, (d.pend.flatMap pcs)[j]? = some v → w5.cell? (ad.add j) = some v) := (show _ → _ from fun hpos => by
    have hp5 := hd5.pend
    rcases hp5.2 with ⟨_, h0⟩ | ⟨gp, cap, cur, hv, _, _, _⟩
    · rw [hp5.1, h0] at hpos; simp at hpos
    · have hA : A = some ⟨gp, 0, none⟩ := by simp only [Value.slice.injEq] at hv; exact hv.1
      subst hA
      exact ⟨_, rfl, fun j v hj => World.ownsRow.cells hp5 (g := gp) rfl j v hj⟩)
  have hone : ∀ v ∈ d.pend.flatMap pcs, v.oneCell' = true := fun v hv => by
    obtain ⟨p, _, hv⟩ := List.mem_flatMap.1 hv
    exact pcs_one p v hv
  have HONE := Lib.hid hone
  have hs5 : w3.heap.size < w5.heap.size := rp5.lt
  have HW5 : Hid (((w3.setCell ⟨w.heap.size, 1, none⟩ (.slice (some ⟨w3.heap.size, 0, none⟩) np np)).alloc (.cells (madeCells (pcs (0, nought, nought)).toArray (np * 129)) 77)) = w5) := (show _ = _ from hw5.symm)
  have HR05 := Lib.hid r05
  have HRS5 := Lib.hid rs5
  have HRP5 := Lib.hid rp5
  have HL1 := Lib.hid hl1
  have HB5 := Lib.hid hb5
  clear hw5 r05 rs5 rp5 hr1 hl1 hb5 hd5 hone HR3 HR03 HB3
  clear hK K hHeld q1 q2 hr3 hg3 hg3' r03 hb3 HW2 HR0 HC0 HL0 HB2 HSRC HS2 hmk c0 c1 c2 c3 c4 c5 c6 c7
  try simp only [Act.put, List.setIfInBounds_toArray, List.set_cons_zero, List.set_cons_succ]
  go_wp2_with fail
  rw [HW5.out]
  refine wp_region_held_drew (S := fun w' : World => w'.cell? ⟨w.heap.size, 1, none⟩ = some (.slice (some ⟨w3.heap.size, 0, none⟩) np np) ∧ w'.cell? ⟨g, 1, none⟩ = some (.slice A np c)) (by kernel_rfl) ⟨q3, q4⟩ (fun hHeld => ?_)
  refine wpAnyH_take (i := 0) (oi := ⟨some 30, _, _, _, _, _⟩) (v := ?v0s) rfl (by kernel_rfl) (by kernel_rfl) (by kernel_rfl) (fun _ _ _ h => h) (Or.inl ⟨by rfl, ?y0s⟩) hHeld ?r0s
  case y0s =>
    rintro w' ⟨z1, z2⟩
    go_simp
    try with_reducible rfl
  try simp only [Act.put, List.setIfInBounds_toArray, List.set_cons_zero, List.set_cons_succ]
  refine wpAnyH_take (i := 1) (oi := ⟨some 31, _, _, _, _, _⟩) (v := ?v1s) rfl (by kernel_rfl) (by kernel_rfl) (by kernel_rfl) (fun _ _ _ h => h) (Or.inl ⟨by rfl, ?y1s⟩) hHeld ?r1s
  case y1s =>
    rintro w' ⟨z1, z2⟩
    go_simp
    try with_reducible rfl
  try simp only [Act.put, List.setIfInBounds_toArray, List.set_cons_zero, List.set_cons_succ]
  refine wpAnyH_take (i := 2) (oi := ⟨some 32, _, _, _, _, _⟩) (v := ?v2s) rfl (by kernel_rfl) (by kernel_rfl) (by kernel_rfl) (fun _ _ _ h => h) (Or.inl ⟨by rfl, ?y2s⟩) hHeld ?r2s
  case y2s =>
    rintro w' ⟨z1, z2⟩
    go_simp
    try with_reducible rfl
  try simp only [Act.put, List.setIfInBounds_toArray, List.set_cons_zero, List.set_cons_succ]
  refine wpAnyH_take (i := 3) (oi := ⟨some 33, _, _, _, _, _⟩) (v := ?v3s) rfl (by kernel_rfl) (by kernel_rfl) (by kernel_rfl) (fun _ _ _ h => h) (Or.inl ⟨by rfl, ?y3s⟩) hHeld ?r3s
  case y3s =>
    rintro w' ⟨z1, z2⟩
    go_simp
    try with_reducible rfl
  try simp only [Act.put, List.setIfInBounds_toArray, List.set_cons_zero, List.set_cons_succ]
  refine wpAnyH_take (i := 4) (oi := ⟨some 34, _, _, _, _, _⟩) (v := ?v4s) rfl (by kernel_rfl) (by kernel_rfl) (by kernel_rfl) (fun _ _ _ h => h) (Or.inl ⟨by rfl, ?y4s⟩) hHeld ?r4s
  case y4s =>
    rintro w' ⟨z1, z2⟩
    go_simp
    try with_reducible rfl
  try simp only [Act.put, List.setIfInBounds_toArray, List.set_cons_zero, List.set_cons_succ]
  refine wpAnyH_take (i := 5) (oi := ⟨some 35, _, _, _, _, _⟩) (v := ?v5s) rfl (by kernel_rfl) (by kernel_rfl) (by kernel_rfl) (fun _ _ _ h => h) (Or.inl ⟨by rfl, ?y5s⟩) hHeld ?r5s
  case y5s =>
    rintro w' ⟨z1, z2⟩
    go_simp
    try with_reducible rfl
  try simp only [Act.put, List.setIfInBounds_toArray, List.set_cons_zero, List.set_cons_succ]
  refine wpAnyH_ready (rs := [6]) (by kernel_rfl) (by simp) ?_
  refine AllReadyH.cons rfl (fun K hK => ?_) AllReadyH.nil
  rw [if_pos (by rfl)]
  refine wp_copy_rowK (.tmp 31) (.tmp 35) 60 60 rfl 77 Try.underlying60 129 size81 (by decide) w3.heap.size np np A np c ?d31 ?d35 cs1 77 (d.pend.flatMap pcs) HRP5.out np (Nat.min_self np) HPL.out HSRC2.out (by rw [HPL.out, HL1.out]; exact Nat.le_refl _) HONE.out ?_
  case d31 => first | rfl | (simp [Act.eval]; done)
  case d35 => first | rfl | (simp [Act.eval]; done)
  intro w6 hr6 hg6
  rw [splice_all cs1 (d.pend.flatMap pcs) (by rw [HPL.out, HL1.out])] at hr6
  have hne1 : some w.heap.size ≠ some w3.heap.size := fun e => by have := Option.some.inj e; omega
  have hne2 : some g ≠ some w3.heap.size := fun e => by have := Option.some.inj e; omega
  have hne3 : some (w.heap.size + 1) ≠ some w3.heap.size := fun e => by have := Option.some.inj e; omega
  refine hK _ _ ⟨hg6.cell q3 hne1, hg6.cell q4 hne2⟩ (fun _ => wpAnyH_done (by kernel_rfl) ?_ _)
  have hg6' : w5.grownBy w6 (some w3.heap.size) := ⟨hg6.os, hg6.tape, hg6.output, hg6.size, hg6.block⟩
  have r06 := HR05.out.grown hg6' hne1
  have rs6 := HRS5.out.grown hg6' hne3
  have hb6 : Below w.heap.size w w6 := HB5.out.grown hg6' (by omega) (fun j e => by have := Option.some.inj e; omega)
  have hat : DskAt w6 (fun k => w.heap.size ≤ k ∧ k < w6.heap.size) w.heap.size (w.heap.size + 1) (some ⟨w3.heap.size, 0, none⟩) np d := by
    refine ⟨⟨Nat.le_refl _, r06.lt⟩, ⟨by omega, rs6.lt⟩, by omega, (fun k hk => ?_), ?_, rs6, ⟨by rw [HPL.out, HNP.out], .inr ⟨w3.heap.size, np, (d.pend.flatMap pcs).toArray, by rw [HNP.out], Nat.zero_le _, hr6, by rw [HNP.out]; exact Nat.le_refl _, by unfold maxLen; omega, by rw [List.size_toArray, HPL.out], ?_⟩⟩, HD.out.good⟩
    · obtain rfl := Option.some.inj hk
      have hlt6 : w3.heap.size < w6.heap.size := hr6.lt
      exact ⟨⟨by show w.heap.size ≤ w3.heap.size; omega, hlt6⟩, by show w3.heap.size ≠ _; omega, by show w3.heap.size ≠ _; omega⟩
    · have h := r06
      rw [HNS.out, HNP.out] at h
      rw [HNP.out]
      exact h
    · show (d.pend.flatMap pcs).take (d.pend.length * 129) = _
      exact List.take_of_length_le (by rw [HPL.out, HNP.out]; exact Nat.le_refl _)
  have HDK : Hid (Disk w6 (fun k => w.heap.size ≤ k ∧ k < w6.heap.size) w.heap.size d) := (show Disk _ _ _ _ from ⟨⟨_, _, _, hat⟩, fun k hk => hk.2⟩)
  have HB6 := Lib.hid hb6
  clear hK K hHeld q3 q4 hr6 hg6 hg6' r06 rs6 hb6 hat HR05 HRS5 HRP5 HL1 HB5 HW5 HONE HSRC2
  try simp only [Act.put, List.setIfInBounds_toArray, List.set_cons_zero, List.set_cons_succ]
  go_wp2
  go_ret
  exact ⟨rfl, HDK.out, HB6.out⟩
end Go.Proofs.Ytbfpadilcfelbaa.Dsk
