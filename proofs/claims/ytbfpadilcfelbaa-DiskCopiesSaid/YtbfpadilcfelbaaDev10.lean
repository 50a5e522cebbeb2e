/-
  The statements' does: a write, a crash.
-/
import Derived.Test.YtbfpadilcfelbaaDev9
namespace Go.Proofs.Ytbfpadilcfelbaa.Dsk
open Go.RowKit Go.Proofs.Ytbfpadilcfelbaa.Wd

theorem own_vs {w : World} {base n : Nat} {t : TypeId} {v : Value} {vs : List Value} (h : w.ownsRow base t 1 v n vs) : ∃ A c, v = .slice A n c ∧ vs.length = n ∧ (A = none → c = 0) ∧ Vs w w.heap.size A vs ∧ (∀ b o s, A = some ⟨b, o, s⟩ → base ≤ b) := by
  have hn : vs.length = n := by have := h.1; omega
  rcases h.2 with ⟨rfl, rfl⟩ | ⟨g, cap, cur, rfl, hb, hg, hnc, hcm, hs, ht⟩
  · obtain rfl : vs = [] := List.eq_nil_of_length_eq_zero hn
    exact ⟨none, 0, rfl, rfl, fun _ => rfl, (fun hp => absurd hp (by simp)), fun b o s e => by cases e⟩
  · refine ⟨_, cap, rfl, hn, (fun hh => by cases hh), (fun hp => ⟨g, 0, rfl, (Array.getElem?_eq_some_iff.1 hg).1, fun j u hu => ?_⟩), fun b o s e => by cases e; exact hb⟩
    have := World.ownsRow.cells h (g := g) rfl j u hu
    rwa [Addr.add_lit] at this
set_option maxHeartbeats 1000000 in
set_option maxRecDepth 100000 in
theorem does4 (pv : Value) (k a : Int) (x : UInt8) (A : Option Addr) (n c : Nat) (err : Int) (F : Nat → Prop) (w : World) (G : World → World → Prop) (hst : Stable F w G) (hkind : kindM k = 4) (l : List Bool) (hl : l.length = n) (hv : Vs w w.heap.size A (bools l)) (hA : A = none → c = 0) (hn : n ≤ 140737488351232)
    (hc : ∀ w1 A' c', Below w.heap.size w w1 → Vs w1 w1.heap.size A' (bools l) → (∀ b o s, A' = some ⟨b, o, s⟩ → w.heap.size ≤ b) → Calls Try.prog 20 #[pv, .slice A' n c'] w1 fun e w' => e = .returned (.int .i64 err) ∧ G w1 w') :
    Calls Try.prog 10 #[pv, opv k a x A n c] w fun e w' => e = .returned (.tuple #[blk (nought), .int .i64 err]) ∧ G w w' := by
  have HC := Lib.hid hc
  have HV := Lib.hid hv
  clear hc hv
  have HBZ := Lib.hid built_zero
  have hk : kindM k = 4 := hkind
  obtain ⟨w1, hw1⟩ : ∃ w1, w1 = w.alloc (.cells (ocs k a x A n c).toArray 37) := ⟨_, rfl⟩
  obtain ⟨w2, hw2⟩ : ∃ w2, w2 = w1.alloc (.cells (bv nought).toArray 39) := ⟨_, rfl⟩
  have s1 : w1.heap.size = w.heap.size + 1 := by rw [hw1]; simp
  have s2 : w2.heap.size = w.heap.size + 1 + 1 := by rw [hw2]; simp [s1]
  have r3 : Row w2 w.heap.size 37 (ocs k a x A n c) := by rw [hw2, hw1]; exact (Row.new w _ (ocs k a x A n c)).alloc _
  have r4 : Row w2 (w.heap.size + 1) 39 (bv nought) := by
    have := Row.new w1 39 (bv nought)
    rw [s1] at this
    rw [hw2]; exact this
  have hb2 : Below w.heap.size w w2 := by
    rw [hw2, hw1]
    exact ((Below.refl _ _).alloc (Nat.le_refl _) _).alloc (by simp) _
  have HW : Hid ((w.alloc (.cells (ocs k a x A n c).toArray 37)).alloc (.cells (bv nought).toArray 39) = w2) := (show _ = _ by rw [hw2, hw1])
  have HKD := Lib.hid (kind_any k a _ (x.toNat : Int) rfl A n c w2)
  have HS := Lib.hid hst
  have HB2 := Lib.hid hb2
  have R3 := Lib.hid r3
  have R4 := Lib.hid r4
  have HK := Lib.hid hk
  clear hw2 hw1 r3 r4 hb2 hst hk
  unfold opv
  go_enter Try.func10, Try.ntmps10
  go_wp2_with fail
  refine Calls.mono (HW.out.symm ▸ HKD.out) ?_
  rintro e w3 ⟨rfl, hb3⟩
  rw [HW.out] at hb3
  rw [HK.out]
  have q3 := R3.out.below hb3 (by omega)
  have q4 := R4.out.below hb3 (by omega)
  have HB3 := Lib.hid (HB2.out.trans (hb3.mono HB2.out.size))
  have s3 : w.heap.size + 1 + 1 ≤ w3.heap.size := by have := hb3.size; omega
  have c0 : w3.cell? ⟨w.heap.size, 0, none⟩ = some (.int .i64 k) := q3.cell 0
  have c1 : w3.cell? ⟨w.heap.size, 1, none⟩ = some (.int .i64 a) := q3.cell 1
  have c2 : w3.cell? ⟨w.heap.size, 2, none⟩ = some (.int .u8 (x.toNat : Int)) := q3.cell 2
  have c3 : w3.cell? ⟨w.heap.size, 3, none⟩ = some (.slice A n c) := q3.cell 3
  have Q4 := Lib.hid q4
  clear HW HKD R3 R4 hb3 q3 q4 HB2
  go_wp2_with (first
    | (with_reducible refine wpList_build_to (o := ⟨some 45, _, _, _, _, _⟩) (by rfl) 39 _ rfl (bv nought).toArray HBZ.out ?_))
  have hvm : Vs w3 w3.heap.size A (bools l) := fun hp => by
    obtain ⟨b, o, e, hlt, hr⟩ := HV.out hp
    exact ⟨b, o, e, by omega, range_below hr HB3.out hlt⟩
  refine (keeps_any A n c l w3 hl hvm hA hn).mono ?_
  rintro e w6 ⟨v, rfl, hown, hb6⟩
  obtain ⟨A', c', rfl, _, _, hv6, hbase⟩ := own_vs hown
  have HV6 := Lib.hid hv6
  have HBA := Lib.hid hbase
  have HB6 := Lib.hid (HB3.out.trans (hb6.mono HB3.out.size))
  have q4 := Q4.out.below hb6 (by omega)
  have Q4 := Lib.hid q4
  have s6 : w.heap.size + 1 + 1 ≤ w6.heap.size := by have := hb6.size; omega
  clear hown hv6 hbase hb6 q4 hvm HB3 c0 c1 c2 c3
  go_wp2_with fail
  refine (HC.out w6 A' c' HB6.out HV6.out (fun b o s e => by have := HBA.out b o s e; omega)).mono ?_
  rintro e w4 ⟨rfl, hG⟩
  have ho4 := HS.out.off _ _ hG
  have q4 : Row w4 (w.heap.size + 1) 39 (bv nought) := (ho4.block _ (by omega) (fun hf => by have := HS.out.low _ hf; omega)).trans Q4.out
  have Q5 := Lib.hid q4
  have HG4 := Lib.hid hG
  have HLEN : Hid ((nought).length = 64) := (show _ = _ from rfl)
  have HSZ : Hid ((Try.prog.info? 39).map (·.size) = some (nought).length) := (show _ = _ by rw [HLEN.out]; exact size39)
  have HSB : Hid ((Try.prog.info? 39).map (·.size) = some (bv (nought)).length) := (show _ = _ by rw [bv_length]; exact HSZ.out)
  have HFT : Hid (0 + (bv (nought)).length ≤ (bv nought).length) := (show _ ≤ _ from Nat.le_of_eq ((Nat.zero_add _).trans ((bv_length _).trans (HLEN.out.trans rfl))))
  clear ho4 q4 hG Q4
  go_wp2_with (first
    | (with_reducible refine wpList_store_in (op := ⟨none, _, _, _, _, _⟩) ?_ 39 (.tmp 4) (.tmp 45) ?_ (w.heap.size + 1) 0 (bv (nought)) ?_ ?_ 39 (bv nought) Q5.out HFT.out bv_one HSB.out ?_))
  all_goals try rfl
  intro w5 hr5 hg5
  rw [splice_all (bv nought) (bv (nought)) (Eq.symm ((bv_length (nought)).trans (HLEN.out.trans rfl)))] at hr5
  have HRES := Lib.hid (run_load_blk (P := Try.prog) w5 (w.heap.size + 1) 0 39 (nought) _ (Row.range hr5 fun j v hj => by simpa using hj) Try.underlying39 rfl HSZ.out)
  have HGE := Lib.hid (HS.out.keep w6 w4 w5 (w.heap.size + 1) HB6.out HG4.out (by omega) (by omega) hg5)
  clear hr5 hg5 HG4 Q5
  go_wp2
  exact bodyPost_ret (v := .tuple #[blk (nought), .int .i64 err]) (results_cell_tmp (p := 4) (q := 5) (ty := 39) rfl _ _ ⟨w.heap.size + 1, 0, none⟩ _ _ rfl HRES.out rfl) rfl ⟨rfl, HGE.out⟩

set_option maxHeartbeats 1000000 in
set_option maxRecDepth 100000 in
theorem does1 (pv : Value) (k a : Int) (x : UInt8) (A : Option Addr) (n c : Nat) (err : Int) (F : Nat → Prop) (w : World) (G : World → World → Prop) (hst : Stable F w G) (hkind : kindM k = 1)
    (hc : ∀ w1, Below w.heap.size w w1 → Calls Try.prog 24 #[pv, .int .i64 a, blk (blockM x)] w1 fun e w' => e = .returned (.int .i64 err) ∧ G w1 w') :
    Calls Try.prog 10 #[pv, opv k a x A n c] w fun e w' => e = .returned (.tuple #[blk (nought), .int .i64 err]) ∧ G w w' := by
  have HC := Lib.hid hc
  clear hc
  have HBZ := Lib.hid built_zero
  have hk : kindM k = 1 := hkind
  obtain ⟨w1, hw1⟩ : ∃ w1, w1 = w.alloc (.cells (ocs k a x A n c).toArray 37) := ⟨_, rfl⟩
  obtain ⟨w2, hw2⟩ : ∃ w2, w2 = w1.alloc (.cells (bv nought).toArray 39) := ⟨_, rfl⟩
  have s1 : w1.heap.size = w.heap.size + 1 := by rw [hw1]; simp
  have s2 : w2.heap.size = w.heap.size + 1 + 1 := by rw [hw2]; simp [s1]
  have r3 : Row w2 w.heap.size 37 (ocs k a x A n c) := by rw [hw2, hw1]; exact (Row.new w _ (ocs k a x A n c)).alloc _
  have r4 : Row w2 (w.heap.size + 1) 39 (bv nought) := by
    have := Row.new w1 39 (bv nought)
    rw [s1] at this
    rw [hw2]; exact this
  have hb2 : Below w.heap.size w w2 := by
    rw [hw2, hw1]
    exact ((Below.refl _ _).alloc (Nat.le_refl _) _).alloc (by simp) _
  have HW : Hid ((w.alloc (.cells (ocs k a x A n c).toArray 37)).alloc (.cells (bv nought).toArray 39) = w2) := (show _ = _ by rw [hw2, hw1])
  have HKD := Lib.hid (kind_any k a _ (x.toNat : Int) rfl A n c w2)
  have HS := Lib.hid hst
  have HB2 := Lib.hid hb2
  have R3 := Lib.hid r3
  have R4 := Lib.hid r4
  have HK := Lib.hid hk
  clear hw2 hw1 r3 r4 hb2 hst hk
  unfold opv
  go_enter Try.func10, Try.ntmps10
  go_wp2_with fail
  refine Calls.mono (HW.out.symm ▸ HKD.out) ?_
  rintro e w3 ⟨rfl, hb3⟩
  rw [HW.out] at hb3
  rw [HK.out]
  have q3 := R3.out.below hb3 (by omega)
  have q4 := R4.out.below hb3 (by omega)
  have HB3 := Lib.hid (HB2.out.trans (hb3.mono HB2.out.size))
  have s3 : w.heap.size + 1 + 1 ≤ w3.heap.size := by have := hb3.size; omega
  have c0 : w3.cell? ⟨w.heap.size, 0, none⟩ = some (.int .i64 k) := q3.cell 0
  have c1 : w3.cell? ⟨w.heap.size, 1, none⟩ = some (.int .i64 a) := q3.cell 1
  have c2 : w3.cell? ⟨w.heap.size, 2, none⟩ = some (.int .u8 (x.toNat : Int)) := q3.cell 2
  have c3 : w3.cell? ⟨w.heap.size, 3, none⟩ = some (.slice A n c) := q3.cell 3
  have Q4 := Lib.hid q4
  clear HW HKD R3 R4 hb3 q3 q4 HB2
  go_wp2_with fail
  refine wp_region_held_drew (S := fun w' : World => w'.cell? ⟨w.heap.size, 1, none⟩ = some (.int .i64 a) ∧ w'.cell? ⟨w.heap.size, 2, none⟩ = some (.int .u8 (x.toNat : Int))) (by kernel_rfl) ⟨c1, c2⟩ (fun hHeld => ?_)
  refine wpAnyH_take (i := 0) (oi := ⟨some 18, _, _, _, _, _⟩) rfl (by kernel_rfl) (by kernel_rfl) (by kernel_rfl) (fun _ _ _ h => h) (yieldsIf_build (by rfl) 39 _ rfl (bv nought).toArray ?x14) hHeld ?r14
  case x14 => first | exact HBZ.out | (simp only [List.map_toArray, List.map_cons, List.map_nil, List.toList_toArray]; exact HBZ.out)
  try simp only [Act.put, List.setIfInBounds_toArray, List.set_cons_zero, List.set_cons_succ]
  refine wpAnyH_take (i := 1) (oi := ⟨some 19, _, _, _, _, _⟩) (v := ?v1) rfl (by kernel_rfl) (by kernel_rfl) (by kernel_rfl) (fun _ _ _ h => h) (Or.inl ⟨by rfl, ?y1⟩) hHeld ?r1
  case y1 =>
    rintro w' ⟨q1, q2⟩
    go_simp
    try with_reducible rfl
  try simp only [Act.put, List.setIfInBounds_toArray, List.set_cons_zero, List.set_cons_succ]
  refine wpAnyH_take (i := 2) (oi := ⟨some 20, _, _, _, _, _⟩) (v := ?v2) rfl (by kernel_rfl) (by kernel_rfl) (by kernel_rfl) (fun _ _ _ h => h) (Or.inl ⟨by rfl, ?y2⟩) hHeld ?r2
  case y2 =>
    rintro w' ⟨q1, q2⟩
    go_simp
    try with_reducible rfl
  try simp only [Act.put, List.setIfInBounds_toArray, List.set_cons_zero, List.set_cons_succ]
  refine wpAnyH_take (i := 3) (oi := ⟨some 21, _, _, _, _, _⟩) (v := ?v3) rfl (by kernel_rfl) (by kernel_rfl) (by kernel_rfl) (fun _ _ _ h => h) (Or.inl ⟨by rfl, ?y3⟩) hHeld ?r3
  case y3 =>
    rintro w' ⟨q1, q2⟩
    go_simp
    try with_reducible rfl
  try simp only [Act.put, List.setIfInBounds_toArray, List.set_cons_zero, List.set_cons_succ]
  refine wpAnyH_take (i := 4) (oi := ⟨some 22, _, _, _, _, _⟩) (v := ?v4) rfl (by kernel_rfl) (by kernel_rfl) (by kernel_rfl) (fun _ _ _ h => h) (Or.inl ⟨by rfl, ?y4⟩) hHeld ?r4
  case y4 =>
    rintro w' ⟨q1, q2⟩
    go_simp
    try with_reducible rfl
  try simp only [Act.put, List.setIfInBounds_toArray, List.set_cons_zero, List.set_cons_succ]
  refine wpAnyH_take (i := 5) (oi := ⟨some 23, _, _, _, _, _⟩) (v := ?v5) rfl (by kernel_rfl) (by kernel_rfl) (by kernel_rfl) (fun _ _ _ h => h) (Or.inl ⟨by rfl, ?y5⟩) hHeld ?r5
  case y5 =>
    rintro w' ⟨q1, q2⟩
    go_simp
    try with_reducible rfl
  try simp only [Act.put, List.setIfInBounds_toArray, List.set_cons_zero, List.set_cons_succ]
  refine wpAnyH_ready (rs := [6]) (by kernel_rfl) (by simp) ?_
  refine AllReadyH.cons rfl (fun K hK => ?_) AllReadyH.nil
  go_simp
  refine (block_any x _).mono ?_
  rintro e w6 ⟨rfl, hb6⟩
  have hb6' : Below w3.heap.size w3 w6 := ⟨hb6.os, hb6.tape, hb6.output, hb6.size, hb6.block⟩
  have d1 : w6.cell? ⟨w.heap.size, 1, none⟩ = some (.int .i64 a) := (hb6'.cell (p := ⟨w.heap.size, 1, none⟩) (by show w.heap.size < _; omega)).trans c1
  have d2 : w6.cell? ⟨w.heap.size, 2, none⟩ = some (.int .u8 (x.toNat : Int)) := (hb6'.cell (p := ⟨w.heap.size, 2, none⟩) (by show w.heap.size < _; omega)).trans c2
  have HB6 := Lib.hid (HB3.out.trans (hb6'.mono HB3.out.size))
  have q4 := Q4.out.below hb6' (by omega)
  have Q4 := Lib.hid q4
  have s6 : w.heap.size + 1 + 1 ≤ w6.heap.size := by have := hb6'.size; omega
  refine hK _ _ ⟨d1, d2⟩ (fun _ => ?_)
  clear hK K hb6 hb6' q4 HB3 c0 c1 c2 c3
  try simp only [Act.put, List.setIfInBounds_toArray, List.set_cons_zero, List.set_cons_succ]
  refine wpAnyH_ready (rs := [7]) (by kernel_rfl) (by simp) ?_
  refine AllReadyH.cons rfl (fun K hK => ?_) AllReadyH.nil
  go_simp
  refine (HC.out w6 HB6.out).mono ?_
  rintro e w4 ⟨rfl, hG⟩
  have ho4 := HS.out.off _ _ hG
  have q4 : Row w4 (w.heap.size + 1) 39 (bv nought) := (ho4.block _ (by omega) (fun hf => by have := HS.out.low _ hf; omega)).trans Q4.out
  have Q5 := Lib.hid q4
  have HG4 := Lib.hid hG
  have HLEN : Hid ((nought).length = 64) := (show _ = _ from rfl)
  have HSZ : Hid ((Try.prog.info? 39).map (·.size) = some (nought).length) := (show _ = _ by rw [HLEN.out]; exact size39)
  have HSB : Hid ((Try.prog.info? 39).map (·.size) = some (bv (nought)).length) := (show _ = _ by rw [bv_length]; exact HSZ.out)
  have HFT : Hid (0 + (bv (nought)).length ≤ (bv nought).length) := (show _ ≤ _ from Nat.le_of_eq ((Nat.zero_add _).trans ((bv_length _).trans (HLEN.out.trans rfl))))
  clear ho4 q4 hG Q4
  have d3 : w4.cell? ⟨w.heap.size, 1, none⟩ = some (.int .i64 a) := (HS.out.off _ _ HG4.out).cell (fun hf => by have := HS.out.low _ hf; simp at this) d1
  have d4 : w4.cell? ⟨w.heap.size, 2, none⟩ = some (.int .u8 (x.toNat : Int)) := (HS.out.off _ _ HG4.out).cell (fun hf => by have := HS.out.low _ hf; simp at this) d2
  refine hK _ _ ⟨d3, d4⟩ (fun _ => ?_)
  clear hK K
  try simp only [Act.put, List.setIfInBounds_toArray, List.set_cons_zero, List.set_cons_succ]
  refine wpAnyH_ready (rs := [8]) (by kernel_rfl) (by simp) ?_
  refine AllReadyH.cons rfl (fun K hK => ?_) AllReadyH.nil
  rw [if_pos (by rfl)]
  refine wp_store_mid 39 (.tmp 4) (.tmp 18) rfl (w.heap.size + 1) 0 (bv nought).toArray rfl rfl ?_ ?_ (all_oneCell_toArray bv_one) ?_
  · rw [List.size_toArray]; exact Row.there Q5.out HFT.out
  · rw [List.size_toArray]; exact HSB.out
  rw [List.toList_toArray]
  have hr5 := Row.setCells (bv nought) 0 (bv nought) w4 Q5.out HFT.out
  have hg5 := grown_setCells (w.heap.size + 1) (bv nought) 0 w4
  generalize w4.setCells (w.heap.size + 1) 0 (bv nought) = w5 at hr5 hg5 ⊢
  have d5 := hg5.cell d3 (by simp)
  have d6 := hg5.cell d4 (by simp)
  refine hK _ _ ⟨d5, d6⟩ (fun _ => ?_)
  clear hK K
  try simp only [Act.put, List.setIfInBounds_toArray, List.set_cons_zero, List.set_cons_succ]
  refine wpAnyH_take (i := 9) (oi := ⟨some 5, _, _, _, _, _⟩) (v := ?v9) rfl (by kernel_rfl) (by kernel_rfl) (by kernel_rfl) (fun _ _ _ h => h) (Or.inl ⟨by rfl, ?y9⟩) ⟨d5, d6⟩ ?r9
  case y9 =>
    rintro w' ⟨q1, q2⟩
    go_simp
    try with_reducible rfl
  try simp only [Act.put, List.setIfInBounds_toArray, List.set_cons_zero, List.set_cons_succ]
  refine wpAnyH_done (by kernel_rfl) ?_ _
  rw [splice_all (bv nought) (bv (nought)) (Eq.symm ((bv_length (nought)).trans (HLEN.out.trans rfl)))] at hr5
  have HRES := Lib.hid (run_load_blk (P := Try.prog) w5 (w.heap.size + 1) 0 39 (nought) _ (Row.range hr5 fun j v hj => by simpa using hj) Try.underlying39 rfl HSZ.out)
  have HGE := Lib.hid (HS.out.keep w6 w4 w5 (w.heap.size + 1) HB6.out HG4.out (by omega) (by omega) hg5)
  clear hr5 hg5 HG4 Q5
  go_wp2
  exact bodyPost_ret (v := .tuple #[blk (nought), .int .i64 err]) (results_cell_tmp (p := 4) (q := 5) (ty := 39) rfl _ _ ⟨w.heap.size + 1, 0, none⟩ _ _ rfl HRES.out rfl) rfl ⟨rfl, HGE.out⟩
end Go.Proofs.Ytbfpadilcfelbaa.Dsk
