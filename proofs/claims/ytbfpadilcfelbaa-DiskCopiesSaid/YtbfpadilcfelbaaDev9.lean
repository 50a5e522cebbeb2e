/-
  The statements' does, over whatever disk it is asked of; keeps.
-/
import Derived.Test.YtbfpadilcfelbaaDev8
namespace Go.Proofs.Ytbfpadilcfelbaa.Dsk
open Go.RowKit Go.Proofs.Ytbfpadilcfelbaa.Wd

/-- The address A, with as many cells as vs has, reads vs; it lies below block B. -/
def Vs (w : World) (B : Nat) (A : Option Addr) (vs : List Value) : Prop :=
  0 < vs.length → ∃ b o, A = some ⟨b, o, none⟩ ∧ b < B ∧ w.rangeAt b o vs
theorem Vs.below {w w' : World} {B : Nat} {A : Option Addr} {vs : List Value} (h : Vs w B A vs) (hb : Below B w w') : Vs w' B A vs := fun hp => by
  obtain ⟨b, o, e, hlt, hr⟩ := h hp
  exact ⟨b, o, e, hlt, range_below hr hb hlt⟩
theorem wpList_append_vs {P : Program} {w : World} {ops : Array Oper} {rest : List Oper} {o : Oper} {a : Act} {Q : Exit → Act → World → Prop} (hgd : o.guard = none) (s x : Operand) (t : TypeId)
    (ho : o.op = .call { callee := .builtin .append, args := #[s, x], argTypes := #[t, t] })
    (base : Nat) (e : TypeId) (i : TypeInfo) (z : Value) (ht : P.underlying t = some (.slice e)) (hi : P.info? e = some i) (hz : i.zero = some z) (hsize : i.size = 1) (hby : i.bytes = 1) (hzs : z.cells.size = 1)
    (v : Value) (n : Nat) (xs : List Value) (hs : a.eval s = v) (hown : w.ownsRow base e 1 v n xs)
    (A : Option Addr) (m c : Nat) (vs : List Value) (hx : a.eval x = .slice A m c) (hl : vs.length = m) (B : Nat) (hr : Vs w B A vs) (h1 : ∀ u ∈ vs, u.oneCell' = true) (hA : A = none → c = 0)
    (h63 : n + m ≤ 140737488355328) (hbase : base ≤ w.heap.size)
    (h : ∀ v' w', w'.ownsRow base e 1 v' (n + m) (xs ++ vs) → w.grownBy w' v.ownBlock → wpList P ops Q rest (a.put o.dst v') w') : wpList P ops Q (o :: rest) a w := by
  cases A with
  | none =>
    have h0 : m = 0 := by
      rcases Nat.eq_zero_or_pos m with h0 | h0
      · exact h0
      · obtain ⟨b, o, e, _⟩ := hr (by omega)
        cases e
    subst h0
    obtain rfl := hA rfl
    obtain rfl : vs = [] := List.eq_nil_of_length_eq_zero hl
    refine wpList_plain hgd fun K hK' => ?_
    have hrun := run_append_owned_none (P := P) w base t o.type e i 1 ht hi v n xs hown
    unfold Oper.wp
    simp [execOp, ho, resolve, invoke, builtin, hs, hx, hrun, Result.andThen]
    exact hK' _ _ (h v w (by simpa using hown) (World.grownBy.refl _ _))
  | some ad =>
    refine wpList_plain hgd fun K hK' => wp_append_own w s x t ho base e i z 1 1 ht hi hz hsize hby hzs (by omega) v n xs hs hown ad m c vs hx (by omega) (fun j u hu => ?_) h1 (by unfold maxLen; omega) (by omega) hbase fun v' w' h2 h3 _ => hK' _ _ (h v' w' h2 h3)
    have hj : j < vs.length := (List.getElem?_eq_some_iff.1 hu).1
    obtain ⟨b, o, e, _, hc⟩ := hr (by omega)
    obtain rfl := Option.some.inj e
    rw [Addr.add_lit, hc j u hu]
def bools (l : List Bool) : List Value := l.map .bool
theorem bools_one {l : List Bool} : ∀ u ∈ bools l, u.oneCell' = true := by
  intro u hu
  obtain ⟨_, _, rfl⟩ := List.mem_map.1 hu
  rfl
theorem info4 : (Try.prog.info? 4).map (fun i => (i.zero, i.size, i.bytes)) = some (some (.bool false), 1, 1) := by kernel_rfl

theorem keeps_any (A : Option Addr) (n c : Nat) (l : List Bool) (w : World) (hl : l.length = n) (hv : Vs w w.heap.size A (bools l)) (hA : A = none → c = 0) (hn : n ≤ 140737488351232) :
    Calls Try.prog 29 #[.slice A n c] w fun e w' => ∃ v, e = .returned v ∧ w'.ownsRow w.heap.size 4 1 v n (bools l) ∧ Below w.heap.size w w' := by
  obtain ⟨i0, hi, hz0, hz1, hz2⟩ := info_parts info4
  have hmk : ∀ u : World, (Instr.makeSlice 35 (.int .i64 0) (.int .i64 ((n : Int) + 3))).run Try.prog u = .ok (.slice (some ⟨u.heap.size, 0, none⟩) 0 (n + 3)) (u.alloc (.cells (madeCells #[.bool false] (n + 3)) 4)) := fun u => by
    have h := run_make (P := Try.prog) u 35 4 i0 (.bool false) Try.underlying35 hi hz0 .i64 .i64 0 ((n : Int) + 3) (by omega) (by omega) (by rw [hz2]; omega) (by omega)
    rw [hz1] at h
    have e : ((n : Int) + 3).toNat = n + 3 := by omega
    rw [e, Nat.mul_one] at h
    exact h
  have hw3 : wrap64 ((n : Int) + 3) = (n : Int) + 3 := by unfold wrap64; omega
  have HI := Lib.hid hi
  have HZ0 := Lib.hid hz0
  have HZ1 := Lib.hid hz1
  have HZ2 := Lib.hid hz2
  have HV := Lib.hid (hv.below ((Below.refl _ _).alloc (Nat.le_refl _) (.cells (madeCells #[.bool false] (n + 3)) 4)))
  have HOWN : Hid ((w.alloc (.cells (madeCells #[.bool false] (n + 3)) 4)).ownsRow w.heap.size 4 1 (.slice (some ⟨w.heap.size, 0, none⟩) 0 (n + 3)) 0 []) := (show World.ownsRow _ _ _ _ _ _ _ from World.ownsRow_made w _ (n + 3) (Nat.le_refl _) (by unfold maxLen; omega) (by simp [madeCells]))
  have HL : Hid ((bools l).length = n) := (show _ = _ by rw [bools, List.length_map, hl])
  clear hi hz0 hz1 hz2 hv hl
  go_enter Try.func29, Try.ntmps29
  go_wp2_with (first
    | (with_reducible refine wpList_append_vs (o := ⟨some 8, _, _, _, _, _⟩) ?_ (.tmp 6) (.tmp 7) 35 ?_ w.heap.size 4 i0 (.bool false) Try.underlying35 HI.out HZ0.out HZ1.out HZ2.out ?_ (.slice (some ⟨w.heap.size, 0, none⟩) 0 (n + 3)) 0 [] ?_ HOWN.out A n c (bools l) ?_ HL.out w.heap.size HV.out bools_one hA ?_ ?_ ?_))
  all_goals try (first | rfl | omega | (simp; done))
  intro v' w2 hown2 hg2
  have hb2 : Below w.heap.size w w2 := ((Below.refl _ _).alloc (Nat.le_refl _) _).grown hg2 (by simp) (fun k e => Nat.le_of_eq (Option.some.inj e))
  have HO2 : Hid (w2.ownsRow w.heap.size 4 1 v' n (bools l)) := (show World.ownsRow _ _ _ _ _ _ _ by simpa using hown2)
  have HB2 := Lib.hid hb2
  clear hown2 hg2 hb2
  go_wp2
  go_ret
  exact ⟨_, rfl, HO2.out, HB2.out⟩

/-- an op's value -/
def opv (k a : Int) (x : UInt8) (A : Option Addr) (n c : Nat) : Value := .agg #[.int .i64 k, .int .i64 a, .int .u8 (x.toNat : Int), .slice A n c]
def ocs (k a : Int) (x : UInt8) (A : Option Addr) (n c : Nat) : List Value := [.int .i64 k, .int .i64 a, .int .u8 (x.toNat : Int), .slice A n c]
/-- what a call asked of a disk leaves: nothing outside of F turns, and what is made ahead and behind doesn't matter -/
structure Stable (F : Nat → Prop) (w : World) (G : World → World → Prop) : Prop where
  low : ∀ k, F k → k < w.heap.size
  off : ∀ w1 w2, G w1 w2 → Off F w1 w2
  keep : ∀ w1 w2 w3 b, Below w.heap.size w w1 → G w1 w2 → w.heap.size ≤ b → b < w1.heap.size → w2.grownBy w3 (some b) → G w w3
set_option maxHeartbeats 1000000 in
set_option maxRecDepth 100000 in
theorem does0 (pv : Value) (k a : Int) (x : UInt8) (A : Option Addr) (n c : Nat) (err : Int) (F : Nat → Prop) (w : World) (G : World → World → Prop) (hst : Stable F w G) (hkind : kindM k = 0) (L : List UInt8) (hL : L.length = 64)
    (hc : ∀ w1, Below w.heap.size w w1 → Calls Try.prog 14 #[pv, .int .i64 a] w1 fun e w' => e = .returned (.tuple #[blk L, .int .i64 err]) ∧ G w1 w') :
    Calls Try.prog 10 #[pv, opv k a x A n c] w fun e w' => e = .returned (.tuple #[blk (L), .int .i64 err]) ∧ G w w' := by
  have HC := Lib.hid hc
  clear hc
  have hk : kindM k = 0 := hkind
  obtain ⟨w1, hw1⟩ : ∃ w1, w1 = w.alloc (.cells (ocs k a x A n c).toArray 37) := ⟨_, rfl⟩
  obtain ⟨w2, hw2⟩ : ∃ w2, w2 = w1.alloc (.cells (bv nought).toArray 39) := ⟨_, rfl⟩
  have s1 : w1.heap.size = w.heap.size + 1 := by rw [hw1]; simp
  have s2 : w2.heap.size = w.heap.size + 1 + 1 := by rw [hw2]; simp [s1]
  have r3 : Row w2 w.heap.size 37 (ocs k a x A n c) := by rw [hw2, hw1]; exact (Row.new w _ (ocs k a x A n c)).alloc _
  have r4 : Row w2 (w.heap.size + 1) 39 (bv nought) := by
    have := Row.new w1 39 (bv nought)
    rw [s1] at this
    rw [hw2]; exact this
  have hb2 : Below w.heap.size w w2 := by
    rw [hw2, hw1]
    exact ((Below.refl _ _).alloc (Nat.le_refl _) _).alloc (by simp) _
  have HW : Hid ((w.alloc (.cells (ocs k a x A n c).toArray 37)).alloc (.cells (bv nought).toArray 39) = w2) := (show _ = _ by rw [hw2, hw1])
  have HKD := Lib.hid (kind_any k a _ (x.toNat : Int) rfl A n c w2)
  have HS := Lib.hid hst
  have HB2 := Lib.hid hb2
  have R3 := Lib.hid r3
  have R4 := Lib.hid r4
  have HK := Lib.hid hk
  clear hw2 hw1 r3 r4 hb2 hst hk
  unfold opv
  go_enter Try.func10, Try.ntmps10
  go_wp2_with fail
  refine Calls.mono (HW.out.symm ▸ HKD.out) ?_
  rintro e w3 ⟨rfl, hb3⟩
  rw [HW.out] at hb3
  rw [HK.out]
  have q3 := R3.out.below hb3 (by omega)
  have q4 := R4.out.below hb3 (by omega)
  have HB3 := Lib.hid (HB2.out.trans (hb3.mono HB2.out.size))
  have s3 : w.heap.size + 1 + 1 ≤ w3.heap.size := by have := hb3.size; omega
  have c0 : w3.cell? ⟨w.heap.size, 0, none⟩ = some (.int .i64 k) := q3.cell 0
  have c1 : w3.cell? ⟨w.heap.size, 1, none⟩ = some (.int .i64 a) := q3.cell 1
  have c2 : w3.cell? ⟨w.heap.size, 2, none⟩ = some (.int .u8 (x.toNat : Int)) := q3.cell 2
  have c3 : w3.cell? ⟨w.heap.size, 3, none⟩ = some (.slice A n c) := q3.cell 3
  have Q4 := Lib.hid q4
  clear HW HKD R3 R4 hb3 q3 q4 HB2
  go_wp2_with fail
  refine (HC.out _ HB3.out).mono ?_
  rintro e w4 ⟨rfl, hG⟩
  have ho4 := HS.out.off _ _ hG
  have q4 : Row w4 (w.heap.size + 1) 39 (bv nought) := (ho4.block _ (by omega) (fun hf => by have := HS.out.low _ hf; omega)).trans Q4.out
  have Q5 := Lib.hid q4
  have HG4 := Lib.hid hG
  have HLEN : Hid ((L).length = 64) := (show _ = _ from hL)
  have HSZ : Hid ((Try.prog.info? 39).map (·.size) = some (L).length) := (show _ = _ by rw [HLEN.out]; exact size39)
  have HSB : Hid ((Try.prog.info? 39).map (·.size) = some (bv (L)).length) := (show _ = _ by rw [bv_length]; exact HSZ.out)
  have HFT : Hid (0 + (bv (L)).length ≤ (bv nought).length) := (show _ ≤ _ from Nat.le_of_eq ((Nat.zero_add _).trans ((bv_length _).trans (HLEN.out.trans rfl))))
  clear ho4 q4 hG Q4
  go_wp2_with (first
    | (with_reducible refine wpList_store_in (op := ⟨none, _, _, _, _, _⟩) ?_ 39 (.tmp 4) (.tmp 14) ?_ (w.heap.size + 1) 0 (bv (L)) ?_ ?_ 39 (bv nought) Q5.out HFT.out bv_one HSB.out ?_))
  all_goals try rfl
  intro w5 hr5 hg5
  rw [splice_all (bv nought) (bv (L)) (Eq.symm ((bv_length (L)).trans (HLEN.out.trans rfl)))] at hr5
  have HRES := Lib.hid (run_load_blk (P := Try.prog) w5 (w.heap.size + 1) 0 39 (L) _ (Row.range hr5 fun j v hj => by simpa using hj) Try.underlying39 rfl HSZ.out)
  have HGE := Lib.hid (HS.out.keep w3 w4 w5 (w.heap.size + 1) HB3.out HG4.out (by omega) (by omega) hg5)
  clear hr5 hg5 HG4 Q5
  go_wp2
  exact bodyPost_ret (v := .tuple #[blk (L), .int .i64 err]) (results_cell_tmp (p := 4) (q := 5) (ty := 39) rfl _ _ ⟨w.heap.size + 1, 0, none⟩ _ _ rfl HRES.out rfl) rfl ⟨rfl, HGE.out⟩

set_option maxHeartbeats 1000000 in
set_option maxRecDepth 100000 in
theorem does2 (pv : Value) (k a : Int) (x : UInt8) (A : Option Addr) (n c : Nat) (err : Int) (F : Nat → Prop) (w : World) (G : World → World → Prop) (hst : Stable F w G) (hkind : kindM k = 2)
    (hc : ∀ w1, Below w.heap.size w w1 → Calls Try.prog 21 #[pv] w1 fun e w' => e = .returned (.int .i64 err) ∧ G w1 w') :
    Calls Try.prog 10 #[pv, opv k a x A n c] w fun e w' => e = .returned (.tuple #[blk (nought), .int .i64 err]) ∧ G w w' := by
  have HC := Lib.hid hc
  clear hc
  have HBZ := Lib.hid built_zero
  have hk : kindM k = 2 := hkind
  obtain ⟨w1, hw1⟩ : ∃ w1, w1 = w.alloc (.cells (ocs k a x A n c).toArray 37) := ⟨_, rfl⟩
  obtain ⟨w2, hw2⟩ : ∃ w2, w2 = w1.alloc (.cells (bv nought).toArray 39) := ⟨_, rfl⟩
  have s1 : w1.heap.size = w.heap.size + 1 := by rw [hw1]; simp
  have s2 : w2.heap.size = w.heap.size + 1 + 1 := by rw [hw2]; simp [s1]
  have r3 : Row w2 w.heap.size 37 (ocs k a x A n c) := by rw [hw2, hw1]; exact (Row.new w _ (ocs k a x A n c)).alloc _
  have r4 : Row w2 (w.heap.size + 1) 39 (bv nought) := by
    have := Row.new w1 39 (bv nought)
    rw [s1] at this
    rw [hw2]; exact this
  have hb2 : Below w.heap.size w w2 := by
    rw [hw2, hw1]
    exact ((Below.refl _ _).alloc (Nat.le_refl _) _).alloc (by simp) _
  have HW : Hid ((w.alloc (.cells (ocs k a x A n c).toArray 37)).alloc (.cells (bv nought).toArray 39) = w2) := (show _ = _ by rw [hw2, hw1])
  have HKD := Lib.hid (kind_any k a _ (x.toNat : Int) rfl A n c w2)
  have HS := Lib.hid hst
  have HB2 := Lib.hid hb2
  have R3 := Lib.hid r3
  have R4 := Lib.hid r4
  have HK := Lib.hid hk
  clear hw2 hw1 r3 r4 hb2 hst hk
  unfold opv
  go_enter Try.func10, Try.ntmps10
  go_wp2_with fail
  refine Calls.mono (HW.out.symm ▸ HKD.out) ?_
  rintro e w3 ⟨rfl, hb3⟩
  rw [HW.out] at hb3
  rw [HK.out]
  have q3 := R3.out.below hb3 (by omega)
  have q4 := R4.out.below hb3 (by omega)
  have HB3 := Lib.hid (HB2.out.trans (hb3.mono HB2.out.size))
  have s3 : w.heap.size + 1 + 1 ≤ w3.heap.size := by have := hb3.size; omega
  have c0 : w3.cell? ⟨w.heap.size, 0, none⟩ = some (.int .i64 k) := q3.cell 0
  have c1 : w3.cell? ⟨w.heap.size, 1, none⟩ = some (.int .i64 a) := q3.cell 1
  have c2 : w3.cell? ⟨w.heap.size, 2, none⟩ = some (.int .u8 (x.toNat : Int)) := q3.cell 2
  have c3 : w3.cell? ⟨w.heap.size, 3, none⟩ = some (.slice A n c) := q3.cell 3
  have Q4 := Lib.hid q4
  clear HW HKD R3 R4 hb3 q3 q4 HB2
  go_wp2_with (first
    | (with_reducible refine wpList_build_to (o := ⟨some 28, _, _, _, _, _⟩) (by rfl) 39 _ rfl (bv nought).toArray HBZ.out ?_))
  refine (HC.out _ HB3.out).mono ?_
  rintro e w4 ⟨rfl, hG⟩
  have ho4 := HS.out.off _ _ hG
  have q4 : Row w4 (w.heap.size + 1) 39 (bv nought) := (ho4.block _ (by omega) (fun hf => by have := HS.out.low _ hf; omega)).trans Q4.out
  have Q5 := Lib.hid q4
  have HG4 := Lib.hid hG
  have HLEN : Hid ((nought).length = 64) := (show _ = _ from rfl)
  have HSZ : Hid ((Try.prog.info? 39).map (·.size) = some (nought).length) := (show _ = _ by rw [HLEN.out]; exact size39)
  have HSB : Hid ((Try.prog.info? 39).map (·.size) = some (bv (nought)).length) := (show _ = _ by rw [bv_length]; exact HSZ.out)
  have HFT : Hid (0 + (bv (nought)).length ≤ (bv nought).length) := (show _ ≤ _ from Nat.le_of_eq ((Nat.zero_add _).trans ((bv_length _).trans (HLEN.out.trans rfl))))
  clear ho4 q4 hG Q4
  go_wp2_with (first
    | (with_reducible refine wpList_store_in (op := ⟨none, _, _, _, _, _⟩) ?_ 39 (.tmp 4) (.tmp 28) ?_ (w.heap.size + 1) 0 (bv (nought)) ?_ ?_ 39 (bv nought) Q5.out HFT.out bv_one HSB.out ?_))
  all_goals try rfl
  intro w5 hr5 hg5
  rw [splice_all (bv nought) (bv (nought)) (Eq.symm ((bv_length (nought)).trans (HLEN.out.trans rfl)))] at hr5
  have HRES := Lib.hid (run_load_blk (P := Try.prog) w5 (w.heap.size + 1) 0 39 (nought) _ (Row.range hr5 fun j v hj => by simpa using hj) Try.underlying39 rfl HSZ.out)
  have HGE := Lib.hid (HS.out.keep w3 w4 w5 (w.heap.size + 1) HB3.out HG4.out (by omega) (by omega) hg5)
  clear hr5 hg5 HG4 Q5
  go_wp2
  exact bodyPost_ret (v := .tuple #[blk (nought), .int .i64 err]) (results_cell_tmp (p := 4) (q := 5) (ty := 39) rfl _ _ ⟨w.heap.size + 1, 0, none⟩ _ _ rfl HRES.out rfl) rfl ⟨rfl, HGE.out⟩

set_option maxHeartbeats 1000000 in
set_option maxRecDepth 100000 in
theorem does3 (pv : Value) (k a : Int) (x : UInt8) (A : Option Addr) (n c : Nat) (err : Int) (F : Nat → Prop) (w : World) (G : World → World → Prop) (hst : Stable F w G) (hkind : kindM k = 3)
    (hc : ∀ w1, Below w.heap.size w w1 → Calls Try.prog 27 #[pv, .int .i64 a] w1 fun e w' => e = .returned (.int .i64 err) ∧ G w1 w') :
    Calls Try.prog 10 #[pv, opv k a x A n c] w fun e w' => e = .returned (.tuple #[blk (nought), .int .i64 err]) ∧ G w w' := by
  have HC := Lib.hid hc
  clear hc
  have HBZ := Lib.hid built_zero
  have hk : kindM k = 3 := hkind
  obtain ⟨w1, hw1⟩ : ∃ w1, w1 = w.alloc (.cells (ocs k a x A n c).toArray 37) := ⟨_, rfl⟩
  obtain ⟨w2, hw2⟩ : ∃ w2, w2 = w1.alloc (.cells (bv nought).toArray 39) := ⟨_, rfl⟩
  have s1 : w1.heap.size = w.heap.size + 1 := by rw [hw1]; simp
  have s2 : w2.heap.size = w.heap.size + 1 + 1 := by rw [hw2]; simp [s1]
  have r3 : Row w2 w.heap.size 37 (ocs k a x A n c) := by rw [hw2, hw1]; exact (Row.new w _ (ocs k a x A n c)).alloc _
  have r4 : Row w2 (w.heap.size + 1) 39 (bv nought) := by
    have := Row.new w1 39 (bv nought)
    rw [s1] at this
    rw [hw2]; exact this
  have hb2 : Below w.heap.size w w2 := by
    rw [hw2, hw1]
    exact ((Below.refl _ _).alloc (Nat.le_refl _) _).alloc (by simp) _
  have HW : Hid ((w.alloc (.cells (ocs k a x A n c).toArray 37)).alloc (.cells (bv nought).toArray 39) = w2) := (show _ = _ by rw [hw2, hw1])
  have HKD := Lib.hid (kind_any k a _ (x.toNat : Int) rfl A n c w2)
  have HS := Lib.hid hst
  have HB2 := Lib.hid hb2
  have R3 := Lib.hid r3
  have R4 := Lib.hid r4
  have HK := Lib.hid hk
  clear hw2 hw1 r3 r4 hb2 hst hk
  unfold opv
  go_enter Try.func10, Try.ntmps10
  go_wp2_with fail
  refine Calls.mono (HW.out.symm ▸ HKD.out) ?_
  rintro e w3 ⟨rfl, hb3⟩
  rw [HW.out] at hb3
  rw [HK.out]
  have q3 := R3.out.below hb3 (by omega)
  have q4 := R4.out.below hb3 (by omega)
  have HB3 := Lib.hid (HB2.out.trans (hb3.mono HB2.out.size))
  have s3 : w.heap.size + 1 + 1 ≤ w3.heap.size := by have := hb3.size; omega
  have c0 : w3.cell? ⟨w.heap.size, 0, none⟩ = some (.int .i64 k) := q3.cell 0
  have c1 : w3.cell? ⟨w.heap.size, 1, none⟩ = some (.int .i64 a) := q3.cell 1
  have c2 : w3.cell? ⟨w.heap.size, 2, none⟩ = some (.int .u8 (x.toNat : Int)) := q3.cell 2
  have c3 : w3.cell? ⟨w.heap.size, 3, none⟩ = some (.slice A n c) := q3.cell 3
  have Q4 := Lib.hid q4
  clear HW HKD R3 R4 hb3 q3 q4 HB2
  go_wp2_with (first
    | (with_reducible refine wpList_build_to (o := ⟨some 33, _, _, _, _, _⟩) (by rfl) 39 _ rfl (bv nought).toArray HBZ.out ?_))
  refine (HC.out _ HB3.out).mono ?_
  rintro e w4 ⟨rfl, hG⟩
  have ho4 := HS.out.off _ _ hG
  have q4 : Row w4 (w.heap.size + 1) 39 (bv nought) := (ho4.block _ (by omega) (fun hf => by have := HS.out.low _ hf; omega)).trans Q4.out
  have Q5 := Lib.hid q4
  have HG4 := Lib.hid hG
  have HLEN : Hid ((nought).length = 64) := (show _ = _ from rfl)
  have HSZ : Hid ((Try.prog.info? 39).map (·.size) = some (nought).length) := (show _ = _ by rw [HLEN.out]; exact size39)
  have HSB : Hid ((Try.prog.info? 39).map (·.size) = some (bv (nought)).length) := (show _ = _ by rw [bv_length]; exact HSZ.out)
  have HFT : Hid (0 + (bv (nought)).length ≤ (bv nought).length) := (show _ ≤ _ from Nat.le_of_eq ((Nat.zero_add _).trans ((bv_length _).trans (HLEN.out.trans rfl))))
  clear ho4 q4 hG Q4
  go_wp2_with (first
    | (with_reducible refine wpList_store_in (op := ⟨none, _, _, _, _, _⟩) ?_ 39 (.tmp 4) (.tmp 33) ?_ (w.heap.size + 1) 0 (bv (nought)) ?_ ?_ 39 (bv nought) Q5.out HFT.out bv_one HSB.out ?_))
  all_goals try rfl
  intro w5 hr5 hg5
  rw [splice_all (bv nought) (bv (nought)) (Eq.symm ((bv_length (nought)).trans (HLEN.out.trans rfl)))] at hr5
  have HRES := Lib.hid (run_load_blk (P := Try.prog) w5 (w.heap.size + 1) 0 39 (nought) _ (Row.range hr5 fun j v hj => by simpa using hj) Try.underlying39 rfl HSZ.out)
  have HGE := Lib.hid (HS.out.keep w3 w4 w5 (w.heap.size + 1) HB3.out HG4.out (by omega) (by omega) hg5)
  clear hr5 hg5 HG4 Q5
  go_wp2
  exact bodyPost_ret (v := .tuple #[blk (nought), .int .i64 err]) (results_cell_tmp (p := 4) (q := 5) (ty := 39) rfl _ _ ⟨w.heap.size + 1, 0, none⟩ _ _ rfl HRES.out rfl) rfl ⟨rfl, HGE.out⟩

set_option maxHeartbeats 1000000 in
set_option maxRecDepth 100000 in
theorem does5 (pv : Value) (k a : Int) (x : UInt8) (A : Option Addr) (n c : Nat) (err : Int) (F : Nat → Prop) (w : World) (G : World → World → Prop) (hst : Stable F w G) (hkind : kindM k = 5)
    (hc : ∀ w1, Below w.heap.size w w1 → Calls Try.prog 28 #[pv, .int .i64 a] w1 fun e w' => e = .returned (.int .i64 err) ∧ G w1 w') :
    Calls Try.prog 10 #[pv, opv k a x A n c] w fun e w' => e = .returned (.tuple #[blk (nought), .int .i64 err]) ∧ G w w' := by
  have HC := Lib.hid hc
  clear hc
  have HBZ := Lib.hid built_zero
  have hk : kindM k = 5 := hkind
  obtain ⟨w1, hw1⟩ : ∃ w1, w1 = w.alloc (.cells (ocs k a x A n c).toArray 37) := ⟨_, rfl⟩
  obtain ⟨w2, hw2⟩ : ∃ w2, w2 = w1.alloc (.cells (bv nought).toArray 39) := ⟨_, rfl⟩
  have s1 : w1.heap.size = w.heap.size + 1 := by rw [hw1]; simp
  have s2 : w2.heap.size = w.heap.size + 1 + 1 := by rw [hw2]; simp [s1]
  have r3 : Row w2 w.heap.size 37 (ocs k a x A n c) := by rw [hw2, hw1]; exact (Row.new w _ (ocs k a x A n c)).alloc _
  have r4 : Row w2 (w.heap.size + 1) 39 (bv nought) := by
    have := Row.new w1 39 (bv nought)
    rw [s1] at this
    rw [hw2]; exact this
  have hb2 : Below w.heap.size w w2 := by
    rw [hw2, hw1]
    exact ((Below.refl _ _).alloc (Nat.le_refl _) _).alloc (by simp) _
  have HW : Hid ((w.alloc (.cells (ocs k a x A n c).toArray 37)).alloc (.cells (bv nought).toArray 39) = w2) := (show _ = _ by rw [hw2, hw1])
  have HKD := Lib.hid (kind_any k a _ (x.toNat : Int) rfl A n c w2)
  have HS := Lib.hid hst
  have HB2 := Lib.hid hb2
  have R3 := Lib.hid r3
  have R4 := Lib.hid r4
  have HK := Lib.hid hk
  clear hw2 hw1 r3 r4 hb2 hst hk
  unfold opv
  go_enter Try.func10, Try.ntmps10
  go_wp2_with fail
  refine Calls.mono (HW.out.symm ▸ HKD.out) ?_
  rintro e w3 ⟨rfl, hb3⟩
  rw [HW.out] at hb3
  rw [HK.out]
  have q3 := R3.out.below hb3 (by omega)
  have q4 := R4.out.below hb3 (by omega)
  have HB3 := Lib.hid (HB2.out.trans (hb3.mono HB2.out.size))
  have s3 : w.heap.size + 1 + 1 ≤ w3.heap.size := by have := hb3.size; omega
  have c0 : w3.cell? ⟨w.heap.size, 0, none⟩ = some (.int .i64 k) := q3.cell 0
  have c1 : w3.cell? ⟨w.heap.size, 1, none⟩ = some (.int .i64 a) := q3.cell 1
  have c2 : w3.cell? ⟨w.heap.size, 2, none⟩ = some (.int .u8 (x.toNat : Int)) := q3.cell 2
  have c3 : w3.cell? ⟨w.heap.size, 3, none⟩ = some (.slice A n c) := q3.cell 3
  have Q4 := Lib.hid q4
  clear HW HKD R3 R4 hb3 q3 q4 HB2
  go_wp2_with (first
    | (with_reducible refine wpList_build_to (o := ⟨some 40, _, _, _, _, _⟩) (by rfl) 39 _ rfl (bv nought).toArray HBZ.out ?_))
  refine (HC.out _ HB3.out).mono ?_
  rintro e w4 ⟨rfl, hG⟩
  have ho4 := HS.out.off _ _ hG
  have q4 : Row w4 (w.heap.size + 1) 39 (bv nought) := (ho4.block _ (by omega) (fun hf => by have := HS.out.low _ hf; omega)).trans Q4.out
  have Q5 := Lib.hid q4
  have HG4 := Lib.hid hG
  have HLEN : Hid ((nought).length = 64) := (show _ = _ from rfl)
  have HSZ : Hid ((Try.prog.info? 39).map (·.size) = some (nought).length) := (show _ = _ by rw [HLEN.out]; exact size39)
  have HSB : Hid ((Try.prog.info? 39).map (·.size) = some (bv (nought)).length) := (show _ = _ by rw [bv_length]; exact HSZ.out)
  have HFT : Hid (0 + (bv (nought)).length ≤ (bv nought).length) := (show _ ≤ _ from Nat.le_of_eq ((Nat.zero_add _).trans ((bv_length _).trans (HLEN.out.trans rfl))))
  clear ho4 q4 hG Q4
  go_wp2_with (first
    | (with_reducible refine wpList_store_in (op := ⟨none, _, _, _, _, _⟩) ?_ 39 (.tmp 4) (.tmp 40) ?_ (w.heap.size + 1) 0 (bv (nought)) ?_ ?_ 39 (bv nought) Q5.out HFT.out bv_one HSB.out ?_))
  all_goals try rfl
  intro w5 hr5 hg5
  rw [splice_all (bv nought) (bv (nought)) (Eq.symm ((bv_length (nought)).trans (HLEN.out.trans rfl)))] at hr5
  have HRES := Lib.hid (run_load_blk (P := Try.prog) w5 (w.heap.size + 1) 0 39 (nought) _ (Row.range hr5 fun j v hj => by simpa using hj) Try.underlying39 rfl HSZ.out)
  have HGE := Lib.hid (HS.out.keep w3 w4 w5 (w.heap.size + 1) HB3.out HG4.out (by omega) (by omega) hg5)
  clear hr5 hg5 HG4 Q5
  go_wp2
  exact bodyPost_ret (v := .tuple #[blk (nought), .int .i64 err]) (results_cell_tmp (p := 4) (q := 5) (ty := 39) rfl _ _ ⟨w.heap.size + 1, 0, none⟩ _ _ rfl HRES.out rfl) rfl ⟨rfl, HGE.out⟩
end Go.Proofs.Ytbfpadilcfelbaa.Dsk
