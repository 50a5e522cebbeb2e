/-
  Part 11 of the contracts that the law rests on.
-/
import Derived.Deep.Cut
import Derived.Deep.CutRange
import Derived.Deep.LoopGhost
import Derived.Deep.RegionHeld
import Derived.LoopTactic
import Derived.Sort.CutIn
import Derived.Test.YteemdjamgbbjhaaWf6
import Derived.Test.YteemdjamgbbjhaaWf7
import Derived.Test.YteemdjamgbbjhaaWf8
import Derived.Test.YteemdjamgbbjhaaWf10
/-
  What a log tells is what the law's own has.
-/
namespace Go.Proofs.Yteemdjamgbbjhaa.Wr
set_option maxRecDepth 100000
open Go.RowKit Go.Shelf Go.Lib Go.Proofs.Yteemdjamgbbjhaa.Wd Go.Proofs.Yteemdjamgbbjhaa.Dsk Go.Proofs.Yteemdjamgbbjhaa.Oct Go.Proofs.Yteemdjamgbbjhaa.Sum Go.Proofs.Yteemdjamgbbjhaa.Beq Go.Proofs.Yteemdjamgbbjhaa.Wl

attribute [local go_sem] Oper.semAt_some

theorem own_first {w : World} {A : Option Addr} {n c : Nat} {xs : List Value} {v : Value} (h : w.ownsRow 0 37 1 (.slice A (n + 1) c) (n + 1) xs) (hx : xs[0]? = some v) : ∃ g, A = some ⟨g, 0, none⟩ ∧ g < w.heap.size ∧ w.cell? ⟨g, 0, none⟩ = some v := by
  obtain ⟨g, c', e, -, hlt, hc⟩ := vs_row h (by omega)
  injection e with e1 e2 e3
  exact ⟨g, e1, hlt, hc 0 v hx⟩
theorem by_bs {w : World} {A : Option Addr} {n c : Nat} {l : List UInt8} (h : By w A n c l) : l.length = n ∧ Bs w w.heap.size A l := by
  obtain ⟨A', c', e, h1, -, -, -, h2, -⟩ := own_bs h
  injection e with e1 e2 e3
  subst e1
  exact ⟨h1, h2⟩
/-- the same end, but that nothing panics -/
def NoPanic (Q : Exit → Act → World → Prop) : Exit → Act → World → Prop
  | .panic _, _, _ => False
  | e, a, w => Q e a w
theorem wp_nopanic {P : Program} {c : Code} {Q : Exit → Act → World → Prop} {a : Act} {w : World} (h : c.wp P (NoPanic Q) a w) : c.wp P Q a w := wp_mono h fun e a' w' hq => by
  cases e
  case panic => exact hq.elim
  all_goals exact hq
/-- what the two rounds hold -/
structure AGL (w7 : World) (r B6 : Nat) (ds : List Nat) (W : World) : Prop where
  r6 : Row W B6 3 [.int .i64 (r : Int)]
  b6 : w7.heap.size ≤ B6
  hb : Below w7.heap.size w7 W
  mks : Mks w7.heap.size ds W
/-- what the rounds over the log's own hold -/
structure AGI (w7 : World) (r B6 B7 B : Nat) (ds : List Nat) (pre : List EA) (W : World) : Prop where
  r6 : Row W B6 3 [.int .i64 (r : Int)]
  r7 : Row W B7 3 [.int .i64 (pre.length : Int)]
  hb : Below w7.heap.size w7 W
  mks : Mks w7.heap.size ds W
  sz : B ≤ W.heap.size
theorem AGI.below {w7 W W' : World} {r B6 B7 B : Nat} {ds : List Nat} {pre : List EA} (h : AGI w7 r B6 B7 B ds pre W) (hb : Below W.heap.size W W') : AGI w7 r B6 B7 B ds pre W' :=
  ⟨h.r6.below hb h.r6.lt, h.r7.below hb h.r7.lt, h.hb.trans (hb.mono h.hb.size), h.mks.kept (fun k o hk _ _ => (hb.block k (Array.getElem?_eq_some_iff.1 hk).1).trans hk), Nat.le_trans h.sz hb.size⟩
theorem AGI.put {w7 W : World} {r B6 B7 B l : Nat} {ds : List Nat} {pre : List EA} {o o' : Obj} (h : AGI w7 r B6 B7 B ds pre W) (hl : B ≤ l) (ho : W.heap[l]? = some o) (hc : o.isCells = false) (hm : ∀ D ∈ ds, D < B) (hw : w7.heap.size ≤ B) : AGI w7 r B6 B7 B ds pre (W.putObj l o') :=
  ⟨row_putL h.r6 ho hc, row_putL h.r7 ho hc, h.hb.grown (grownBy_putObj' W l o') h.hb.size (fun q e => by have := Option.some.inj e; omega), ⟨h.mks.nodup, fun D hD => ⟨(h.mks.open_ D hD).1, (World.putObj_heap_other (by have := hm D hD; omega)).trans (h.mks.open_ D hD).2⟩⟩, Nat.le_trans h.sz (grownBy_putObj' W l o').size⟩
def AGX (n B : Nat) (f1 : List UInt8) (tm : Value → Value → Array Value) (pre : List EA) (x : EA) (a' : Act) (W : World) : Prop :=
  a' = { tmps := tm (.int .i64 (x.1 : Int)) (.slice x.2.1 x.2.2.1 x.2.2.2), defers := [] } ∧ x.1 = 1 ∧ pre.length = 0 ∧ By W x.2.1 x.2.2.1 x.2.2.2 f1 ∧ x.2.2.1 ≤ 40000 ∧ (∀ k, (Value.slice x.2.1 x.2.2.1 x.2.2.2).ownBlock = some k → B ≤ k) ∧ n = 1
/-- what the first test comes to -/
def AG1 (w : World) (t : Value) (W : World) : Prop := t = .bool false ∧ Below w.heap.size w W
set_option maxHeartbeats 16000000 in
theorem agree_any (g dg gm dgm area : Nat) (fs : List (List UInt8)) (br : Bool) (G Gm : Nat → Prop) (w : World) (hlog : Log w G g dg area 0 fs br) (hmd : Mdl w Gm gm dgm area fs br) (hG : ∀ k, G k → k < w.heap.size) (hGm : ∀ k, Gm k → k < w.heap.size)
    (hne : fs ≠ []) (hn : fs.length ≤ 2) (ha : area ≤ 1000) (hu : usedM fs ≤ area) :
    Calls Try.prog 19 #[.pointer (some ⟨g, 0, none⟩), .pointer (some ⟨gm, 0, none⟩)] w fun e w' => e = .returned (.bool true) ∧ Below w.heap.size w w' := by
  have mixed : Try.prog.follows .mixedOrders = true := by kernel_rfl
  obtain ⟨n, hfn⟩ : ∃ n, fs.length = n + 1 := ⟨fs.length - 1, by cases fs with | nil => exact absurd rfl hne | cons a l => simp⟩
  have hlog' := hlog
  have hmd' := hmd
  obtain ⟨A, c, xs, hrow, hown, hGg, hGA, hat⟩ := hlog'
  obtain ⟨Am, cm, xm, hrm, hom, hGmg, hGmA, hatm⟩ := hmd'
  obtain ⟨A0, m0, c0, hx0, hby0, hm0, hG0⟩ := hat 0 (by omega)
  obtain ⟨A1, m1, c1, hx1, hby1, hm1, hG1⟩ := hatm 0 (by omega)
  obtain ⟨en, hen⟩ : ∃ en, en = usedM fs := ⟨_, rfl⟩
  rw [hfn] at hrow hown hGA hrm hom hGmA hn
  rw [← hen] at hrow hrm hu
  obtain ⟨gl, rfl, hgl, hcl⟩ := own_first hom hx1
  obtain ⟨b0, hb0⟩ : ∃ b0, fs.getD 0 [] = b0 := ⟨_, rfl⟩
  rw [hb0] at hby0 hby1
  have HLOG := Lib.hid hlog
  have HMD := Lib.hid hmd
  have HFN := Lib.hid hfn
  have HEN := Lib.hid hen
  have HB0 := Lib.hid hb0
  have HAT := Lib.hid hat
  have HATM := Lib.hid hatm
  have HROW := Lib.hid hrow
  have HOWN := Lib.hid hown
  have HGA := Lib.hid hGA
  have HRM := Lib.hid hrm
  have HOM := Lib.hid hom
  have HG := Lib.hid hG
  have HGM := Lib.hid hGm
  have HX0 := Lib.hid hx0
  have HBY0 := Lib.hid hby0
  have HBY1 := Lib.hid hby1
  have HCL := Lib.hid hcl
  have HGL := Lib.hid hgl
  clear hlog hmd hfn hen hb0 hat hatm hrow hown hGA hrm hom hG hGm hx0 hby0 hby1 hcl hx1 hne hGg hGmg hGmA hG0 hG1 hgl
  refine (callsIn_wide (n := 9)).1 ?_
  refine callsIn_of_wp_marks Try.func19 rfl trivial ?_ rfl
  refine wpIn_wide.2 ?_
  simp only [Try.ntmps19, List.size_toArray, List.length_cons, List.length_nil, Nat.reduceAdd, Nat.reduceSub, Array.replicate_succ, Array.replicate_zero, List.push_toArray, List.append_toArray, List.nil_append, List.cons_append]
  refine wp_nopanic ?_
  go_wp2_with fail
  refine nw fun w2 hw2 => ?_
  have hb2 : Below w.heap.size w w2 := by
    rw [← hw2]
    exact ((Below.refl _ _).alloc (Nat.le_refl _) _).alloc (by simp) _
  have r3 : Row w2 w.heap.size 33 [.pointer (some ⟨gm, 0, none⟩)] := by rw [← hw2]; exact (Row.new w _ _).alloc _
  have r4 : Row w2 (w.heap.size + 1) 4 [.bool false] := by
    rw [← hw2]
    have := Row.new (w.alloc (.cells #[.pointer (some ⟨gm, 0, none⟩)] 33)) 4 [.bool false]
    rw [World.size_alloc] at this
    exact this
  clear hw2
  obtain ⟨B3, hB3⟩ : ∃ B3, B3 = w.heap.size := ⟨_, rfl⟩
  obtain ⟨B4, hB4⟩ : ∃ B4, B4 = B3 + 1 := ⟨_, rfl⟩
  rw [← hB3] at r3
  rw [← hB3, ← hB4] at r4
  rw [← hB3, ← hB4]
  have HB34 := Lib.hid (And.intro hB3 hB4)
  clear hB3 hB4
  have HB2 := Lib.hid hb2
  have R32 := Lib.hid r3
  have R42 := Lib.hid r4
  have HROW2 := Lib.hid (HROW.out.below hb2 HROW.out.lt)
  have HOWN2 := Lib.hid (own_below HOWN.out hb2)
  have HRM2 := Lib.hid (HRM.out.below hb2 HRM.out.lt)
  clear r3 r4 hb2
  go_upto_region 1 with fail
  go_cut [65] from 13 to 65 (fun t65 wx => AG1 w2 t65 wx)
  case first =>
    refine wp_region_held_drew (S := fun W => Below w2.drew.heap.size w2.drew W) (by kernel_rfl) (Below.refl _ _) (fun hHeld => ?_)
    have hbd : Below w.heap.size w w2.drew := HB2.out.drew
    have r3d : Row w2.drew B3 33 [.pointer (some ⟨gm, 0, none⟩)] := Row.drew R32.out
    have r4d : Row w2.drew B4 4 [.bool false] := Row.drew R42.out
    have hsz : w2.drew.heap.size = w2.heap.size := rfl
    clear hHeld
    have hS0 : Below w2.heap.size w2 w2.drew := (Below.refl _ _).drew
    generalize w2.drew = v0 at hbd r3d r4d hsz hS0 ⊢
    have R3 := Lib.hid r3d
    have R4 := Lib.hid r4d
    have HBD := Lib.hid hbd
    have S0 : Hid (Below v0.heap.size v0 v0) := Lib.hid (Below.refl _ _)
    have HSZ0 := Lib.hid (And.intro hsz hS0)
    have HROW0 := Lib.hid (HROW.out.below hbd HROW.out.lt)
    have HOWN0 := Lib.hid (own_below HOWN.out hbd)
    have HBY00 := Lib.hid (own_below HBY0.out hbd)
    have HBY10 := Lib.hid (own_below HBY1.out hbd)
    have HRM0 := Lib.hid (HRM.out.below hbd HRM.out.lt)
    have HCL0 : Hid (v0.cell? ⟨gl, 0, none⟩ = some (.slice A1 m1 c1)) := Lib.hid ((hbd.cell (p := ⟨gl, 0, none⟩) HGL.out).trans HCL.out)
    have HGL0 : Hid (gl < v0.heap.size) := Lib.hid (Nat.lt_of_lt_of_le HGL.out hbd.size)
    clear r3d r4d hbd hsz hS0
    have h0n : (0 : Int) < ((n + 1 : Nat) : Int) := by omega
    have hw1 : wrap64 (((n + 1 : Nat) : Int) - 1) = (n : Int) := by unfold wrap64; omega
    have hw1' : wrap64 ((n : Int) + 1 - 1) = (n : Int) := by unfold wrap64; omega
    have hw1'' : IntKind.i64.wrap ((n : Int) + 1 - 1) = (n : Int) := by rw [IntKind.wrap_i64]; omega
    have hw2'' : IntKind.i64.wrap ((area : Int) - (en : Int)) = ((area - en : Nat) : Int) := by rw [IntKind.wrap_i64]; omega
    have hwn : IntKind.i64.wrap (n : Int) = (n : Int) := by rw [IntKind.wrap_i64]; omega
    have hw2 : wrap64 ((area : Int) - (en : Int)) = ((area - en : Nat) : Int) := by unfold wrap64; omega
    refine wpAnyH_take (i := 0) (oi := ⟨some 13, _, _, _, _, _⟩) (v := ?va1_1) rfl (by kernel_rfl) (by kernel_rfl) (by kernel_rfl) (fun _ _ _ h => h) (Or.inl ⟨by rfl, ?ya1_1⟩) S0.out ?ra1_1
    case ya1_1 =>
      rintro w' hSw
      go_simp
      try with_reducible rfl
    try simp only [Act.put, List.setIfInBounds_toArray, List.set_cons_zero, List.set_cons_succ]
    refine wpAnyH_take (i := 2) (oi := ⟨some 15, _, _, _, _, _⟩) (v := ?va1_2) rfl (by kernel_rfl) (by kernel_rfl) (by kernel_rfl) (fun _ _ _ h => h) (Or.inl ⟨by rfl, ?ya1_2⟩) S0.out ?ra1_2
    case ya1_2 =>
      rintro w' hSw
      have hSv : Below v0.heap.size v0 w' := hSw
      have kz : w'.cell? ⟨B3, 0, none⟩ = some (.pointer (some ⟨gm, 0, none⟩)) := (R3.out.below hSv R3.out.lt).cell 0
      go_simp
      try with_reducible rfl
    try simp only [Act.put, List.setIfInBounds_toArray, List.set_cons_zero, List.set_cons_succ]
    refine wpAnyH_take (i := 3) (oi := ⟨some 16, _, _, _, _, _⟩) (v := ?va1_3) rfl (by kernel_rfl) (by kernel_rfl) (by kernel_rfl) (fun _ _ _ h => h) (Or.inl ⟨by rfl, ?ya1_3⟩) S0.out ?ra1_3
    case ya1_3 =>
      rintro w' hSw
      go_simp
      try with_reducible rfl
    try simp only [Act.put, List.setIfInBounds_toArray, List.set_cons_zero, List.set_cons_succ]
    refine wpAnyH_take (i := 4) (oi := ⟨some 17, _, _, _, _, _⟩) (v := ?va1_4) rfl (by kernel_rfl) (by kernel_rfl) (by kernel_rfl) (fun _ _ _ h => h) (Or.inl ⟨by rfl, ?ya1_4⟩) S0.out ?ra1_4
    case ya1_4 =>
      rintro w' hSw
      go_simp
      try with_reducible rfl
    try simp only [Act.put, List.setIfInBounds_toArray, List.set_cons_zero, List.set_cons_succ]
    refine wpAnyH_take (i := 5) (oi := ⟨some 18, _, _, _, _, _⟩) (v := ?va1_5) rfl (by kernel_rfl) (by kernel_rfl) (by kernel_rfl) (fun _ _ _ h => h) (Or.inl ⟨by rfl, ?ya1_5⟩) S0.out ?ra1_5
    case ya1_5 =>
      rintro w' hSw
      have hSv : Below v0.heap.size v0 w' := hSw
      have kz : w'.cell? ⟨gm, 3, none⟩ = some (.slice (some ⟨gl, 0, none⟩) (n + 1) cm) := (HRM0.out.below hSv HRM0.out.lt).cell 3
      go_simp
      try with_reducible rfl
    try simp only [Act.put, List.setIfInBounds_toArray, List.set_cons_zero, List.set_cons_succ]
    refine wpAnyH_take (i := 6) (oi := ⟨some 19, _, _, _, _, _⟩) (v := ?va1_6) rfl (by kernel_rfl) (by kernel_rfl) (by kernel_rfl) (fun _ _ _ h => h) (Or.inl ⟨by rfl, ?ya1_6⟩) S0.out ?ra1_6
    case ya1_6 =>
      rintro w' hSw
      go_simp
      try with_reducible rfl
    try simp only [Act.put, List.setIfInBounds_toArray, List.set_cons_zero, List.set_cons_succ]
    refine wpAnyH_take (i := 7) (oi := ⟨some 20, _, _, _, _, _⟩) (v := ?va1_7) rfl (by kernel_rfl) (by kernel_rfl) (by kernel_rfl) (fun _ _ _ h => h) (Or.inl ⟨by rfl, ?ya1_7⟩) S0.out ?ra1_7
    case ya1_7 =>
      rintro w' hSw
      have hSv : Below v0.heap.size v0 w' := hSw
      have kz : w'.cell? ⟨gl, 0, none⟩ = some (.slice A1 m1 c1) := (hSv.cell (p := ⟨gl, 0, none⟩) HGL0.out).trans HCL0.out
      go_simp
      try with_reducible rfl
    try simp only [Act.put, List.setIfInBounds_toArray, List.set_cons_zero, List.set_cons_succ]
    refine wpAnyH_ready (rs := [1]) (by kernel_rfl) (by simp) ?_
    refine (AllReadyH.cons rfl (fun K hK => ?_) AllReadyH.nil)
    go_simp
    refine (snapshot_own g dg area 0 n c en A br xs A0 m0 c0 b0 v0 HROW0.out HOWN0.out HX0.out HBY00.out hm0).mono ?_
    rintro e v1 ⟨As, cs, rfl, hby1, hnew1, hb1⟩
    have S1 := Lib.hid hb1
    have HBS1 := Lib.hid (by_bs hby1)
    have HBM1 := Lib.hid (by_bs (own_below HBY10.out hb1))
    have HROW1 := Lib.hid (HROW0.out.below hb1 HROW0.out.lt)
    clear hby1 hnew1 hb1
    refine hK _ _ S1.out (fun _ => ?_)
    clear hK K
    try simp only [Act.put, List.setIfInBounds_toArray, List.set_cons_zero, List.set_cons_succ]
    refine wpAnyH_ready (rs := [8]) (by kernel_rfl) (by simp) ?_
    refine (AllReadyH.cons rfl (fun K hK => ?_) AllReadyH.nil)
    go_simp
    refine (bytesEq_any As A1 m0 cs m1 c1 b0 b0 _ _ v1 HBS1.out.1 HBM1.out.1 HBS1.out.2 HBM1.out.2).mono ?_
    rintro e v2 ⟨he, rfl⟩
    rw [decide_eq_true rfl] at he
    subst he
    refine hK _ _ S1.out (fun _ => ?_)
    clear hK K
    try simp only [Act.put, List.setIfInBounds_toArray, List.set_cons_zero, List.set_cons_succ]
    refine wpAnyH_take (i := 9) (oi := ⟨some 22, _, _, _, _, _⟩) (v := ?va1_10) rfl (by kernel_rfl) (by kernel_rfl) (by kernel_rfl) (fun _ _ _ h => h) (Or.inl ⟨by rfl, ?ya1_10⟩) S1.out ?ra1_10
    case ya1_10 =>
      rintro w' hSw
      go_simp
      try with_reducible rfl
    try simp only [Act.put, List.setIfInBounds_toArray, List.set_cons_zero, List.set_cons_succ]
    refine wpAnyH_take (i := 10) (oi := ⟨some 23, _, _, _, _, _⟩) (v := ?va1_11) rfl (by kernel_rfl) (by kernel_rfl) (by kernel_rfl) (fun _ _ _ h => h) (Or.inl ⟨by rfl, ?ya1_11⟩) S1.out ?ra1_11
    case ya1_11 =>
      rintro w' hSw
      go_simp
      try with_reducible rfl
    try simp only [Act.put, List.setIfInBounds_toArray, List.set_cons_zero, List.set_cons_succ]
    refine wpAnyH_take (i := 11) (oi := ⟨some 24, _, _, _, _, _⟩) (v := ?va1_12) rfl (by kernel_rfl) (by kernel_rfl) (by kernel_rfl) (fun _ _ _ h => h) (Or.inl ⟨by rfl, ?ya1_12⟩) S1.out ?ra1_12
    case ya1_12 =>
      rintro w' hSw
      go_simp
      try with_reducible rfl
    try simp only [Act.put, List.setIfInBounds_toArray, List.set_cons_zero, List.set_cons_succ]
    refine wpAnyH_take (i := 13) (oi := ⟨some 26, _, _, _, _, _⟩) (v := ?va1_13) rfl (by kernel_rfl) (by kernel_rfl) (by kernel_rfl) (fun _ _ _ h => h) (Or.inl ⟨by rfl, ?ya1_13⟩) S1.out ?ra1_13
    case ya1_13 =>
      rintro w' hSw
      have hSv : Below v0.heap.size v0 w' := hSw
      have kz : w'.cell? ⟨B3, 0, none⟩ = some (.pointer (some ⟨gm, 0, none⟩)) := (R3.out.below hSv R3.out.lt).cell 0
      go_simp
      try with_reducible rfl
    try simp only [Act.put, List.setIfInBounds_toArray, List.set_cons_zero, List.set_cons_succ]
    refine wpAnyH_take (i := 14) (oi := ⟨some 27, _, _, _, _, _⟩) (v := ?va1_14) rfl (by kernel_rfl) (by kernel_rfl) (by kernel_rfl) (fun _ _ _ h => h) (Or.inl ⟨by rfl, ?ya1_14⟩) S1.out ?ra1_14
    case ya1_14 =>
      rintro w' hSw
      go_simp
      try with_reducible rfl
    try simp only [Act.put, List.setIfInBounds_toArray, List.set_cons_zero, List.set_cons_succ]
    refine wpAnyH_take (i := 15) (oi := ⟨some 28, _, _, _, _, _⟩) (v := ?va1_15) rfl (by kernel_rfl) (by kernel_rfl) (by kernel_rfl) (fun _ _ _ h => h) (Or.inl ⟨by rfl, ?ya1_15⟩) S1.out ?ra1_15
    case ya1_15 =>
      rintro w' hSw
      go_simp
      try with_reducible rfl
    try simp only [Act.put, List.setIfInBounds_toArray, List.set_cons_zero, List.set_cons_succ]
    refine wpAnyH_take (i := 16) (oi := ⟨some 29, _, _, _, _, _⟩) (v := ?va1_16) rfl (by kernel_rfl) (by kernel_rfl) (by kernel_rfl) (fun _ _ _ h => h) (Or.inl ⟨by rfl, ?ya1_16⟩) S1.out ?ra1_16
    case ya1_16 =>
      rintro w' hSw
      have hSv : Below v0.heap.size v0 w' := hSw
      have kz : w'.cell? ⟨gm, 3, none⟩ = some (.slice (some ⟨gl, 0, none⟩) (n + 1) cm) := (HRM0.out.below hSv HRM0.out.lt).cell 3
      go_simp
      try with_reducible rfl
    try simp only [Act.put, List.setIfInBounds_toArray, List.set_cons_zero, List.set_cons_succ]
    refine wpAnyH_take (i := 17) (oi := ⟨some 30, _, _, _, _, _⟩) (v := ?va1_17) rfl (by kernel_rfl) (by kernel_rfl) (by kernel_rfl) (fun _ _ _ h => h) (Or.inl ⟨by rfl, ?ya1_17⟩) S1.out ?ra1_17
    case ya1_17 =>
      rintro w' hSw
      go_simp
      try with_reducible rfl
    try simp only [Act.put, List.setIfInBounds_toArray, List.set_cons_zero, List.set_cons_succ]
    refine wpAnyH_take (i := 18) (oi := ⟨some 31, _, _, _, _, _⟩) (v := ?va1_18) rfl (by kernel_rfl) (by kernel_rfl) (by kernel_rfl) (fun _ _ _ h => h) (Or.inl ⟨by rfl, ?ya1_18⟩) S1.out ?ra1_18
    case ya1_18 =>
      rintro w' hSw
      go_simp
      try with_reducible rfl
    try simp only [Act.put, List.setIfInBounds_toArray, List.set_cons_zero, List.set_cons_succ]
    refine wpAnyH_ready (rs := [12]) (by kernel_rfl) (by simp) ?_
    refine (AllReadyH.cons rfl (fun K hK => ?_) AllReadyH.nil)
    go_simp
    refine (len_log g dg area 0 n c en A br v1 HROW1.out (by omega)).mono ?_
    rintro e v2 ⟨rfl, rfl⟩
    refine hK _ _ S1.out (fun _ => ?_)
    clear hK K
    try simp only [Act.put, List.setIfInBounds_toArray, List.set_cons_zero, List.set_cons_succ]
    refine wpAnyH_take (i := 19) (oi := ⟨some 32, _, _, _, _, _⟩) (v := ?va1_20) rfl (by kernel_rfl) (by kernel_rfl) (by kernel_rfl) (fun _ _ _ h => h) (Or.inl ⟨by rfl, ?ya1_20⟩) S1.out ?ra1_20
    case ya1_20 =>
      rintro w' hSw
      go_simp
      try with_reducible rfl
    try simp only [Act.put, List.setIfInBounds_toArray, List.set_cons_zero, List.set_cons_succ]
    refine wpAnyH_take (i := 20) (oi := ⟨some 33, _, _, _, _, _⟩) (v := ?va1_21) rfl (by kernel_rfl) (by kernel_rfl) (by kernel_rfl) (fun _ _ _ h => h) (Or.inl ⟨by rfl, ?ya1_21⟩) S1.out ?ra1_21
    case ya1_21 =>
      rintro w' hSw
      go_simp
      try with_reducible rfl
    try simp only [Act.put, List.setIfInBounds_toArray, List.set_cons_zero, List.set_cons_succ]
    refine wpAnyH_take (i := 21) (oi := ⟨some 34, _, _, _, _, _⟩) (v := ?va1_22) rfl (by kernel_rfl) (by kernel_rfl) (by kernel_rfl) (fun _ _ _ h => h) (Or.inl ⟨by rfl, ?ya1_22⟩) S1.out ?ra1_22
    case ya1_22 =>
      rintro w' hSw
      go_simp
      try with_reducible rfl
    try simp only [Act.put, List.setIfInBounds_toArray, List.set_cons_zero, List.set_cons_succ]
    refine wpAnyH_take (i := 22) (oi := ⟨some 35, _, _, _, _, _⟩) (v := ?va1_23) rfl (by kernel_rfl) (by kernel_rfl) (by kernel_rfl) (fun _ _ _ h => h) (Or.inl ⟨by rfl, ?ya1_23⟩) S1.out ?ra1_23
    case ya1_23 =>
      rintro w' hSw
      go_simp
      try with_reducible rfl
    try simp only [Act.put, List.setIfInBounds_toArray, List.set_cons_zero, List.set_cons_succ]
    refine wpAnyH_take (i := 24) (oi := ⟨some 37, _, _, _, _, _⟩) (v := ?va1_24) rfl (by kernel_rfl) (by kernel_rfl) (by kernel_rfl) (fun _ _ _ h => h) (Or.inl ⟨by rfl, ?ya1_24⟩) S1.out ?ra1_24
    case ya1_24 =>
      rintro w' hSw
      have hSv : Below v0.heap.size v0 w' := hSw
      have kz : w'.cell? ⟨B3, 0, none⟩ = some (.pointer (some ⟨gm, 0, none⟩)) := (R3.out.below hSv R3.out.lt).cell 0
      go_simp
      try with_reducible rfl
    try simp only [Act.put, List.setIfInBounds_toArray, List.set_cons_zero, List.set_cons_succ]
    refine wpAnyH_take (i := 25) (oi := ⟨some 38, _, _, _, _, _⟩) (v := ?va1_25) rfl (by kernel_rfl) (by kernel_rfl) (by kernel_rfl) (fun _ _ _ h => h) (Or.inl ⟨by rfl, ?ya1_25⟩) S1.out ?ra1_25
    case ya1_25 =>
      rintro w' hSw
      go_simp
      try with_reducible rfl
    try simp only [Act.put, List.setIfInBounds_toArray, List.set_cons_zero, List.set_cons_succ]
    refine wpAnyH_take (i := 26) (oi := ⟨some 39, _, _, _, _, _⟩) (v := ?va1_26) rfl (by kernel_rfl) (by kernel_rfl) (by kernel_rfl) (fun _ _ _ h => h) (Or.inl ⟨by rfl, ?ya1_26⟩) S1.out ?ra1_26
    case ya1_26 =>
      rintro w' hSw
      go_simp
      try with_reducible rfl
    try simp only [Act.put, List.setIfInBounds_toArray, List.set_cons_zero, List.set_cons_succ]
    refine wpAnyH_take (i := 27) (oi := ⟨some 40, _, _, _, _, _⟩) (v := ?va1_27) rfl (by kernel_rfl) (by kernel_rfl) (by kernel_rfl) (fun _ _ _ h => h) (Or.inl ⟨by rfl, ?ya1_27⟩) S1.out ?ra1_27
    case ya1_27 =>
      rintro w' hSw
      have hSv : Below v0.heap.size v0 w' := hSw
      have kz : w'.cell? ⟨gm, 1, none⟩ = some (.int .i64 (area : Int)) := (HRM0.out.below hSv HRM0.out.lt).cell 1
      go_simp
      try with_reducible rfl
    try simp only [Act.put, List.setIfInBounds_toArray, List.set_cons_zero, List.set_cons_succ]
    refine wpAnyH_take (i := 28) (oi := ⟨some 41, _, _, _, _, _⟩) (v := ?va1_28) rfl (by kernel_rfl) (by kernel_rfl) (by kernel_rfl) (fun _ _ _ h => h) (Or.inl ⟨by rfl, ?ya1_28⟩) S1.out ?ra1_28
    case ya1_28 =>
      rintro w' hSw
      have hSv : Below v0.heap.size v0 w' := hSw
      have kz : w'.cell? ⟨B3, 0, none⟩ = some (.pointer (some ⟨gm, 0, none⟩)) := (R3.out.below hSv R3.out.lt).cell 0
      go_simp
      try with_reducible rfl
    try simp only [Act.put, List.setIfInBounds_toArray, List.set_cons_zero, List.set_cons_succ]
    refine wpAnyH_take (i := 29) (oi := ⟨some 42, _, _, _, _, _⟩) (v := ?va1_29) rfl (by kernel_rfl) (by kernel_rfl) (by kernel_rfl) (fun _ _ _ h => h) (Or.inl ⟨by rfl, ?ya1_29⟩) S1.out ?ra1_29
    case ya1_29 =>
      rintro w' hSw
      go_simp
      try with_reducible rfl
    try simp only [Act.put, List.setIfInBounds_toArray, List.set_cons_zero, List.set_cons_succ]
    refine wpAnyH_take (i := 30) (oi := ⟨some 43, _, _, _, _, _⟩) (v := ?va1_30) rfl (by kernel_rfl) (by kernel_rfl) (by kernel_rfl) (fun _ _ _ h => h) (Or.inl ⟨by rfl, ?ya1_30⟩) S1.out ?ra1_30
    case ya1_30 =>
      rintro w' hSw
      go_simp
      try with_reducible rfl
    try simp only [Act.put, List.setIfInBounds_toArray, List.set_cons_zero, List.set_cons_succ]
    refine wpAnyH_take (i := 31) (oi := ⟨some 44, _, _, _, _, _⟩) (v := ?va1_31) rfl (by kernel_rfl) (by kernel_rfl) (by kernel_rfl) (fun _ _ _ h => h) (Or.inl ⟨by rfl, ?ya1_31⟩) S1.out ?ra1_31
    case ya1_31 =>
      rintro w' hSw
      have hSv : Below v0.heap.size v0 w' := hSw
      have kz : w'.cell? ⟨gm, 4, none⟩ = some (.int .i64 (en : Int)) := (HRM0.out.below hSv HRM0.out.lt).cell 4
      go_simp
      try with_reducible rfl
    try simp only [Act.put, List.setIfInBounds_toArray, List.set_cons_zero, List.set_cons_succ]
    refine wpAnyH_take (i := 32) (oi := ⟨some 45, _, _, _, _, _⟩) (v := ?va1_32) rfl (by kernel_rfl) (by kernel_rfl) (by kernel_rfl) (fun _ _ _ h => h) (Or.inl ⟨by rfl, ?ya1_32⟩) S1.out ?ra1_32
    case ya1_32 =>
      rintro w' hSw
      go_simp
      try with_reducible rfl
    try simp only [Act.put, List.setIfInBounds_toArray, List.set_cons_zero, List.set_cons_succ]
    refine wpAnyH_ready (rs := [23]) (by kernel_rfl) (by simp) ?_
    refine (AllReadyH.cons rfl (fun K hK => ?_) AllReadyH.nil)
    go_simp
    refine (left_any g dg area 0 (n + 1) c en A br v1 HROW1.out ha hu).mono ?_
    rintro e v2 ⟨rfl, rfl⟩
    have S2 : Hid (Below v0.heap.size v0 v1.drew) := Lib.hid (S1.out.drew)
    have HROW2 : Hid (Row v1.drew g 83 (wcs dg area 0 A (n + 1) c en br)) := Lib.hid (Row.drew HROW1.out)
    generalize v1.drew = v2 at S2 HROW2 ⊢
    refine hK _ _ S2.out (fun _ => ?_)
    clear hK K
    try simp only [Act.put, List.setIfInBounds_toArray, List.set_cons_zero, List.set_cons_succ]
    refine wpAnyH_take (i := 33) (oi := ⟨some 46, _, _, _, _, _⟩) (v := ?va1_34) rfl (by kernel_rfl) (by kernel_rfl) (by kernel_rfl) (fun _ _ _ h => h) (Or.inl ⟨by rfl, ?ya1_34⟩) S2.out ?ra1_34
    case ya1_34 =>
      rintro w' hSw
      go_simp
      try with_reducible rfl
    try simp only [Act.put, List.setIfInBounds_toArray, List.set_cons_zero, List.set_cons_succ]
    refine wpAnyH_take (i := 34) (oi := ⟨some 47, _, _, _, _, _⟩) (v := ?va1_35) rfl (by kernel_rfl) (by kernel_rfl) (by kernel_rfl) (fun _ _ _ h => h) (Or.inl ⟨by rfl, ?ya1_35⟩) S2.out ?ra1_35
    case ya1_35 =>
      rintro w' hSw
      go_simp
      try with_reducible rfl
    try simp only [Act.put, List.setIfInBounds_toArray, List.set_cons_zero, List.set_cons_succ]
    refine wpAnyH_take (i := 35) (oi := ⟨some 48, _, _, _, _, _⟩) (v := ?va1_36) rfl (by kernel_rfl) (by kernel_rfl) (by kernel_rfl) (fun _ _ _ h => h) (Or.inl ⟨by rfl, ?ya1_36⟩) S2.out ?ra1_36
    case ya1_36 =>
      rintro w' hSw
      go_simp
      try with_reducible rfl
    try simp only [Act.put, List.setIfInBounds_toArray, List.set_cons_zero, List.set_cons_succ]
    refine wpAnyH_take (i := 36) (oi := ⟨some 49, _, _, _, _, _⟩) (v := ?va1_37) rfl (by kernel_rfl) (by kernel_rfl) (by kernel_rfl) (fun _ _ _ h => h) (Or.inl ⟨by rfl, ?ya1_37⟩) S2.out ?ra1_37
    case ya1_37 =>
      rintro w' hSw
      go_simp
      try with_reducible rfl
    try simp only [Act.put, List.setIfInBounds_toArray, List.set_cons_zero, List.set_cons_succ]
    refine wpAnyH_take (i := 38) (oi := ⟨some 51, _, _, _, _, _⟩) (v := ?va1_38) rfl (by kernel_rfl) (by kernel_rfl) (by kernel_rfl) (fun _ _ _ h => h) (Or.inl ⟨by rfl, ?ya1_38⟩) S2.out ?ra1_38
    case ya1_38 =>
      rintro w' hSw
      have hSv : Below v0.heap.size v0 w' := hSw
      have kz : w'.cell? ⟨B3, 0, none⟩ = some (.pointer (some ⟨gm, 0, none⟩)) := (R3.out.below hSv R3.out.lt).cell 0
      go_simp
      try with_reducible rfl
    try simp only [Act.put, List.setIfInBounds_toArray, List.set_cons_zero, List.set_cons_succ]
    refine wpAnyH_take (i := 39) (oi := ⟨some 52, _, _, _, _, _⟩) (v := ?va1_39) rfl (by kernel_rfl) (by kernel_rfl) (by kernel_rfl) (fun _ _ _ h => h) (Or.inl ⟨by rfl, ?ya1_39⟩) S2.out ?ra1_39
    case ya1_39 =>
      rintro w' hSw
      go_simp
      try with_reducible rfl
    try simp only [Act.put, List.setIfInBounds_toArray, List.set_cons_zero, List.set_cons_succ]
    refine wpAnyH_take (i := 40) (oi := ⟨some 53, _, _, _, _, _⟩) (v := ?va1_40) rfl (by kernel_rfl) (by kernel_rfl) (by kernel_rfl) (fun _ _ _ h => h) (Or.inl ⟨by rfl, ?ya1_40⟩) S2.out ?ra1_40
    case ya1_40 =>
      rintro w' hSw
      go_simp
      try with_reducible rfl
    try simp only [Act.put, List.setIfInBounds_toArray, List.set_cons_zero, List.set_cons_succ]
    refine wpAnyH_take (i := 41) (oi := ⟨some 54, _, _, _, _, _⟩) (v := ?va1_41) rfl (by kernel_rfl) (by kernel_rfl) (by kernel_rfl) (fun _ _ _ h => h) (Or.inl ⟨by rfl, ?ya1_41⟩) S2.out ?ra1_41
    case ya1_41 =>
      rintro w' hSw
      have hSv : Below v0.heap.size v0 w' := hSw
      have kz : w'.cell? ⟨gm, 2, none⟩ = some (.int .u32 0) := (HRM0.out.below hSv HRM0.out.lt).cell 2
      go_simp
      try with_reducible rfl
    try simp only [Act.put, List.setIfInBounds_toArray, List.set_cons_zero, List.set_cons_succ]
    refine wpAnyH_ready (rs := [37]) (by kernel_rfl) (by simp) ?_
    refine (AllReadyH.cons rfl (fun K hK => ?_) AllReadyH.nil)
    go_simp
    refine (turn_log g dg area 0 (n + 1) c en A br v2 HROW2.out).mono ?_
    rintro e v3 ⟨rfl, rfl⟩
    refine hK _ _ S2.out (fun _ => ?_)
    clear hK K
    try simp only [Act.put, List.setIfInBounds_toArray, List.set_cons_zero, List.set_cons_succ]
    refine wpAnyH_take (i := 42) (oi := ⟨some 55, _, _, _, _, _⟩) (v := ?va1_43) rfl (by kernel_rfl) (by kernel_rfl) (by kernel_rfl) (fun _ _ _ h => h) (Or.inl ⟨by rfl, ?ya1_43⟩) S2.out ?ra1_43
    case ya1_43 =>
      rintro w' hSw
      go_simp
      try with_reducible rfl
    try simp only [Act.put, List.setIfInBounds_toArray, List.set_cons_zero, List.set_cons_succ]
    refine wpAnyH_take (i := 43) (oi := ⟨some 56, _, _, _, _, _⟩) (v := ?va1_44) rfl (by kernel_rfl) (by kernel_rfl) (by kernel_rfl) (fun _ _ _ h => h) (Or.inl ⟨by rfl, ?ya1_44⟩) S2.out ?ra1_44
    case ya1_44 =>
      rintro w' hSw
      go_simp
      try with_reducible rfl
    try simp only [Act.put, List.setIfInBounds_toArray, List.set_cons_zero, List.set_cons_succ]
    refine wpAnyH_take (i := 44) (oi := ⟨some 57, _, _, _, _, _⟩) (v := ?va1_45) rfl (by kernel_rfl) (by kernel_rfl) (by kernel_rfl) (fun _ _ _ h => h) (Or.inl ⟨by rfl, ?ya1_45⟩) S2.out ?ra1_45
    case ya1_45 =>
      rintro w' hSw
      go_simp
      try with_reducible rfl
    try simp only [Act.put, List.setIfInBounds_toArray, List.set_cons_zero, List.set_cons_succ]
    refine wpAnyH_take (i := 45) (oi := ⟨some 58, _, _, _, _, _⟩) (v := ?va1_46) rfl (by kernel_rfl) (by kernel_rfl) (by kernel_rfl) (fun _ _ _ h => h) (Or.inl ⟨by rfl, ?ya1_46⟩) S2.out ?ra1_46
    case ya1_46 =>
      rintro w' hSw
      go_simp
      try with_reducible rfl
    try simp only [Act.put, List.setIfInBounds_toArray, List.set_cons_zero, List.set_cons_succ]
    refine wpAnyH_take (i := 47) (oi := ⟨some 60, _, _, _, _, _⟩) (v := ?va1_47) rfl (by kernel_rfl) (by kernel_rfl) (by kernel_rfl) (fun _ _ _ h => h) (Or.inl ⟨by rfl, ?ya1_47⟩) S2.out ?ra1_47
    case ya1_47 =>
      rintro w' hSw
      have hSv : Below v0.heap.size v0 w' := hSw
      have kz : w'.cell? ⟨B3, 0, none⟩ = some (.pointer (some ⟨gm, 0, none⟩)) := (R3.out.below hSv R3.out.lt).cell 0
      go_simp
      try with_reducible rfl
    try simp only [Act.put, List.setIfInBounds_toArray, List.set_cons_zero, List.set_cons_succ]
    refine wpAnyH_take (i := 48) (oi := ⟨some 61, _, _, _, _, _⟩) (v := ?va1_48) rfl (by kernel_rfl) (by kernel_rfl) (by kernel_rfl) (fun _ _ _ h => h) (Or.inl ⟨by rfl, ?ya1_48⟩) S2.out ?ra1_48
    case ya1_48 =>
      rintro w' hSw
      go_simp
      try with_reducible rfl
    try simp only [Act.put, List.setIfInBounds_toArray, List.set_cons_zero, List.set_cons_succ]
    refine wpAnyH_take (i := 49) (oi := ⟨some 62, _, _, _, _, _⟩) (v := ?va1_49) rfl (by kernel_rfl) (by kernel_rfl) (by kernel_rfl) (fun _ _ _ h => h) (Or.inl ⟨by rfl, ?ya1_49⟩) S2.out ?ra1_49
    case ya1_49 =>
      rintro w' hSw
      go_simp
      try with_reducible rfl
    try simp only [Act.put, List.setIfInBounds_toArray, List.set_cons_zero, List.set_cons_succ]
    refine wpAnyH_take (i := 50) (oi := ⟨some 63, _, _, _, _, _⟩) (v := ?va1_50) rfl (by kernel_rfl) (by kernel_rfl) (by kernel_rfl) (fun _ _ _ h => h) (Or.inl ⟨by rfl, ?ya1_50⟩) S2.out ?ra1_50
    case ya1_50 =>
      rintro w' hSw
      have hSv : Below v0.heap.size v0 w' := hSw
      have kz : w'.cell? ⟨gm, 5, none⟩ = some (.bool br) := (HRM0.out.below hSv HRM0.out.lt).cell 5
      go_simp
      try with_reducible rfl
    try simp only [Act.put, List.setIfInBounds_toArray, List.set_cons_zero, List.set_cons_succ]
    refine wpAnyH_ready (rs := [46]) (by kernel_rfl) (by simp) ?_
    refine (AllReadyH.cons rfl (fun K hK => ?_) AllReadyH.nil)
    go_simp
    refine (broken_log g dg area 0 (n + 1) c en A br v2 HROW2.out).mono ?_
    rintro e v3 ⟨rfl, rfl⟩
    refine hK _ _ S2.out (fun _ => ?_)
    clear hK K
    try simp only [Act.put, List.setIfInBounds_toArray, List.set_cons_zero, List.set_cons_succ]
    refine wpAnyH_take (i := 51) (oi := ⟨some 64, _, _, _, _, _⟩) (v := ?va1_52) rfl (by kernel_rfl) (by kernel_rfl) (by kernel_rfl) (fun _ _ _ h => h) (Or.inl ⟨by rfl, ?ya1_52⟩) S2.out ?ra1_52
    case ya1_52 =>
      rintro w' hSw
      go_simp
      try with_reducible rfl
    try simp only [Act.put, List.setIfInBounds_toArray, List.set_cons_zero, List.set_cons_succ]
    refine wpAnyH_take (i := 52) (oi := ⟨some 65, _, _, _, _, _⟩) (v := ?va1_53) rfl (by kernel_rfl) (by kernel_rfl) (by kernel_rfl) (fun _ _ _ h => h) (Or.inl ⟨by rfl, ?ya1_53⟩) S2.out ?ra1_53
    case ya1_53 =>
      rintro w' hSw
      go_simp
      try with_reducible rfl
    try simp only [Act.put, List.setIfInBounds_toArray, List.set_cons_zero, List.set_cons_succ]
    refine wpAnyH_done (by kernel_rfl) ?_ _
    go_wp2_with fail
    go_meet
    exact ⟨rfl, (HSZ0.out.2.trans (S2.out.mono (Nat.le_of_eq HSZ0.out.1.symm)))⟩
  case rest =>
    obtain ⟨rfl, hb⟩ := hcut
    have hbw := HB2.out.trans (hb.mono HB2.out.size)
    have R3C := Lib.hid (R32.out.below hb R32.out.lt)
    have R4C := Lib.hid (R42.out.below hb R42.out.lt)
    have HROWC := Lib.hid (HROW2.out.below hb HROW2.out.lt)
    have HBC := Lib.hid hbw
    clear hb hbw R32 R42 HROW2 HB2 HOWN2 HRM2
    go_wp2_with fail
    refine (all_log g dg area 0 (n + 1) c en A br wc HROWC.out).mono ?_
    rintro e w7 ⟨rfl, hb7, hr7⟩
    obtain ⟨Bf, hBf⟩ : ∃ Bf, wc.heap.size = Bf := ⟨_, rfl⟩
    rw [hBf] at hr7
    rw [hBf]
    have HFA : Hid (FA w7 (fun k => G k ∨ k = Bf) Bf A c fs) := Lib.hid (by
      have hb07 := HBC.out.trans (hb7.mono HBC.out.size)
      refine ⟨by rw [HFN.out]; exact hr7.cell 0, .inr rfl, fun k hk => ?_, fun i hi => ?_⟩
      · rcases hk with hk | hk
        · exact Nat.lt_of_lt_of_le (HG.out k hk) hb07.size
        · rw [hk]; exact hr7.lt
      · have hrow5 := HOWN.out
        rcases hrow5 with ⟨hxl, hv | ⟨gx, cap, cur, hv, _, hg, q1, q2, q3, q4⟩⟩
        · exact absurd hv.2 (by omega)
        · cases hv
          have hgx := HGA.out gx rfl
          obtain ⟨Ai, ni, ci, s1, s2, s3, s4⟩ := HAT.out i hi
          refine ⟨gx, rfl, .inl hgx, Ai, ni, ci, ?_, own_below s2 hb07, s3, fun k hk => .inl (s4 k hk)⟩
          rw [World.cell?_of_block (a := ⟨gx, i, none⟩) (hb07.block gx (HG.out _ hgx)), cell_of_row w gx i cur _ (0, 0) hg]
          rw [← q4, List.getElem?_take_of_lt (by rw [HFN.out] at hi; omega)] at s1
          simpa using s1)
    have HB7 := Lib.hid (HBC.out.trans (hb7.mono HBC.out.size))
    have R37 := Lib.hid (R3C.out.below hb7 R3C.out.lt)
    have R47 := Lib.hid (R4C.out.below hb7 R4C.out.lt)
    have HROW7 := Lib.hid (HROWC.out.below hb7 HROWC.out.lt)
    have HSB : Hid (w.heap.size ≤ wc.heap.size ∧ wc.heap.size = Bf ∧ Bf < w7.heap.size) := Lib.hid ⟨HBC.out.size, hBf, hr7.lt⟩
    have HB4W : Hid (w.heap.size ≤ B4) := Lib.hid (by have := HB34.out; omega)
    clear hb7 hr7 hBf R3C R4C HROWC HBC
    have hqf : ∀ W, (binOp BinOp.eql 43 (.func (.func 65) #[] #[.pointer (some ⟨Bf, 0, none⟩)]) .nilFunc).run Try.prog W = .ok (.bool false) W := fun _ => by kernel_rfl
    go_wp2_with fail
    refine nw fun w8 hw8 => ?_
    have HL0 : Hid (AGL w7 0 w7.heap.size [] w8) := Lib.hid (by
      rw [← hw8]
      exact ⟨Row.new w7 _ _, Nat.le_refl _, (Below.refl _ _).alloc (Nat.le_refl _) _, Mks.nil _ _⟩)
    clear hw8
    refine wp_loop_ghost (fun m a W => ∃ (u7 u70 u71 u72 u73 u74 u121 u122 u123 u124 u125 u126 u127 u128 u129 u130 u131 u132 u133 : Value) (ds : List Nat) (r B6 : Nat), a = { tmps := #[.pointer (some ⟨g, 0, none⟩), .pointer (some ⟨gm, 0, none⟩), undef, .pointer (some ⟨B3, 0, none⟩), .pointer (some ⟨B4, 0, none⟩), .func (.func 65) #[] #[.pointer (some ⟨Bf, 0, none⟩)], .pointer (some ⟨B6, 0, none⟩), u7, undef, undef, undef, undef, undef, u13, u14, u15, u16, u17, u18, u19, u20, u21, u22, u23, u24, u25, u26, u27, u28, u29, u30, u31, u32, u33, u34, u35, u36, u37, u38, u39, u40, u41, u42, u43, u44, u45, u46, u47, u48, u49, u50, u51, u52, u53, u54, u55, u56, u57, u58, u59, u60, u61, u62, u63, u64, .bool false, .pointer (some ⟨g, 0, none⟩), .func (.func 65) #[] #[.pointer (some ⟨Bf, 0, none⟩)], .func (.func 65) #[] #[.pointer (some ⟨Bf, 0, none⟩)], .bool false, u70, u71, u72, u73, u74, undef, undef, undef, undef, undef, undef, undef, undef, undef, undef, undef, undef, undef, undef, undef, undef, undef, undef, undef, undef, undef, undef, undef, undef, undef, undef, undef, undef, undef, undef, undef, undef, undef, undef, undef, undef, undef, undef, undef, undef, undef, undef, undef, undef, undef, undef, u121, u122, u123, u124, u125, u126, u127, u128, u129, u130, u131, u132, u133, undef, undef, undef, undef, undef, undef, undef, undef, undef, undef, undef, undef, undef, undef, undef, undef, undef, undef, undef, undef, undef, undef, undef], defers := marksOf ds } ∧ AGL w7 r B6 ds W ∧ m = 2 - r ∧ r ≤ 2) 2 ?_ ?_
    · exact ⟨_, _, _, _, _, _, _, _, _, _, _, _, _, _, _, _, _, _, _, [], 0, w7.heap.size, rfl, HL0.out, rfl, by omega⟩
    rintro m a W ⟨u7, u70, u71, u72, u73, u74, u121, u122, u123, u124, u125, u126, u127, u128, u129, u130, u131, u132, u133, ds, r, B6, rfl, hL, rfl, hr2⟩
    by_cases hlt : r < 2
    case neg =>
      have h1 : ¬ (r : Int) < 2 := by omega
      have c6 : W.cell? ⟨B6, 0, none⟩ = some (.int .i64 (r : Int)) := hL.r6.cell 0
      have hb0 := hL.hb
      have HLW := Lib.hid hL
      have HRW := Lib.hid (HROW7.out.below hb0 HROW7.out.lt)
      have HS := Lib.hid (snapshot_own g dg area 0 n c en A br xs A0 m0 c0 b0 W HRW.out (own_below HOWN.out (HB7.out.trans (hb0.mono HB7.out.size))) HX0.out (own_below HBY0.out (HB7.out.trans (hb0.mono HB7.out.size))) hm0)
      clear hL hb0 HL0
      go_wp2_with fail
      refine HS.out.mono ?_
      rintro e wS ⟨As, cs, rfl, hby, hnew, hbS⟩
      have HBI0 := Lib.hid (BI.of hby hnew)
      have HBS := Lib.hid hbS
      clear hby hnew hbS HS c6
      go_wp2_with fail
      go_loopw [138] (fun t138 wr => ∃ j : Nat, j ≤ m0 ∧ t138 = .int .i64 (j : Int) ∧ Hid (BI wS W.heap.size (.slice As m0 cs) m0 wr)) (fun t138 _ => m0 - (intOf t138).toNat)
      case atStart => exact ⟨0, by omega, rfl, HBI0⟩
      case round =>
        obtain ⟨j, hj, rfl, HJ⟩ := hrel
        clear HBI0
        by_cases hjl : j < m0
        · have hj1 : (j : Int) < (m0 : Int) := by omega
          have hj0 : 0 ≤ (j : Int) := by omega
          obtain ⟨l', hl', ho'⟩ := HJ.out.own
          obtain ⟨Gb, u, hA, hGb, hcl, hfr, hrw⟩ := own_cell ho' j hjl
          obtain ⟨y, hy, hxy⟩ := xor_nat u
          have HN : Hid (BI wS W.heap.size (.slice As m0 cs) m0 (wr.setCell ⟨Gb, j, none⟩ (.int .u8 (y : Int)))) := Lib.hid (HJ.out.set hA hGb hrw hy)
          have hwj : wrap64 ((j : Int) + 1) = ((j + 1 : Nat) : Int) := by unfold wrap64; omega
          clear hl' ho' hGb hrw hy
          subst hA
          go_upto_region 31 with fail
          generalize wr.setCell ⟨Gb, j, none⟩ (.int .u8 (y : Int)) = w3 at HN ⊢
          clear hcl hfr hxy
          go_wp2_with fail
          go_roundw
          case rel => exact ⟨j + 1, by omega, by first | rfl | go_num, HN⟩
          case measure => simp [intOf]; omega
        have hj1 : ¬ (j : Int) < (m0 : Int) := by omega
        have hbr := HJ.out.hb
        have HJX := Lib.hid HJ.out.nc
        have hbW : Below W.heap.size W wr := HBS.out.trans hbr
        have hb7r : Below w7.heap.size w7 wr := HLW.out.hb.trans (hbW.mono HLW.out.hb.size)
        have hmk : Mks w7.heap.size ds wr := HLW.out.mks.kept (fun k o hk ho _ => HJX.out k o ((HBS.out.block k (Array.getElem?_eq_some_iff.1 hk).1).trans hk) ho)
        have HB7R := Lib.hid hb7r
        have HMKR := Lib.hid hmk
        clear hbr hbW hb7r hmk HJX HJ
        go_upto_region 32 with fail
        refine wp_region_held_drew (S := fun W => Row W B3 33 [.pointer (some ⟨gm, 0, none⟩)] ∧ Row W gm 97 (mc0 dgm area (some ⟨gl, 0, none⟩) (n + 1) cm en br) ∧ W.cell? ⟨gl, 0, none⟩ = some (.slice A1 m1 c1)) (by kernel_rfl) (by
          have hbd : Below w7.heap.size w7 wr.drew := HB7R.out.drew
          have hbe := HB7.out.trans (hbd.mono HB7.out.size)
          exact ⟨R37.out.below hbd R37.out.lt, HRM.out.below hbe HRM.out.lt, (hbe.cell (p := ⟨gl, 0, none⟩) HGL.out).trans HCL.out⟩) (fun hHeld => ?_)
        have hbd : Below w7.heap.size w7 wr.drew := HB7R.out.drew
        have hmd : Mks w7.heap.size ds wr.drew := ⟨HMKR.out.nodup, HMKR.out.open_⟩
        generalize wr.drew = vE at hbd hmd hHeld ⊢
        have S0 := Lib.hid hHeld
        have HMKvE := Lib.hid hmd
        have R4vE := Lib.hid (R47.out.below hbd R47.out.lt)
        have HROWvE := Lib.hid (HROW7.out.below hbd HROW7.out.lt)
        have hbe := HB7.out.trans (hbd.mono HB7.out.size)
        have HBvE := Lib.hid hbe
        have HOWNvE := Lib.hid (own_below HOWN.out hbe)
        have HBY0vE := Lib.hid (own_below HBY0.out hbe)
        have HBY1vE := Lib.hid (own_below HBY1.out hbe)
        have HGLvE : Hid (gl < vE.heap.size) := Lib.hid (Nat.lt_of_lt_of_le HGL.out hbe.size)
        have h0n : (0 : Int) < ((n + 1 : Nat) : Int) := by omega
        clear hbd hmd hbe HB7R HMKR hHeld
        refine wpAnyH_take (i := 0) (oi := ⟨some 148, _, _, _, _, _⟩) (v := ?va32_1) rfl (by kernel_rfl) (by kernel_rfl) (by kernel_rfl) (fun _ _ _ h => h) (Or.inl ⟨by rfl, ?ya32_1⟩) S0.out ?ra32_1
        case ya32_1 =>
          rintro w' hSw
          go_simp
          try with_reducible rfl
        try simp only [Act.put, List.setIfInBounds_toArray, List.set_cons_zero, List.set_cons_succ]
        refine wpAnyH_take (i := 2) (oi := ⟨some 150, _, _, _, _, _⟩) (v := ?va32_2) rfl (by kernel_rfl) (by kernel_rfl) (by kernel_rfl) (fun _ _ _ h => h) (Or.inl ⟨by rfl, ?ya32_2⟩) S0.out ?ra32_2
        case ya32_2 =>
          rintro w' hSw
          have kz : w'.cell? ⟨B3, 0, none⟩ = some (.pointer (some ⟨gm, 0, none⟩)) := hSw.1.cell 0
          go_simp
          try with_reducible rfl
        try simp only [Act.put, List.setIfInBounds_toArray, List.set_cons_zero, List.set_cons_succ]
        refine wpAnyH_take (i := 3) (oi := ⟨some 151, _, _, _, _, _⟩) (v := ?va32_3) rfl (by kernel_rfl) (by kernel_rfl) (by kernel_rfl) (fun _ _ _ h => h) (Or.inl ⟨by rfl, ?ya32_3⟩) S0.out ?ra32_3
        case ya32_3 =>
          rintro w' hSw
          go_simp
          try with_reducible rfl
        try simp only [Act.put, List.setIfInBounds_toArray, List.set_cons_zero, List.set_cons_succ]
        refine wpAnyH_take (i := 4) (oi := ⟨some 152, _, _, _, _, _⟩) (v := ?va32_4) rfl (by kernel_rfl) (by kernel_rfl) (by kernel_rfl) (fun _ _ _ h => h) (Or.inl ⟨by rfl, ?ya32_4⟩) S0.out ?ra32_4
        case ya32_4 =>
          rintro w' hSw
          go_simp
          try with_reducible rfl
        try simp only [Act.put, List.setIfInBounds_toArray, List.set_cons_zero, List.set_cons_succ]
        refine wpAnyH_take (i := 5) (oi := ⟨some 153, _, _, _, _, _⟩) (v := ?va32_5) rfl (by kernel_rfl) (by kernel_rfl) (by kernel_rfl) (fun _ _ _ h => h) (Or.inl ⟨by rfl, ?ya32_5⟩) S0.out ?ra32_5
        case ya32_5 =>
          rintro w' hSw
          have kz : w'.cell? ⟨gm, 3, none⟩ = some (.slice (some ⟨gl, 0, none⟩) (n + 1) cm) := hSw.2.1.cell 3
          go_simp
          try with_reducible rfl
        try simp only [Act.put, List.setIfInBounds_toArray, List.set_cons_zero, List.set_cons_succ]
        refine wpAnyH_take (i := 6) (oi := ⟨some 154, _, _, _, _, _⟩) (v := ?va32_6) rfl (by kernel_rfl) (by kernel_rfl) (by kernel_rfl) (fun _ _ _ h => h) (Or.inl ⟨by rfl, ?ya32_6⟩) S0.out ?ra32_6
        case ya32_6 =>
          rintro w' hSw
          go_simp
          try with_reducible rfl
        try simp only [Act.put, List.setIfInBounds_toArray, List.set_cons_zero, List.set_cons_succ]
        refine wpAnyH_take (i := 7) (oi := ⟨some 155, _, _, _, _, _⟩) (v := ?va32_7) rfl (by kernel_rfl) (by kernel_rfl) (by kernel_rfl) (fun _ _ _ h => h) (Or.inl ⟨by rfl, ?ya32_7⟩) S0.out ?ra32_7
        case ya32_7 =>
          rintro w' hSw
          have kz : w'.cell? ⟨gl, 0, none⟩ = some (.slice A1 m1 c1) := hSw.2.2
          go_simp
          try with_reducible rfl
        try simp only [Act.put, List.setIfInBounds_toArray, List.set_cons_zero, List.set_cons_succ]
        refine wpAnyH_ready (rs := [1]) (by kernel_rfl) (by simp) ?_
        refine (AllReadyH.cons rfl (fun K hK => ?_) AllReadyH.nil)
        go_simp
        refine (snapshot_own g dg area 0 n c en A br xs A0 m0 c0 b0 vE HROWvE.out HOWNvE.out HX0.out HBY0vE.out hm0).mono ?_
        rintro e v1 ⟨As2, cs2, rfl, hby1, hnew1, hb1⟩
        have S1 := Lib.hid hb1
        have S1X : Hid (Row v1 B3 33 [.pointer (some ⟨gm, 0, none⟩)] ∧ Row v1 gm 97 (mc0 dgm area (some ⟨gl, 0, none⟩) (n + 1) cm en br) ∧ v1.cell? ⟨gl, 0, none⟩ = some (.slice A1 m1 c1)) := Lib.hid ⟨S0.out.1.below hb1 S0.out.1.lt, S0.out.2.1.below hb1 S0.out.2.1.lt, (hb1.cell (p := ⟨gl, 0, none⟩) HGLvE.out).trans S0.out.2.2⟩
        have HBS1 := Lib.hid (by_bs hby1)
        have HBM1 := Lib.hid (by_bs (own_below HBY1vE.out hb1))
        have R4S := Lib.hid (R4vE.out.below hb1 R4vE.out.lt)
        clear hby1 hnew1 hb1
        refine hK _ _ S1X.out (fun _ => ?_)
        clear hK K
        try simp only [Act.put, List.setIfInBounds_toArray, List.set_cons_zero, List.set_cons_succ]
        refine wpAnyH_ready (rs := [8]) (by kernel_rfl) (by simp) ?_
        refine (AllReadyH.cons rfl (fun K hK => ?_) AllReadyH.nil)
        go_simp
        refine (bytesEq_any As2 A1 m0 cs2 m1 c1 b0 b0 _ _ v1 HBS1.out.1 HBM1.out.1 HBS1.out.2 HBM1.out.2).mono ?_
        rintro e v2 ⟨he, rfl⟩
        rw [decide_eq_true rfl] at he
        subst he
        refine hK _ _ S1X.out (fun _ => ?_)
        clear hK K
        try simp only [Act.put, List.setIfInBounds_toArray, List.set_cons_zero, List.set_cons_succ]
        refine wpAnyH_ready (rs := [9]) (by kernel_rfl) (by simp) ?_
        refine (AllReadyH.cons rfl (fun K hK => ?_) AllReadyH.nil)
        have f0 := R4S.out.frozen 0
        have k0 : v1.cell? ⟨B4, 0, none⟩ = some (.bool false) := R4S.out.cell 0
        have R4T : Hid (Row (v1.setCell ⟨B4, 0, none⟩ (.bool true)) B4 4 [.bool true]) := Lib.hid (R4S.out.store 0 (.bool true))
        have BT : Hid (Below w.heap.size w (v1.setCell ⟨B4, 0, none⟩ (.bool true)) ∧ Mks w7.heap.size ds (v1.setCell ⟨B4, 0, none⟩ (.bool true))) := Lib.hid ⟨(HBvE.out.trans (S1.out.mono HBvE.out.size)).setCell HB4W.out _, HMKvE.out.kept (fun k o hk ho _ => by
          have h1 := (S1.out.block k (Array.getElem?_eq_some_iff.1 hk).1).trans hk
          refine (Below.heap_setCell v1 ⟨B4, 0, none⟩ (.bool true) k (fun e => ?_)).trans h1
          have e2 : k = B4 := e
          rw [e2, show v1.heap[B4]? = _ from R4S.out] at h1
          cases h1
          cases ho)⟩
        have S3 : Hid (Row (v1.setCell ⟨B4, 0, none⟩ (.bool true)) B3 33 [.pointer (some ⟨gm, 0, none⟩)] ∧ Row (v1.setCell ⟨B4, 0, none⟩ (.bool true)) gm 97 (mc0 dgm area (some ⟨gl, 0, none⟩) (n + 1) cm en br) ∧ (v1.setCell ⟨B4, 0, none⟩ (.bool true)).cell? ⟨gl, 0, none⟩ = some (.slice A1 m1 c1)) := Lib.hid (by
          have e3 : B3 ≠ B4 := by have := HB34.out; omega
          have em : gm ≠ B4 := by have := HB4W.out; have := HRM.out.lt; omega
          have el : gl ≠ B4 := by have := HB4W.out; have := HGL.out; omega
          exact ⟨S1X.out.1.far (p := ⟨B4, 0, none⟩) e3 _, S1X.out.2.1.far (p := ⟨B4, 0, none⟩) em _, (World.cell?_of_block (a := ⟨gl, 0, none⟩) (Below.heap_setCell v1 ⟨B4, 0, none⟩ _ gl el)).trans S1X.out.2.2⟩)
        try rw [if_pos (by rfl)]
        go_simp
        clear f0 k0
        generalize v1.setCell ⟨B4, 0, none⟩ (.bool true) = v3 at R4T BT S3 ⊢
        refine hK _ _ S3.out (fun _ => ?_)
        clear hK K
        try simp only [Act.put, List.setIfInBounds_toArray, List.set_cons_zero, List.set_cons_succ]
        refine wpAnyH_done (by kernel_rfl) ?_ _
        go_wp2_with fail
        exact leaves_marks (J := fun X => Row X B4 4 [.bool true] ∧ Below w.heap.size w X)
          (fun X Y row hX hg hr => ⟨hX.1.grown hg (fun e => by
            obtain ⟨_, o, h1, h2⟩ := hr _ e.symm
            rw [show X.heap[B4]? = _ from hX.1] at h1
            cases h1
            cases h2), hX.2.grown hg hX.2.size (fun j e => Nat.le_trans HB7.out.size (hr j e).1)⟩)
          (fun X hX => ⟨.bool true, results_cell (p := 4) (ty := 4) rfl _ _ ⟨B4, 0, none⟩ _ rfl (load_bool hX.1), rfl, hX.2⟩)
          ds v3 BT.out.2 ⟨R4T.out, BT.out.1⟩
    have h1 : (r : Int) < 2 := by omega
    have HW1R : Hid (wrap64 ((r : Int) + 1) = ((r + 1 : Nat) : Int)) := Lib.hid (by unfold wrap64; omega)
    have HLE : Hid (2 - (r + 1) < 2 - r ∧ r + 1 ≤ 2) := Lib.hid (by omega)
    have c6 : W.cell? ⟨B6, 0, none⟩ = some (.int .i64 (r : Int)) := hL.r6.cell 0
    have HLW := Lib.hid hL
    clear hL HL0
    go_wp2_with fail
    refine nw fun wk hwk => ?_
    have hbk : Below W.heap.size W wk := by rw [← hwk]; exact (Below.refl _ _).alloc (Nat.le_refl _) _
    have r7 : Row wk W.heap.size 3 [.int .i64 0] := by rw [← hwk]; exact Row.new W _ _
    obtain ⟨B7, hB7⟩ : ∃ B7, W.heap.size = B7 := ⟨_, rfl⟩
    have HB7L : Hid (w7.heap.size ≤ B7 ∧ B7 < wk.heap.size ∧ B6 < B7 ∧ w7.heap.size ≤ B6) := Lib.hid ⟨by rw [← hB7]; exact HLW.out.hb.size, by rw [← hB7]; exact r7.lt, by rw [← hB7]; exact HLW.out.r6.lt, HLW.out.b6⟩
    have hb7k : Below w7.heap.size w7 wk := HLW.out.hb.trans (hbk.mono HLW.out.hb.size)
    have HFK : Hid (FA wk (fun k => G k ∨ k = Bf) Bf A c fs) := Lib.hid (HFA.out.below hb7k)
    have hmk : Mks w7.heap.size ds wk := HLW.out.mks.kept (fun k o hk _ _ => (hbk.block k (Array.getElem?_eq_some_iff.1 hk).1).trans hk)
    have HML : Hid (∀ D ∈ ds, D < wk.heap.size) := Lib.hid fun D hD => (Array.getElem?_eq_some_iff.1 (hmk.open_ D hD).2).1
    rw [hB7] at r7 ⊢
    have HI0 : Hid (AGI w7 r B6 B7 wk.heap.size ds [] wk) := Lib.hid ⟨HLW.out.r6.below hbk HLW.out.r6.lt, r7, hb7k, hmk, Nat.le_refl _⟩
    have HB7K := Lib.hid hb7k
    clear hwk hbk r7 hB7 hb7k hmk HLW c6
    refine (wpIn_wide (n := 9)).1 ?_
    refine range_feeds (n := 9) (by omega) (gf := 65) (lb := #[.pointer (some ⟨Bf, 0, none⟩)]) rfl (enters_of Try.func65 (by kernel_rfl) rfl)
      (encs := encA) (G := GA) (T := TA fs wk.heap.size) (Ok := fun _ => True) (Kp := KpA (fun k => G k ∨ k = Bf)) (S := fun xs _ => xs.length = fs.length - 1) (Sp := fun _ _ => True) ?feeds (fun h k => h.trans k) ?hKb (fun _ => rfl)
      (AGI w7 r B6 B7 wk.heap.size ds) (fun _ _ => False) ?hG ?hIa ?hI ?hIx ?hIp ?hIxp ?h0 (AGX n wk.heap.size (fs.getD 1 []) (fun v75 v76 => #[.pointer (some ⟨g, 0, none⟩), .pointer (some ⟨gm, 0, none⟩), undef, .pointer (some ⟨B3, 0, none⟩), .pointer (some ⟨B4, 0, none⟩), .func (.func 65) #[] #[.pointer (some ⟨Bf, 0, none⟩)], .pointer (some ⟨B6, 0, none⟩), .pointer (some ⟨B7, 0, none⟩), v75, v76, undef, undef, undef, u13, u14, u15, u16, u17, u18, u19, u20, u21, u22, u23, u24, u25, u26, u27, u28, u29, u30, u31, u32, u33, u34, u35, u36, u37, u38, u39, u40, u41, u42, u43, u44, u45, u46, u47, u48, u49, u50, u51, u52, u53, u54, u55, u56, u57, u58, u59, u60, u61, u62, u63, u64, .bool false, .pointer (some ⟨g, 0, none⟩), .func (.func 65) #[] #[.pointer (some ⟨Bf, 0, none⟩)], .func (.func 65) #[] #[.pointer (some ⟨Bf, 0, none⟩)], .bool false, .int .i64 (r : Int), .bool true, u72, u73, .func (.func 65) #[] #[.pointer (some ⟨Bf, 0, none⟩)], v75, v76, undef, undef, undef, undef, undef, undef, undef, undef, undef, undef, undef, undef, undef, undef, undef, undef, undef, undef, undef, undef, undef, undef, undef, undef, undef, undef, undef, undef, undef, undef, undef, undef, undef, undef, undef, undef, undef, undef, undef, undef, undef, undef, undef, undef, u121, u122, u123, u124, u125, u126, u127, u128, u129, u130, u131, u132, u133, undef, undef, undef, undef, undef, undef, undef, undef, undef, undef, undef, undef, undef, undef, undef, undef, undef, undef, undef, undef, undef, undef, undef])) ?hAx ?assign ?body ?done ?stop
    case feeds => exact all_feeds Bf 8 c A fs (fun k => G k ∨ k = Bf) wk (by omega) (by have := HFN.out; omega) HFK.out
    case hKb =>
      intro W0 l o o' hl ho hc
      exact ⟨fun k hk => World.putObj_heap_other (by have := HFA.out.lt k hk; have := HB7L.out; omega), (grownBy_putObj' W0 l o').size⟩
    case hG =>
      intro X Y k o hg hk ho hc
      exact (hg.block k (Array.getElem?_eq_some_iff.1 ho).1).trans ho
    case hIa =>
      rintro s W0 o h
      exact h.below ((Below.refl _ _).alloc (Nat.le_refl _) _)
    case hI => exact fun s X Y h hb => h.below hb
    case hIx => exact fun _ _ _ h _ => h
    case hIp => exact fun s W0 l o o' hl ho hc h => h.put hl ho hc HML.out (by have := HB7L.out; omega)
    case hIxp => exact fun _ _ _ _ _ _ _ _ h => h
    case h0 => exact HI0.out
    case hAx =>
      rintro pre x a' _ W0 l o o' hl ho hc ⟨q1, q2, q3, q4, q5, q6, q7⟩
      exact ⟨q1, q2, q3, own_put q4 ho hc, q5, q6, q7⟩
    case assign =>
      intro yl pre x W0 K ht hI hK
      have HT := Lib.hid ht
      have HI := Lib.hid hI
      have HK := Lib.hid hK
      have hp0 : pre.length = 0 := by have := ht.num; have := ht.lt; have := HFN.out; omega
      have hx1 : x.1 = 1 := by rw [ht.num, hp0]
      have hn1 : n = 1 := by have := ht.lt; have := HFN.out; omega
      have HPX := Lib.hid (And.intro hp0 (And.intro hx1 hn1))
      clear ht hI hK hp0 hx1 hn1
      unfold encA
      gi_wp2
      refine HK.out _ W0 (KeepsFrom.refl _ _) (KpA.refl _ _) HI.out ⟨rfl, HPX.out.2.1, HPX.out.1, ?_, HT.out.most, HT.out.new, HPX.out.2.2⟩
      have h1 := HT.out.by_
      rw [HPX.out.2.1] at h1
      exact h1
    case stop => exact fun _ _ _ _ _ _ h => h.elim
    case body =>
      rintro yl pre ⟨i1, Ax, nx, cx⟩ a' W5 hyl ⟨rr, hrr⟩ ⟨q1, q2, q3, q4, q5⟩ ⟨rfl, hx1, hp0, hby, hmx, hnew, hn1⟩
      dsimp only at hx1 hby hmx hnew ⊢
      subst hx1
      rw [hp0] at q2
      have c7 : W5.cell? ⟨B7, 0, none⟩ = some (.int .i64 0) := q2.cell 0
      have f7 := q2.frozen 0
      have HP0 := Lib.hid hp0
      have R75 : Hid (Row (W5.setCell ⟨B7, 0, none⟩ (.int .i64 1)) B7 3 [.int .i64 1]) := Lib.hid (q2.store 0 (.int .i64 1))
      have R65 : Hid (Row (W5.setCell ⟨B7, 0, none⟩ (.int .i64 1)) B6 3 [.int .i64 (r : Int)]) := Lib.hid (q1.far (p := ⟨B7, 0, none⟩) (by have := HB7L.out; show B6 ≠ B7; omega) _)
      have HB5 : Hid (Below w7.heap.size w7 (W5.setCell ⟨B7, 0, none⟩ (.int .i64 1))) := Lib.hid (q3.setCell HB7L.out.1 _)
      have hoth : ∀ k, k ≠ B7 → (W5.setCell ⟨B7, 0, none⟩ (.int .i64 1)).heap[k]? = W5.heap[k]? := fun k hk => Below.heap_setCell W5 ⟨B7, 0, none⟩ (.int .i64 1) k hk
      have hnc : ∀ (k : Nat) (o : Obj), W5.heap[k]? = some o → o.isCells = false → (W5.setCell ⟨B7, 0, none⟩ (.int .i64 1)).heap[k]? = some o := fun k o hk ho => by
        refine (hoth k (fun e => ?_)).trans hk
        rw [e, show W5.heap[B7]? = _ from q2] at hk
        cases hk
        cases ho
      have hs5 : (W5.setCell ⟨B7, 0, none⟩ (.int .i64 1)).heap.size = W5.heap.size := by simp [World.setCell]
      have HBX5 : Hid (By (W5.setCell ⟨B7, 0, none⟩ (.int .i64 1)) Ax nx cx (fs.getD 1 [])) := Lib.hid (own_kept hby (fun k hk _ => hoth k (fun e => by have := hnew k hk; have := HB7L.out; omega)))
      have HOT := Lib.hid hoth
      have HNC := Lib.hid hnc
      have HS5 := Lib.hid (And.intro hs5 q5)
      have HM5 := Lib.hid q4
      have HNEW := Lib.hid hnew
      obtain ⟨A2, m2, c2, hx2, hby2, hm2, -⟩ := HATM.out 1 (by have := HFN.out; omega)
      obtain ⟨b1, hb1⟩ : ∃ b1, fs.getD 1 [] = b1 := ⟨_, rfl⟩
      rw [hb1] at HBX5 hby2
      have hbe5 : Below w.heap.size w (W5.setCell ⟨B7, 0, none⟩ (.int .i64 1)) := HB7.out.trans (HB5.out.mono HB7.out.size)
      have hcl2 : w.cell? ⟨gl, 1, none⟩ = some (.slice A2 m2 c2) := by
        obtain ⟨g', c', e, -, -, hc⟩ := vs_row HOM.out (by omega)
        injection e with e1 e2 e3
        injection e1 with e1
        injection e1 with e1
        rw [e1]
        exact hc 1 _ hx2
      have hrm2 : Row w gm 97 (mc0 dgm area (some ⟨gl, 0, none⟩) 2 cm en br) := by
        have := HRM.out
        rw [hn1] at this
        exact this
      have HBE5 := Lib.hid hbe5
      have HRM5 := Lib.hid (hrm2.below hbe5 hrm2.lt)
      have HR35 := Lib.hid (R37.out.below HB5.out R37.out.lt)
      have HCL5 : Hid ((W5.setCell ⟨B7, 0, none⟩ (.int .i64 1)).cell? ⟨gl, 1, none⟩ = some (.slice A2 m2 c2)) := Lib.hid ((hbe5.cell (p := ⟨gl, 1, none⟩) HGL.out).trans hcl2)
      have HB15 := Lib.hid (by_bs (own_below hby2 hbe5))
      clear hby2 hm2 hx2 hbe5 hcl2 hrm2 hb1 hn1
      clear q1 q2 q3 q4 q5 hp0 hby hnew hoth hnc hs5 hrr
      gi_upto_region 14 with fail
      clear c7 f7
      generalize W5.setCell ⟨B7, 0, none⟩ (.int .i64 1) = W6 at R75 R65 HB5 HBX5 HOT HNC HS5 HBE5 HRM5 HR35 HCL5 HB15 ⊢
      refine region_in2 (S := fun W => Row W B3 33 [.pointer (some ⟨gm, 0, none⟩)] ∧ Row W gm 97 (mc0 dgm area (some ⟨gl, 0, none⟩) 2 cm en br) ∧ W.cell? ⟨gl, 1, none⟩ = some (.slice A2 m2 c2) ∧ Row W B7 3 [.int .i64 1]) mixed (by rfl) (by rintro ⟨_, _, h⟩; exact h) ⟨Row.drew HR35.out, Row.drew HRM5.out, HCL5.out, Row.drew R75.out⟩ (fun hHeld => ?_)
      have S0 := Lib.hid hHeld
      clear hHeld
      have HBXR : Hid (By W6.drew Ax nx cx b1) := Lib.hid HBX5.out
      have HBXB := Lib.hid (by_bs HBXR.out)
      have HB1R : Hid (b1.length = m2 ∧ Bs W6.drew W6.drew.heap.size A2 b1) := Lib.hid HB15.out
      have R7R : Hid (Row W6.drew B7 3 [.int .i64 1]) := Lib.hid (Row.drew R75.out)
      have R6R : Hid (Row W6.drew B6 3 [.int .i64 (r : Int)]) := Lib.hid (Row.drew R65.out)
      have HBR : Hid (Below w7.heap.size w7 W6.drew) := Lib.hid HB5.out.drew
      have HOR : Hid (∀ k, k ≠ B7 → W6.drew.heap[k]? = W5.heap[k]?) := Lib.hid HOT.out
      have HNR : Hid (∀ (k : Nat) (o : Obj), W5.heap[k]? = some o → o.isCells = false → W6.drew.heap[k]? = some o) := Lib.hid HNC.out
      have HSR : Hid (W6.drew.heap.size = W5.heap.size ∧ wk.heap.size ≤ W5.heap.size) := Lib.hid HS5.out
      clear R75 R65 HB5 HBX5 HOT HNC HS5 HBE5 HRM5 HR35 HCL5 HB15
      generalize W6.drew = vR at S0 HBXR HBXB HB1R R7R R6R HBR HOR HNR HSR ⊢
      refine wpAnyH_take (i := 0) (oi := ⟨some 79, _, _, _, _, _⟩) (v := ?va14_1) rfl (by kernel_rfl) (by kernel_rfl) (by kernel_rfl) (fun _ _ _ h => h) (Or.inl ⟨by rfl, ?ya14_1⟩) S0.out ?ra14_1
      case ya14_1 =>
        rintro w' hSw
        go_simp
        try with_reducible rfl
      try simp only [Act.put, List.setIfInBounds_toArray, List.set_cons_zero, List.set_cons_succ]
      refine wpAnyH_take (i := 1) (oi := ⟨some 80, _, _, _, _, _⟩) (v := ?va14_2) rfl (by kernel_rfl) (by kernel_rfl) (by kernel_rfl) (fun _ _ _ h => h) (Or.inl ⟨by rfl, ?ya14_2⟩) S0.out ?ra14_2
      case ya14_2 =>
        rintro w' hSw
        have kz : w'.cell? ⟨B7, 0, none⟩ = some (.int .i64 1) := hSw.2.2.2.cell 0
        go_simp
        try with_reducible rfl
      try simp only [Act.put, List.setIfInBounds_toArray, List.set_cons_zero, List.set_cons_succ]
      refine wpAnyH_take (i := 2) (oi := ⟨some 81, _, _, _, _, _⟩) (v := ?va14_3) rfl (by kernel_rfl) (by kernel_rfl) (by kernel_rfl) (fun _ _ _ h => h) (Or.inl ⟨by rfl, ?ya14_3⟩) S0.out ?ra14_3
      case ya14_3 =>
        rintro w' hSw
        go_simp
        try with_reducible rfl
      try simp only [Act.put, List.setIfInBounds_toArray, List.set_cons_zero, List.set_cons_succ]
      refine wpAnyH_take (i := 3) (oi := ⟨some 82, _, _, _, _, _⟩) (v := ?va14_4) rfl (by kernel_rfl) (by kernel_rfl) (by kernel_rfl) (fun _ _ _ h => h) (Or.inl ⟨by rfl, ?ya14_4⟩) S0.out ?ra14_4
      case ya14_4 =>
        rintro w' hSw
        go_simp
        try with_reducible rfl
      try simp only [Act.put, List.setIfInBounds_toArray, List.set_cons_zero, List.set_cons_succ]
      refine wpAnyH_take (i := 4) (oi := ⟨some 83, _, _, _, _, _⟩) (v := ?va14_5) rfl (by kernel_rfl) (by kernel_rfl) (by kernel_rfl) (fun _ _ _ h => h) (Or.inl ⟨by rfl, ?ya14_5⟩) S0.out ?ra14_5
      case ya14_5 =>
        rintro w' hSw
        have kz : w'.cell? ⟨B7, 0, none⟩ = some (.int .i64 1) := hSw.2.2.2.cell 0
        go_simp
        try with_reducible rfl
      try simp only [Act.put, List.setIfInBounds_toArray, List.set_cons_zero, List.set_cons_succ]
      refine wpAnyH_take (i := 5) (oi := ⟨some 84, _, _, _, _, _⟩) (v := ?va14_6) rfl (by kernel_rfl) (by kernel_rfl) (by kernel_rfl) (fun _ _ _ h => h) (Or.inl ⟨by rfl, ?ya14_6⟩) S0.out ?ra14_6
      case ya14_6 =>
        rintro w' hSw
        have kz : w'.cell? ⟨B3, 0, none⟩ = some (.pointer (some ⟨gm, 0, none⟩)) := hSw.1.cell 0
        go_simp
        try with_reducible rfl
      try simp only [Act.put, List.setIfInBounds_toArray, List.set_cons_zero, List.set_cons_succ]
      refine wpAnyH_take (i := 6) (oi := ⟨some 85, _, _, _, _, _⟩) (v := ?va14_7) rfl (by kernel_rfl) (by kernel_rfl) (by kernel_rfl) (fun _ _ _ h => h) (Or.inl ⟨by rfl, ?ya14_7⟩) S0.out ?ra14_7
      case ya14_7 =>
        rintro w' hSw
        go_simp
        try with_reducible rfl
      try simp only [Act.put, List.setIfInBounds_toArray, List.set_cons_zero, List.set_cons_succ]
      refine wpAnyH_take (i := 7) (oi := ⟨some 86, _, _, _, _, _⟩) (v := ?va14_8) rfl (by kernel_rfl) (by kernel_rfl) (by kernel_rfl) (fun _ _ _ h => h) (Or.inl ⟨by rfl, ?ya14_8⟩) S0.out ?ra14_8
      case ya14_8 =>
        rintro w' hSw
        go_simp
        try with_reducible rfl
      try simp only [Act.put, List.setIfInBounds_toArray, List.set_cons_zero, List.set_cons_succ]
      refine wpAnyH_take (i := 8) (oi := ⟨some 87, _, _, _, _, _⟩) (v := ?va14_9) rfl (by kernel_rfl) (by kernel_rfl) (by kernel_rfl) (fun _ _ _ h => h) (Or.inl ⟨by rfl, ?ya14_9⟩) S0.out ?ra14_9
      case ya14_9 =>
        rintro w' hSw
        have kz : w'.cell? ⟨gm, 3, none⟩ = some (.slice (some ⟨gl, 0, none⟩) 2 cm) := hSw.2.1.cell 3
        go_simp
        try with_reducible rfl
      try simp only [Act.put, List.setIfInBounds_toArray, List.set_cons_zero, List.set_cons_succ]
      refine wpAnyH_take (i := 9) (oi := ⟨some 88, _, _, _, _, _⟩) (v := ?va14_10) rfl (by kernel_rfl) (by kernel_rfl) (by kernel_rfl) (fun _ _ _ h => h) (Or.inl ⟨by rfl, ?ya14_10⟩) S0.out ?ra14_10
      case ya14_10 =>
        rintro w' hSw
        go_simp
        try with_reducible rfl
      try simp only [Act.put, List.setIfInBounds_toArray, List.set_cons_zero, List.set_cons_succ]
      refine wpAnyH_take (i := 10) (oi := ⟨some 89, _, _, _, _, _⟩) (v := ?va14_11) rfl (by kernel_rfl) (by kernel_rfl) (by kernel_rfl) (fun _ _ _ h => h) (Or.inl ⟨by rfl, ?ya14_11⟩) S0.out ?ra14_11
      case ya14_11 =>
        rintro w' hSw
        go_simp
        try with_reducible rfl
      try simp only [Act.put, List.setIfInBounds_toArray, List.set_cons_zero, List.set_cons_succ]
      refine wpAnyH_take (i := 11) (oi := ⟨some 90, _, _, _, _, _⟩) (v := ?va14_12) rfl (by kernel_rfl) (by kernel_rfl) (by kernel_rfl) (fun _ _ _ h => h) (Or.inl ⟨by rfl, ?ya14_12⟩) S0.out ?ra14_12
      case ya14_12 =>
        rintro w' hSw
        go_simp
        try with_reducible rfl
      try simp only [Act.put, List.setIfInBounds_toArray, List.set_cons_zero, List.set_cons_succ]
      refine wpAnyH_take (i := 12) (oi := ⟨some 91, _, _, _, _, _⟩) (v := ?va14_13) rfl (by kernel_rfl) (by kernel_rfl) (by kernel_rfl) (fun _ _ _ h => h) (Or.inl ⟨by rfl, ?ya14_13⟩) S0.out ?ra14_13
      case ya14_13 =>
        rintro w' hSw
        go_simp
        try with_reducible rfl
      try simp only [Act.put, List.setIfInBounds_toArray, List.set_cons_zero, List.set_cons_succ]
      refine wpAnyH_take (i := 13) (oi := ⟨some 92, _, _, _, _, _⟩) (v := ?va14_14) rfl (by kernel_rfl) (by kernel_rfl) (by kernel_rfl) (fun _ _ _ h => h) (Or.inl ⟨by rfl, ?ya14_14⟩) S0.out ?ra14_14
      case ya14_14 =>
        rintro w' hSw
        go_simp
        try with_reducible rfl
      try simp only [Act.put, List.setIfInBounds_toArray, List.set_cons_zero, List.set_cons_succ]
      refine wpAnyH_take (i := 14) (oi := ⟨some 93, _, _, _, _, _⟩) (v := ?va14_15) rfl (by kernel_rfl) (by kernel_rfl) (by kernel_rfl) (fun _ _ _ h => h) (Or.inl ⟨by rfl, ?ya14_15⟩) S0.out ?ra14_15
      case ya14_15 =>
        rintro w' hSw
        have kz : w'.cell? ⟨B3, 0, none⟩ = some (.pointer (some ⟨gm, 0, none⟩)) := hSw.1.cell 0
        go_simp
        try with_reducible rfl
      try simp only [Act.put, List.setIfInBounds_toArray, List.set_cons_zero, List.set_cons_succ]
      refine wpAnyH_take (i := 15) (oi := ⟨some 94, _, _, _, _, _⟩) (v := ?va14_16) rfl (by kernel_rfl) (by kernel_rfl) (by kernel_rfl) (fun _ _ _ h => h) (Or.inl ⟨by rfl, ?ya14_16⟩) S0.out ?ra14_16
      case ya14_16 =>
        rintro w' hSw
        go_simp
        try with_reducible rfl
      try simp only [Act.put, List.setIfInBounds_toArray, List.set_cons_zero, List.set_cons_succ]
      refine wpAnyH_take (i := 16) (oi := ⟨some 95, _, _, _, _, _⟩) (v := ?va14_17) rfl (by kernel_rfl) (by kernel_rfl) (by kernel_rfl) (fun _ _ _ h => h) (Or.inl ⟨by rfl, ?ya14_17⟩) S0.out ?ra14_17
      case ya14_17 =>
        rintro w' hSw
        go_simp
        try with_reducible rfl
      try simp only [Act.put, List.setIfInBounds_toArray, List.set_cons_zero, List.set_cons_succ]
      refine wpAnyH_take (i := 17) (oi := ⟨some 96, _, _, _, _, _⟩) (v := ?va14_18) rfl (by kernel_rfl) (by kernel_rfl) (by kernel_rfl) (fun _ _ _ h => h) (Or.inl ⟨by rfl, ?ya14_18⟩) S0.out ?ra14_18
      case ya14_18 =>
        rintro w' hSw
        have kz : w'.cell? ⟨gm, 3, none⟩ = some (.slice (some ⟨gl, 0, none⟩) 2 cm) := hSw.2.1.cell 3
        go_simp
        try with_reducible rfl
      try simp only [Act.put, List.setIfInBounds_toArray, List.set_cons_zero, List.set_cons_succ]
      refine wpAnyH_take (i := 18) (oi := ⟨some 97, _, _, _, _, _⟩) (v := ?va14_19) rfl (by kernel_rfl) (by kernel_rfl) (by kernel_rfl) (fun _ _ _ h => h) (Or.inl ⟨by rfl, ?ya14_19⟩) S0.out ?ra14_19
      case ya14_19 =>
        rintro w' hSw
        have kz : w'.cell? ⟨B7, 0, none⟩ = some (.int .i64 1) := hSw.2.2.2.cell 0
        go_simp
        try with_reducible rfl
      try simp only [Act.put, List.setIfInBounds_toArray, List.set_cons_zero, List.set_cons_succ]
      refine wpAnyH_take (i := 19) (oi := ⟨some 98, _, _, _, _, _⟩) (v := ?va14_20) rfl (by kernel_rfl) (by kernel_rfl) (by kernel_rfl) (fun _ _ _ h => h) (Or.inl ⟨by rfl, ?ya14_20⟩) S0.out ?ra14_20
      case ya14_20 =>
        rintro w' hSw
        go_simp
        try with_reducible rfl
      try simp only [Act.put, List.setIfInBounds_toArray, List.set_cons_zero, List.set_cons_succ]
      refine wpAnyH_take (i := 20) (oi := ⟨some 99, _, _, _, _, _⟩) (v := ?va14_21) rfl (by kernel_rfl) (by kernel_rfl) (by kernel_rfl) (fun _ _ _ h => h) (Or.inl ⟨by rfl, ?ya14_21⟩) S0.out ?ra14_21
      case ya14_21 =>
        rintro w' hSw
        have kz : w'.cell? ⟨gl, 1, none⟩ = some (.slice A2 m2 c2) := hSw.2.2.1
        go_simp
        try with_reducible rfl
      try simp only [Act.put, List.setIfInBounds_toArray, List.set_cons_zero, List.set_cons_succ]
      refine wpAnyH_ready (rs := [21]) (by kernel_rfl) (by simp) ?_
      refine (AllReadyH.cons rfl (fun K hK => ?_) AllReadyH.nil)
      go_simp
      refine (bytesEq_any Ax A2 nx cx m2 c2 b1 b1 _ _ vR HBXB.out.1 HB1R.out.1 HBXB.out.2 HB1R.out.2).mono ?_
      rintro e v2 ⟨he, rfl⟩
      rw [decide_eq_true rfl] at he
      subst he
      refine hK _ _ S0.out (fun _ => ?_)
      clear hK K
      try simp only [Act.put, List.setIfInBounds_toArray, List.set_cons_zero, List.set_cons_succ]
      refine wpAnyH_take (i := 22) (oi := ⟨some 101, _, _, _, _, _⟩) (v := ?va14_23) rfl (by kernel_rfl) (by kernel_rfl) (by kernel_rfl) (fun _ _ _ h => h) (Or.inl ⟨by rfl, ?ya14_23⟩) S0.out ?ra14_23
      case ya14_23 =>
        rintro w' hSw
        go_simp
        try with_reducible rfl
      try simp only [Act.put, List.setIfInBounds_toArray, List.set_cons_zero, List.set_cons_succ]
      refine wpAnyH_take (i := 23) (oi := ⟨some 102, _, _, _, _, _⟩) (v := ?va14_24) rfl (by kernel_rfl) (by kernel_rfl) (by kernel_rfl) (fun _ _ _ h => h) (Or.inl ⟨by rfl, ?ya14_24⟩) S0.out ?ra14_24
      case ya14_24 =>
        rintro w' hSw
        go_simp
        try with_reducible rfl
      try simp only [Act.put, List.setIfInBounds_toArray, List.set_cons_zero, List.set_cons_succ]
      refine wpAnyH_done (by kernel_rfl) ?_ _
      gi_wp2
      have HBI0 : Hid (BI vR wk.heap.size (.slice Ax nx cx) nx vR) := Lib.hid (BI.of HBXR.out HNEW.out)
      gi_loopw [105] (fun t105 wr => ∃ j : Nat, j ≤ nx ∧ t105 = .int .i64 (j : Int) ∧ Hid (BI vR wk.heap.size (.slice Ax nx cx) nx wr)) (fun t105 _ => nx - (intOf t105).toNat)
      case atStart => exact ⟨0, by omega, rfl, HBI0⟩
      case round =>
        obtain ⟨j, hj, rfl, HJ⟩ := hrel
        clear HBI0
        by_cases hjl : j < nx
        · have hj1 : (j : Int) < (nx : Int) := by omega
          have hj0 : 0 ≤ (j : Int) := by omega
          obtain ⟨l', hl', ho'⟩ := HJ.out.own
          obtain ⟨Gb, u, hA, hGb, hcl, hfr, hrw⟩ := own_cell ho' j hjl
          obtain ⟨y, hy, hxy⟩ := xor_nat u
          have HN : Hid (BI vR wk.heap.size (.slice Ax nx cx) nx (wr.setCell ⟨Gb, j, none⟩ (.int .u8 (y : Int)))) := Lib.hid (HJ.out.set hA hGb hrw hy)
          have hwj : wrap64 ((j : Int) + 1) = ((j + 1 : Nat) : Int) := by unfold wrap64; omega
          clear hl' ho' hGb hrw hy
          subst hA
          gi_upto_region 20 with fail
          generalize wr.setCell ⟨Gb, j, none⟩ (.int .u8 (y : Int)) = w3 at HN ⊢
          clear hcl hfr hxy h1 hlt hr2 hmx hj1 hj0 HNEW HBXB HB1R R7R R6R HBR HOR HNR HSR S0
          repeat gi_step
          rw [hwj]
          refine ⟨⟨j + 1, by omega, rfl, HN⟩, ?_⟩
          show nx - (((j + 1 : Nat) : Int)).toNat < nx - ((j : Int)).toNat
          rw [Int.toNat_natCast, Int.toNat_natCast]
          omega
        have hj1 : ¬ (j : Int) < (nx : Int) := by omega
        have HE : Hid (roundEnds wk.heap.size (fun _ => True) (KpA (fun k => G k ∨ k = Bf)) (AGI w7 r B6 B7 wk.heap.size ds) (fun _ _ => False) pre (1, Ax, nx, cx) W5 .normal { tmps := #[], defers := [] } wr) := Lib.hid (by
          have hbr := HJ.out.hb
          have hnr := HJ.out.nc
          have hl := HB7L.out
          have hs := HSR.out
          refine ⟨⟨by have := hbr.size; omega, fun k o _ hk ho => hnr k o (HNR.out k o hk ho) ho⟩, trivial, ⟨fun k hk => ?_, by have := hbr.size; omega⟩, ⟨R6R.out.below hbr (by omega), ?_, HBR.out.trans (hbr.mono (by omega)), HM5.out.kept (fun k o hk ho _ => hnr k o (HNR.out k o hk ho) ho), by have := hbr.size; omega⟩⟩
          · have := HFA.out.lt k hk
            exact (hbr.block k (by omega)).trans (HOR.out k (by omega))
          · rw [List.length_append, HP0.out]
            exact R7R.out.below hbr (by omega))
        have c6 : wr.cell? ⟨B6, 0, none⟩ = some (.int .i64 (r : Int)) := (R6R.out.below HJ.out.hb (by have := HB7L.out; omega)).cell 0
        have c7 : wr.cell? ⟨B7, 0, none⟩ = some (.int .i64 1) := (R7R.out.below HJ.out.hb (by have := HB7L.out; omega)).cell 0
        by_cases hr1 : r = 1
        · have hr1' : (r : Int) = 1 := by omega
          clear hr1
          gi_wp2
          exact HE.out
        · have hr1' : ¬ (r : Int) = 1 := by omega
          clear hr1
          gi_wp2
          exact HE.out
    case done =>
      rintro D xs2 W3 W' hD hS hI hg hdf
      have hxl : xs2.length = n := by rw [hS, HFN.out]; omega
      have hD2 : D ∉ ds := fun h => by have := HML.out D h; omega
      have HMKD : Hid (Mks w7.heap.size (D :: ds) W') := Lib.hid (hI.mks.cons (by have := HB7L.out; omega) hdf hD2)
      have r6 := hI.r6
      have r7 := hI.r7
      rw [hxl] at r7
      have hbw := hI.hb
      have hbe := HB7.out.trans (hbw.mono HB7.out.size)
      have HS22 : Hid (Row W' B6 3 [.int .i64 (r : Int)] ∧ Row W' B7 3 [.int .i64 (n : Int)] ∧ Row W' B3 33 [.pointer (some ⟨gm, 0, none⟩)] ∧ Row W' gm 97 (mc0 dgm area (some ⟨gl, 0, none⟩) (n + 1) cm en br)) := Lib.hid ⟨r6, r7, R37.out.below hbw R37.out.lt, HRM.out.below hbe HRM.out.lt⟩
      have HBWD := Lib.hid hbw
      clear hxl hD2 hI r6 r7 hbw hbe hdf hg hS hD
      go_upto_region 22 with fail
      refine wp_region_held_drew (S := fun W => Row W B6 3 [.int .i64 (r : Int)] ∧ Row W B7 3 [.int .i64 (n : Int)] ∧ Row W B3 33 [.pointer (some ⟨gm, 0, none⟩)] ∧ Row W gm 97 (mc0 dgm area (some ⟨gl, 0, none⟩) (n + 1) cm en br)) (by kernel_rfl) ⟨Row.drew HS22.out.1, Row.drew HS22.out.2.1, Row.drew HS22.out.2.2.1, Row.drew HS22.out.2.2.2⟩ (fun hHeld => ?_)
      have S0 := Lib.hid hHeld
      clear hHeld HS22
      have hw1 : wrap64 (((n + 1 : Nat) : Int) - 1) = (n : Int) := by unfold wrap64; omega
      have hw1' : wrap64 ((n : Int) + 1 - 1) = (n : Int) := by unfold wrap64; omega
      have hw1'' : IntKind.i64.wrap ((n : Int) + 1 - 1) = (n : Int) := by rw [IntKind.wrap_i64]; omega
      have hwn : IntKind.i64.wrap (n : Int) = (n : Int) := by rw [IntKind.wrap_i64]; omega
      by_cases hr0 : r = 0
      · have hr0' : (r : Int) = 0 := by omega
        clear hr0
        refine wpAnyH_take (i := 0) (oi := ⟨some 121, _, _, _, _, _⟩) (v := ?va22_1) rfl (by kernel_rfl) (by kernel_rfl) (by kernel_rfl) (fun _ _ _ h => h) (Or.inl ⟨by rfl, ?ya22_1⟩) S0.out ?ra22_1
        case ya22_1 =>
          rintro w' hSw
          have kz : w'.cell? ⟨B6, 0, none⟩ = some (.int .i64 (r : Int)) := hSw.1.cell 0
          go_simp
          try with_reducible rfl
        try simp only [Act.put, List.setIfInBounds_toArray, List.set_cons_zero, List.set_cons_succ]
        refine wpAnyH_take (i := 1) (oi := ⟨some 122, _, _, _, _, _⟩) (v := ?va22_2) rfl (by kernel_rfl) (by kernel_rfl) (by kernel_rfl) (fun _ _ _ h => h) (Or.inl ⟨by rfl, ?ya22_2⟩) S0.out ?ra22_2
        case ya22_2 =>
          rintro w' hSw
          go_simp
          try with_reducible rfl
        try simp only [Act.put, List.setIfInBounds_toArray, List.set_cons_zero, List.set_cons_succ]
        refine wpAnyH_take (i := 2) (oi := ⟨some 123, _, _, _, _, _⟩) (v := ?va22_3) rfl (by kernel_rfl) (by kernel_rfl) (by kernel_rfl) (fun _ _ _ h => h) (Or.inl ⟨by rfl, ?ya22_3⟩) S0.out ?ra22_3
        case ya22_3 =>
          rintro w' hSw
          go_simp
          try with_reducible rfl
        try simp only [Act.put, List.setIfInBounds_toArray, List.set_cons_zero, List.set_cons_succ]
        refine wpAnyH_take (i := 3) (oi := ⟨some 124, _, _, _, _, _⟩) (v := ?va22_4) rfl (by kernel_rfl) (by kernel_rfl) (by kernel_rfl) (fun _ _ _ h => h) (Or.inl ⟨by rfl, ?ya22_4⟩) S0.out ?ra22_4
        case ya22_4 =>
          rintro w' hSw
          have kz : w'.cell? ⟨B7, 0, none⟩ = some (.int .i64 (n : Int)) := hSw.2.1.cell 0
          go_simp
          try with_reducible rfl
        try simp only [Act.put, List.setIfInBounds_toArray, List.set_cons_zero, List.set_cons_succ]
        refine wpAnyH_take (i := 4) (oi := ⟨some 125, _, _, _, _, _⟩) (v := ?va22_5) rfl (by kernel_rfl) (by kernel_rfl) (by kernel_rfl) (fun _ _ _ h => h) (Or.inl ⟨by rfl, ?ya22_5⟩) S0.out ?ra22_5
        case ya22_5 =>
          rintro w' hSw
          have kz : w'.cell? ⟨B3, 0, none⟩ = some (.pointer (some ⟨gm, 0, none⟩)) := hSw.2.2.1.cell 0
          go_simp
          try with_reducible rfl
        try simp only [Act.put, List.setIfInBounds_toArray, List.set_cons_zero, List.set_cons_succ]
        refine wpAnyH_take (i := 5) (oi := ⟨some 126, _, _, _, _, _⟩) (v := ?va22_6) rfl (by kernel_rfl) (by kernel_rfl) (by kernel_rfl) (fun _ _ _ h => h) (Or.inl ⟨by rfl, ?ya22_6⟩) S0.out ?ra22_6
        case ya22_6 =>
          rintro w' hSw
          go_simp
          try with_reducible rfl
        try simp only [Act.put, List.setIfInBounds_toArray, List.set_cons_zero, List.set_cons_succ]
        refine wpAnyH_take (i := 6) (oi := ⟨some 127, _, _, _, _, _⟩) (v := ?va22_7) rfl (by kernel_rfl) (by kernel_rfl) (by kernel_rfl) (fun _ _ _ h => h) (Or.inl ⟨by rfl, ?ya22_7⟩) S0.out ?ra22_7
        case ya22_7 =>
          rintro w' hSw
          go_simp
          try with_reducible rfl
        try simp only [Act.put, List.setIfInBounds_toArray, List.set_cons_zero, List.set_cons_succ]
        refine wpAnyH_take (i := 7) (oi := ⟨some 128, _, _, _, _, _⟩) (v := ?va22_8) rfl (by kernel_rfl) (by kernel_rfl) (by kernel_rfl) (fun _ _ _ h => h) (Or.inl ⟨by rfl, ?ya22_8⟩) S0.out ?ra22_8
        case ya22_8 =>
          rintro w' hSw
          have kz : w'.cell? ⟨gm, 3, none⟩ = some (.slice (some ⟨gl, 0, none⟩) (n + 1) cm) := hSw.2.2.2.cell 3
          go_simp
          try with_reducible rfl
        try simp only [Act.put, List.setIfInBounds_toArray, List.set_cons_zero, List.set_cons_succ]
        refine wpAnyH_take (i := 8) (oi := ⟨some 129, _, _, _, _, _⟩) (v := ?va22_9) rfl (by kernel_rfl) (by kernel_rfl) (by kernel_rfl) (fun _ _ _ h => h) (Or.inl ⟨by rfl, ?ya22_9⟩) S0.out ?ra22_9
        case ya22_9 =>
          rintro w' hSw
          go_simp
          try with_reducible rfl
        try simp only [Act.put, List.setIfInBounds_toArray, List.set_cons_zero, List.set_cons_succ]
        refine wpAnyH_take (i := 9) (oi := ⟨some 130, _, _, _, _, _⟩) (v := ?va22_10) rfl (by kernel_rfl) (by kernel_rfl) (by kernel_rfl) (fun _ _ _ h => h) (Or.inl ⟨by rfl, ?ya22_10⟩) S0.out ?ra22_10
        case ya22_10 =>
          rintro w' hSw
          go_simp
          try with_reducible rfl
        try simp only [Act.put, List.setIfInBounds_toArray, List.set_cons_zero, List.set_cons_succ]
        refine wpAnyH_take (i := 10) (oi := ⟨some 131, _, _, _, _, _⟩) (v := ?va22_11) rfl (by kernel_rfl) (by kernel_rfl) (by kernel_rfl) (fun _ _ _ h => h) (Or.inl ⟨by rfl, ?ya22_11⟩) S0.out ?ra22_11
        case ya22_11 =>
          rintro w' hSw
          go_simp
          try with_reducible rfl
        try simp only [Act.put, List.setIfInBounds_toArray, List.set_cons_zero, List.set_cons_succ]
        refine wpAnyH_take (i := 11) (oi := ⟨some 132, _, _, _, _, _⟩) (v := ?va22_12) rfl (by kernel_rfl) (by kernel_rfl) (by kernel_rfl) (fun _ _ _ h => h) (Or.inl ⟨by rfl, ?ya22_12⟩) S0.out ?ra22_12
        case ya22_12 =>
          rintro w' hSw
          go_simp
          try with_reducible rfl
        try simp only [Act.put, List.setIfInBounds_toArray, List.set_cons_zero, List.set_cons_succ]
        refine wpAnyH_done (by kernel_rfl) ?_ _
        try clear hr0
        clear hr0' hw1 hw1' hw1'' hwn
        have HMD9 : Hid (Mks w7.heap.size (D :: ds) W'.drew) := Lib.hid ⟨HMKD.out.nodup, HMKD.out.open_⟩
        have R69 := Lib.hid S0.out.1
        have HB9 : Hid (Below w7.heap.size w7 W'.drew) := Lib.hid HBWD.out.drew
        clear S0
        generalize W'.drew = vD at HMD9 R69 HB9 ⊢
        have c6 : vD.cell? ⟨B6, 0, none⟩ = some (.int .i64 (r : Int)) := R69.out.cell 0
        go_upto_region 8 with fail
        refine nw fun wN hwN => ?_
        have r8 : Row wN vD.heap.size 3 [.int .i64 (r : Int)] := by rw [← hwN]; exact Row.new vD _ _
        have hbN : Below vD.heap.size vD wN := by rw [← hwN]; exact (Below.refl _ _).alloc (Nat.le_refl _) _
        obtain ⟨B8, hB8⟩ : ∃ B8, vD.heap.size = B8 := ⟨_, rfl⟩
        have hl8 : w7.heap.size ≤ B8 := by rw [← hB8]; exact HB9.out.size
        rw [hB8] at r8 ⊢
        have c8 : wN.cell? ⟨B8, 0, none⟩ = some (.int .i64 (r : Int)) := r8.cell 0
        have f8 := r8.frozen 0
        have HNX : Hid (AGL w7 (r + 1) B8 (D :: ds) (wN.setCell ⟨B8, 0, none⟩ (.int .i64 ((r + 1 : Nat) : Int)))) := Lib.hid ⟨r8.store 0 _, hl8, (HB9.out.trans (hbN.mono HB9.out.size)).setCell hl8 _, HMD9.out.kept (fun k o hk ho _ => by
          have h1 := (hbN.block k (Array.getElem?_eq_some_iff.1 hk).1).trans hk
          refine (Below.heap_setCell wN ⟨B8, 0, none⟩ _ k (fun e => ?_)).trans h1
          have e2 : k = B8 := e
          rw [e2, show wN.heap[B8]? = _ from r8] at h1
          cases h1
          cases ho)⟩
        have hw1r := HW1R.out
        clear hwN r8 hbN hB8 hl8 c6
        go_wp2_with fail
        exact ⟨_, HLE.out.1, _, _, _, _, _, _, _, _, _, _, _, _, _, _, _, _, _, _, _, D :: ds, r + 1, B8, rfl, HNX.out, rfl, HLE.out.2⟩
      · have hr0' : ¬ (r : Int) = 0 := by omega
        refine wpAnyH_take (i := 0) (oi := ⟨some 121, _, _, _, _, _⟩) (v := ?vb22_1) rfl (by kernel_rfl) (by kernel_rfl) (by kernel_rfl) (fun _ _ _ h => h) (Or.inl ⟨by rfl, ?yb22_1⟩) S0.out ?rb22_1
        case yb22_1 =>
          rintro w' hSw
          have kz : w'.cell? ⟨B6, 0, none⟩ = some (.int .i64 (r : Int)) := hSw.1.cell 0
          go_simp
          try with_reducible rfl
        try simp only [Act.put, List.setIfInBounds_toArray, List.set_cons_zero, List.set_cons_succ]
        refine wpAnyH_take (i := 1) (oi := ⟨some 122, _, _, _, _, _⟩) (v := .bool false) rfl (by kernel_rfl) (by kernel_rfl) (by kernel_rfl) (fun _ _ _ h => h) (Or.inl ⟨by rfl, ?yb22_2⟩) S0.out ?rb22_2
        case yb22_2 =>
          rintro w' hSw
          go_simp
          first | done | (simp [hr0]; done) | (rw [decide_eq_false hr0']; done)
        try simp only [Act.put, List.setIfInBounds_toArray, List.set_cons_zero, List.set_cons_succ]
        refine wpAnyH_take (i := 2) (oi := ⟨some 123, _, _, _, _, _⟩) (v := ?vb22_3) rfl (by kernel_rfl) (by kernel_rfl) (by kernel_rfl) (fun _ _ _ h => h) (Or.inl ⟨by rfl, ?yb22_3⟩) S0.out ?rb22_3
        case yb22_3 =>
          rintro w' hSw
          go_simp
          try with_reducible rfl
        try simp only [Act.put, List.setIfInBounds_toArray, List.set_cons_zero, List.set_cons_succ]
        refine wpAnyH_take (i := 3) (oi := ⟨some 124, _, _, _, _, _⟩) (v := undef) rfl (by kernel_rfl) (by kernel_rfl) (by kernel_rfl) (fun _ _ _ h => h) (Or.inr ⟨by rfl, rfl⟩) S0.out ?rb22_4
        try simp only [Act.put, List.setIfInBounds_toArray, List.set_cons_zero, List.set_cons_succ]
        refine wpAnyH_take (i := 4) (oi := ⟨some 125, _, _, _, _, _⟩) (v := undef) rfl (by kernel_rfl) (by kernel_rfl) (by kernel_rfl) (fun _ _ _ h => h) (Or.inr ⟨by rfl, rfl⟩) S0.out ?rb22_5
        try simp only [Act.put, List.setIfInBounds_toArray, List.set_cons_zero, List.set_cons_succ]
        refine wpAnyH_take (i := 5) (oi := ⟨some 126, _, _, _, _, _⟩) (v := undef) rfl (by kernel_rfl) (by kernel_rfl) (by kernel_rfl) (fun _ _ _ h => h) (Or.inr ⟨by rfl, rfl⟩) S0.out ?rb22_6
        try simp only [Act.put, List.setIfInBounds_toArray, List.set_cons_zero, List.set_cons_succ]
        refine wpAnyH_take (i := 6) (oi := ⟨some 127, _, _, _, _, _⟩) (v := undef) rfl (by kernel_rfl) (by kernel_rfl) (by kernel_rfl) (fun _ _ _ h => h) (Or.inr ⟨by rfl, rfl⟩) S0.out ?rb22_7
        try simp only [Act.put, List.setIfInBounds_toArray, List.set_cons_zero, List.set_cons_succ]
        refine wpAnyH_take (i := 7) (oi := ⟨some 128, _, _, _, _, _⟩) (v := undef) rfl (by kernel_rfl) (by kernel_rfl) (by kernel_rfl) (fun _ _ _ h => h) (Or.inr ⟨by rfl, rfl⟩) S0.out ?rb22_8
        try simp only [Act.put, List.setIfInBounds_toArray, List.set_cons_zero, List.set_cons_succ]
        refine wpAnyH_take (i := 8) (oi := ⟨some 129, _, _, _, _, _⟩) (v := undef) rfl (by kernel_rfl) (by kernel_rfl) (by kernel_rfl) (fun _ _ _ h => h) (Or.inr ⟨by rfl, rfl⟩) S0.out ?rb22_9
        try simp only [Act.put, List.setIfInBounds_toArray, List.set_cons_zero, List.set_cons_succ]
        refine wpAnyH_take (i := 9) (oi := ⟨some 130, _, _, _, _, _⟩) (v := undef) rfl (by kernel_rfl) (by kernel_rfl) (by kernel_rfl) (fun _ _ _ h => h) (Or.inr ⟨by rfl, rfl⟩) S0.out ?rb22_10
        try simp only [Act.put, List.setIfInBounds_toArray, List.set_cons_zero, List.set_cons_succ]
        refine wpAnyH_take (i := 10) (oi := ⟨some 131, _, _, _, _, _⟩) (v := undef) rfl (by kernel_rfl) (by kernel_rfl) (by kernel_rfl) (fun _ _ _ h => h) (Or.inr ⟨by rfl, rfl⟩) S0.out ?rb22_11
        try simp only [Act.put, List.setIfInBounds_toArray, List.set_cons_zero, List.set_cons_succ]
        refine wpAnyH_take (i := 11) (oi := ⟨some 132, _, _, _, _, _⟩) (v := ?vb22_12) rfl (by kernel_rfl) (by kernel_rfl) (by kernel_rfl) (fun _ _ _ h => h) (Or.inl ⟨by rfl, ?yb22_12⟩) S0.out ?rb22_12
        case yb22_12 =>
          rintro w' hSw
          go_simp
          try with_reducible rfl
        try simp only [Act.put, List.setIfInBounds_toArray, List.set_cons_zero, List.set_cons_succ]
        refine wpAnyH_done (by kernel_rfl) ?_ _
        try clear hr0
        clear hr0' hw1 hw1' hw1'' hwn
        have HMD9 : Hid (Mks w7.heap.size (D :: ds) W'.drew) := Lib.hid ⟨HMKD.out.nodup, HMKD.out.open_⟩
        have R69 := Lib.hid S0.out.1
        have HB9 : Hid (Below w7.heap.size w7 W'.drew) := Lib.hid HBWD.out.drew
        clear S0
        generalize W'.drew = vD at HMD9 R69 HB9 ⊢
        have c6 : vD.cell? ⟨B6, 0, none⟩ = some (.int .i64 (r : Int)) := R69.out.cell 0
        go_upto_region 8 with fail
        refine nw fun wN hwN => ?_
        have r8 : Row wN vD.heap.size 3 [.int .i64 (r : Int)] := by rw [← hwN]; exact Row.new vD _ _
        have hbN : Below vD.heap.size vD wN := by rw [← hwN]; exact (Below.refl _ _).alloc (Nat.le_refl _) _
        obtain ⟨B8, hB8⟩ : ∃ B8, vD.heap.size = B8 := ⟨_, rfl⟩
        have hl8 : w7.heap.size ≤ B8 := by rw [← hB8]; exact HB9.out.size
        rw [hB8] at r8 ⊢
        have c8 : wN.cell? ⟨B8, 0, none⟩ = some (.int .i64 (r : Int)) := r8.cell 0
        have f8 := r8.frozen 0
        have HNX : Hid (AGL w7 (r + 1) B8 (D :: ds) (wN.setCell ⟨B8, 0, none⟩ (.int .i64 ((r + 1 : Nat) : Int)))) := Lib.hid ⟨r8.store 0 _, hl8, (HB9.out.trans (hbN.mono HB9.out.size)).setCell hl8 _, HMD9.out.kept (fun k o hk ho _ => by
          have h1 := (hbN.block k (Array.getElem?_eq_some_iff.1 hk).1).trans hk
          refine (Below.heap_setCell wN ⟨B8, 0, none⟩ _ k (fun e => ?_)).trans h1
          have e2 : k = B8 := e
          rw [e2, show wN.heap[B8]? = _ from r8] at h1
          cases h1
          cases ho)⟩
        have hw1r := HW1R.out
        clear hwN r8 hbN hB8 hl8 c6
        go_wp2_with fail
        exact ⟨_, HLE.out.1, _, _, _, _, _, _, _, _, _, _, _, _, _, _, _, _, _, _, _, D :: ds, r + 1, B8, rfl, HNX.out, rfl, HLE.out.2⟩
end Go.Proofs.Yteemdjamgbbjhaa.Wr

/-
  The law of formats: what stands of two disks, a log and the law's own.
-/
namespace Go.Proofs.Yteemdjamgbbjhaa.Wr
set_option maxRecDepth 100000
open Go.RowKit Go.Shelf Go.Lib Go.Proofs.Yteemdjamgbbjhaa.Wd Go.Proofs.Yteemdjamgbbjhaa.Dsk Go.Proofs.Yteemdjamgbbjhaa.Oct Go.Proofs.Yteemdjamgbbjhaa.Sum Go.Proofs.Yteemdjamgbbjhaa.Beq Go.Proofs.Yteemdjamgbbjhaa.Wl

/-- what a format comes to, of whatever area -/
def fmtM (area : Int) (d : DM) : DM × Int := if 4 ≤ area ∧ area ≤ 1000 ∧ 2 + 2 * area ≤ (d.sec.length : Int) then formM area.toNat d else (d, 2)
def FmtR (w w' : World) (area : Int) (dg : Nat) (d : DM) (F : Nat → Prop) (e : Ending) : Prop :=
  ∃ p F', e = .returned (.tuple #[.pointer p, .int .i64 (fmtM area d).2]) ∧ Dk w' F' dg (fmtM area d).1 ∧ Ext F F' w w' ∧ Off F w w' ∧ ((fmtM area d).2 ≠ 0 → p = none) ∧
    ((fmtM area d).2 = 0 → ∃ g ar : Nat, area = (ar : Int) ∧ 4 ≤ ar ∧ ar ≤ 1000 ∧ p = some ⟨g, 0, none⟩ ∧ w.heap.size ≤ g ∧ Begun w w' g dg ar 0 [] 0 false)
def RFmtR (w w' : World) (area : Int) (dg : Nat) (d : DM) (F : Nat → Prop) (e : Ending) : Prop :=
  ∃ p F', e = .returned (.tuple #[.pointer p, .int .i64 (fmtM area d).2]) ∧ Disk w' F' dg (fmtM area d).1 ∧ Ext F F' w w' ∧ Off F w w' ∧ ((fmtM area d).2 ≠ 0 → p = none) ∧
    ((fmtM area d).2 = 0 → ∃ g gl, p = some ⟨g, 0, none⟩ ∧ w.heap.size ≤ g ∧ w.heap.size ≤ gl ∧ ¬ F' g ∧ ¬ F' gl ∧
      Row w' g 97 [.pointer (some ⟨dg, 0, none⟩), .int .i64 area, .int .u32 0, .slice (some ⟨gl, 0, none⟩) 1 1, .int .i64 1, .bool false] ∧ Row w' gl 37 [.slice none 0 0])
theorem fmt_any (area : Int) (dg : Nat) (d : DM) (F : Nat → Prop) (w : World) (hd : Dk w F dg d) (hp : d.pend.length ≤ 800000) :
    Calls Try.prog 13 #[.pointer (some ⟨dg, 0, none⟩), .int .i64 area] w fun e w' => FmtR w w' area dg d F e := by
  by_cases h : 4 ≤ area ∧ area ≤ 1000 ∧ 2 + 2 * area ≤ (d.sec.length : Int)
  · obtain ⟨ar, rfl⟩ : ∃ ar : Nat, area = (ar : Int) := ⟨area.toNat, by omega⟩
    have e : fmtM (ar : Int) d = formM ar d := by unfold fmtM; rw [if_pos h, Int.toNat_natCast]
    refine (format_any dg ar d F w hd (by omega) (by omega) (by omega) hp).mono ?_
    rintro e' w' ⟨p, F', h1, h2, h3, h4, h5, h6⟩
    unfold FmtR
    rw [e]
    refine ⟨p, F', h1, h2, h3, h4, h5, fun hz => ?_⟩
    obtain ⟨g, q1, q2, q3⟩ := h6 hz
    exact ⟨g, ar, rfl, by omega, by omega, q1, q2, q3⟩
  · have e : fmtM area d = (d, 2) := by unfold fmtM; rw [if_neg h]
    have hx : ∀ e' w', (e' = Ending.returned (.tuple #[.pointer none, .int .i64 2]) ∧ w' = w) → FmtR w w' area dg d F e' := by
      rintro e' w' ⟨rfl, rfl⟩
      unfold FmtR
      rw [e]
      exact ⟨none, F, rfl, hd, Ext.refl _ _ _, Off.refl _ _, fun _ => rfl, fun (hz : (2 : Int) = 0) => absurd hz (by decide)⟩
    by_cases h1 : area < 4
    · exact (format_low dg area w h1).mono hx
    by_cases h2 : 1000 < area
    · exact (format_high dg area w h2).mono hx
    obtain ⟨ar, rfl⟩ : ∃ ar : Nat, area = (ar : Int) := ⟨area.toNat, by omega⟩
    exact (format_short dg ar d F w hd.1 (by omega) (by omega) (by omega)).mono hx
theorem rfmt_any (area : Int) (dg : Nat) (d : DM) (F : Nat → Prop) (w : World) (hd : Disk w F dg d) (hp : d.pend.length ≤ 800000) :
    Calls Try.prog 14 #[.pointer (some ⟨dg, 0, none⟩), .int .i64 area] w fun e w' => RFmtR w w' area dg d F e := by
  by_cases h : 4 ≤ area ∧ area ≤ 1000 ∧ 2 + 2 * area ≤ (d.sec.length : Int)
  · obtain ⟨ar, rfl⟩ : ∃ ar : Nat, area = (ar : Int) := ⟨area.toNat, by omega⟩
    have e : fmtM (ar : Int) d = formM ar d := by unfold fmtM; rw [if_pos h, Int.toNat_natCast]
    refine (rform_any dg ar d F w hd (by omega) (by omega) (by omega) hp).mono ?_
    rintro e' w' ⟨p, F', h1, h2, h3, h4, h5, h6⟩
    unfold RFmtR
    rw [e]
    exact ⟨p, F', h1, h2, h3, h4, h5, h6⟩
  · have e : fmtM area d = (d, 2) := by unfold fmtM; rw [if_neg h]
    have hx : ∀ e' w', (e' = Ending.returned (.tuple #[.pointer none, .int .i64 2]) ∧ w' = w) → RFmtR w w' area dg d F e' := by
      rintro e' w' ⟨rfl, rfl⟩
      unfold RFmtR
      rw [e]
      exact ⟨none, F, rfl, hd, Ext.refl _ _ _, Off.refl _ _, fun _ => rfl, fun (hz : (2 : Int) = 0) => absurd hz (by decide)⟩
    by_cases h1 : ¬ (4 ≤ area ∧ area ≤ 1000)
    · exact (rform_area dg area w h1).mono hx
    obtain ⟨ar, rfl⟩ : ∃ ar : Nat, area = (ar : Int) := ⟨area.toNat, by omega⟩
    exact (rform_short dg ar d F w hd (by omega) (by omega) (by omega)).mono hx
theorem fmt_pend (area : Int) (d : DM) (h : d.pend = []) : (fmtM area d).1.pend.length ≤ 10000 := by
  unfold fmtM
  split
  · rename_i h0
    unfold formM
    have h1 := lay_pend (noughtsL (2 + 2 * area.toNat)) 0 d
    have h2 : (noughtsL (2 + 2 * area.toNat)).length = 2 + 2 * area.toNat := by simp [noughtsL]
    have h3 := begin_pend 0 area.toNat [] (layM (noughtsL (2 + 2 * area.toNat)) 0 d).1
    have h4 : sects ([] : List UInt8).length = 1 := by decide
    rw [h] at h1
    simp only [List.length_nil] at h1 h3 h4
    split <;> omega
  · rw [h]; exact Nat.zero_le _
/-- how many sectors, of whatever number -/
def sectsI (n : Int) : Int := if 0 ≤ n ∧ n ≤ 40000 then (sects n.toNat : Int) else 0
theorem sectors_all (n : Int) (w : World) : Calls Try.prog 10 #[.int .i64 n] w fun e w' => e = .returned (.int .i64 (sectsI n)) ∧ w' = w := by
  by_cases h : 0 ≤ n ∧ n ≤ 40000
  · obtain ⟨m, rfl⟩ : ∃ m : Nat, n = (m : Int) := ⟨n.toNat, by omega⟩
    have e : sectsI (m : Int) = (sects m : Int) := by unfold sectsI; rw [if_pos h, Int.toNat_natCast]
    rw [e]
    exact (sectors_any m w (by omega)).mono fun e' w' q => ⟨q.1, q.2.symm⟩
  · have e : sectsI n = 0 := by unfold sectsI; rw [if_neg h]
    rw [e]
    by_cases h1 : n < 0
    · go_enter Try.func10, Try.ntmps10
      clear e h
      go_wp2
      go_ret
      exact ⟨rfl, rfl⟩
    · have h2 : 40000 < n := by omega
      go_enter Try.func10, Try.ntmps10
      clear e h
      go_wp2
      go_ret
      exact ⟨rfl, rfl⟩
theorem rsectors_all (n : Int) (w : World) : Calls Try.prog 11 #[.int .i64 n] w fun e w' => e = .returned (.int .i64 (sectsI n)) ∧ w' = w := by
  by_cases h : 0 ≤ n ∧ n ≤ 40000
  · obtain ⟨m, rfl⟩ : ∃ m : Nat, n = (m : Int) := ⟨n.toNat, by omega⟩
    have e : sectsI (m : Int) = (sects m : Int) := by unfold sectsI; rw [if_pos h, Int.toNat_natCast]
    rw [e]
    exact rsectors_any m w (by omega)
  · have e : sectsI n = 0 := by unfold sectsI; rw [if_neg h]
    rw [e]
    by_cases h1 : n < 0
    · go_enter Try.func11, Try.ntmps11
      clear e h
      go_wp2
      go_ret
      exact ⟨rfl, rfl⟩
    · have h2 : 40000 < n := by omega
      go_enter Try.func11, Try.ntmps11
      clear e h
      go_wp2
      go_ret
      exact ⟨rfl, rfl⟩
/-- two disks that lie apart, made behind w0 -/
structure S2 (w0 : World) (F1 F2 : Nat → Prop) (dg fg : Nat) (d1 d2 : DM) (W : World) : Prop where
  h1 : Disk W F1 dg d1
  h2 : Disk W F2 fg d2
  ap : ∀ k, F1 k → ¬ F2 k
  lo : ∀ k, F1 k ∨ F2 k → w0.heap.size ≤ k
  hb : Below w0.heap.size w0 W
theorem ext_apart {F F' H : Nat → Prop} {W W' : World} (hx : Ext F F' W W') (ha : ∀ k, F k → ¬ H k) (hl : ∀ k, H k → k < W.heap.size) : ∀ k, F' k → ¬ H k := fun k hk hh => by
  rcases hx k hk with h | h
  · exact ha k h hh
  · have := hl k hh; omega
theorem ext_lo {F F' : Nat → Prop} {W W' : World} {b : Nat} (hx : Ext F F' W W') (ha : ∀ k, F k → b ≤ k) (hb : b ≤ W.heap.size) : ∀ k, F' k → b ≤ k := fun k hk => by
  rcases hx k hk with h | h
  · exact ha k h
  · omega
theorem S2.left {w0 W W' : World} {F1 F2 F' : Nat → Prop} {dg fg : Nat} {d1 d2 d' : DM} (h : S2 w0 F1 F2 dg fg d1 d2 W) (hd : Disk W' F' dg d') (hx : Ext F1 F' W W') (ho : Off F1 W W') : S2 w0 F' F2 dg fg d' d2 W' :=
  ⟨hd, h.h2.off (fun k hk hk1 => h.ap k hk1 hk) ho, ext_apart hx h.ap h.h2.2, fun k hk => by
    rcases hk with hk | hk
    · exact ext_lo hx (fun k hk => h.lo k (.inl hk)) h.hb.size k hk
    · exact h.lo k (.inr hk), h.hb.trans (Wr.below_off ho h.hb.size (fun k hk => h.lo k (.inl hk)))⟩
theorem S2.right {w0 W W' : World} {F1 F2 F' : Nat → Prop} {dg fg : Nat} {d1 d2 d' : DM} (h : S2 w0 F1 F2 dg fg d1 d2 W) (hd : Disk W' F' fg d') (hx : Ext F2 F' W W') (ho : Off F2 W W') : S2 w0 F1 F' dg fg d1 d' W' :=
  ⟨h.h1.off h.ap ho, hd, fun k hk hk' => ext_apart hx (fun k hk2 hk1 => h.ap k hk1 hk2) h.h1.2 k hk' hk, fun k hk => by
    rcases hk with hk | hk
    · exact h.lo k (.inl hk)
    · exact ext_lo hx (fun k hk => h.lo k (.inr hk)) h.hb.size k hk, h.hb.trans (Wr.below_off ho h.hb.size (fun k hk => h.lo k (.inr hk)))⟩
theorem S2.below {w0 W W' : World} {F1 F2 : Nat → Prop} {dg fg : Nat} {d1 d2 : DM} (h : S2 w0 F1 F2 dg fg d1 d2 W) (hb : Below W.heap.size W W') : S2 w0 F1 F2 dg fg d1 d2 W' :=
  ⟨h.h1.below hb, h.h2.below hb, h.ap, h.lo, h.hb.trans (hb.mono h.hb.size)⟩
theorem ext_sub {F Fm F' : Nat → Prop} {W W' : World} (hx : Ext Fm F' W W') (hs : ∀ k, Fm k → F k) : Ext F F' W W' := fun k hk => by
  rcases hx k hk with h | h
  · exact .inl (hs k h)
  · exact .inr h
theorem off_sub {F Fm : Nat → Prop} {W W' : World} (ho : Off Fm W W') (hs : ∀ k, Fm k → F k) : Off F W W' := ⟨ho.os, ho.tape, ho.output, ho.size, fun k hk hn => ho.block k hk (fun h => hn (hs k h))⟩
/-- two disks, a log on one, the law's own on the other -/
structure S4 (w0 : World) (F1 F2 G1 G2 : Nat → Prop) (dg fg g gm ar : Nat) (d1 d2 : DM) (fs1 fs2 : List (List UInt8)) (br1 br2 : Bool) (W : World) : Prop where
  s2 : S2 w0 F1 F2 dg fg d1 d2 W
  log : Log W G1 g dg ar 0 fs1 br1
  mdl : Mdl W G2 gm fg ar fs2 br2
  g1 : ∀ k, G1 k → k < W.heap.size ∧ w0.heap.size ≤ k ∧ ¬ F2 k ∧ ¬ G2 k
  g2 : ∀ k, G2 k → k < W.heap.size ∧ w0.heap.size ≤ k ∧ ¬ F1 k ∧ ¬ F2 k
theorem S4.below {w0 W W' : World} {F1 F2 G1 G2 : Nat → Prop} {dg fg g gm ar : Nat} {d1 d2 : DM} {fs1 fs2 : List (List UInt8)} {br1 br2 : Bool} (h : S4 w0 F1 F2 G1 G2 dg fg g gm ar d1 d2 fs1 fs2 br1 br2 W) (hb : Below W.heap.size W W') : S4 w0 F1 F2 G1 G2 dg fg g gm ar d1 d2 fs1 fs2 br1 br2 W' :=
  ⟨h.s2.below hb, log_below h.log hb, mdl_below h.mdl hb, fun k hk => ⟨Nat.lt_of_lt_of_le (h.g1 k hk).1 hb.size, (h.g1 k hk).2⟩, fun k hk => ⟨Nat.lt_of_lt_of_le (h.g2 k hk).1 hb.size, (h.g2 k hk).2⟩⟩
theorem Log.own_g {W : World} {G : Nat → Prop} {g dg area t : Nat} {fs : List (List UInt8)} {br : Bool} (h : Log W G g dg area t fs br) : G g := by
  obtain ⟨_, _, _, _, _, h3, _⟩ := h
  exact h3
theorem Mdl.own_g {W : World} {G : Nat → Prop} {g dg area : Nat} {fs : List (List UInt8)} {br : Bool} (h : Mdl W G g dg area fs br) : G g := by
  obtain ⟨_, _, _, _, _, h3, _⟩ := h
  exact h3
theorem S4.left {w0 W W' : World} {F1 F2 G1 G2 F' G' : Nat → Prop} {dg fg g gm ar : Nat} {d1 d2 d' : DM} {fs1 fs2 fs' : List (List UInt8)} {br1 br2 br' : Bool} (h : S4 w0 F1 F2 G1 G2 dg fg g gm ar d1 d2 fs1 fs2 br1 br2 W)
    (hd : Disk W' F' dg d') (hx : Ext F1 F' W W') (hy : Ext G1 G' W W') (ho : Off (fun k => F1 k ∨ G1 k) W W') (hl : Log W' G' g dg ar 0 fs' br') : ∃ Gt, S4 w0 F' F2 Gt G2 dg fg g gm ar d' d2 fs' fs2 br' br2 W' := by
  have hl2 := Wl.tight hl
  refine ⟨_, ⟨hd, h.s2.h2.off (fun k hk hk1 => ?_) ho, ext_apart hx h.s2.ap h.s2.h2.2, fun k hk => ?_, h.s2.hb.trans (Wr.below_off ho h.s2.hb.size (fun k hk => ?_))⟩, hl2, mdl_keep h.mdl (fun k hk hlt => ho.block k hlt (fun hk1 => ?_)), fun k hk => ⟨hk.2, ?_, ?_, ?_⟩, fun k hk => ⟨Nat.lt_of_lt_of_le (h.g2 k hk).1 ho.size, (h.g2 k hk).2.1, ?_, (h.g2 k hk).2.2.2⟩⟩
  · rcases hk1 with hk1 | hk1
    · exact h.s2.ap k hk1 hk
    · exact (h.g1 k hk1).2.2.1 hk
  · rcases hk with hk | hk
    · exact ext_lo hx (fun k hk => h.s2.lo k (.inl hk)) h.s2.hb.size k hk
    · exact h.s2.lo k (.inr hk)
  · rcases hk with hk | hk
    · exact h.s2.lo k (.inl hk)
    · exact (h.g1 k hk).2.1
  · rcases hk1 with hk1 | hk1
    · exact (h.g2 k hk).2.2.1 hk1
    · exact (h.g1 k hk1).2.2.2 hk
  · exact ext_lo hy (fun k hk => (h.g1 k hk).2.1) h.s2.hb.size k hk.1
  · exact ext_apart hy (fun k hk => (h.g1 k hk).2.2.1) h.s2.h2.2 k hk.1
  · exact ext_apart hy (fun k hk => (h.g1 k hk).2.2.2) (fun k hk => (h.g2 k hk).1) k hk.1
  · exact fun hk1 => ext_apart hx (fun k h1 h2 => (h.g2 k h2).2.2.1 h1) (fun k hk => (h.g2 k hk).1) k hk1 hk
theorem S4.right {w0 W W' : World} {F1 F2 G1 G2 F' G' : Nat → Prop} {dg fg g gm ar : Nat} {d1 d2 d' : DM} {fs1 fs2 fs' : List (List UInt8)} {br1 br2 br' : Bool} (h : S4 w0 F1 F2 G1 G2 dg fg g gm ar d1 d2 fs1 fs2 br1 br2 W)
    (hd : Disk W' F' fg d') (hx : Ext F2 F' W W') (hy : Ext G2 G' W W') (hn : ∀ k, G' k → ¬ F' k) (hlt : ∀ k, G' k → k < W'.heap.size) (ho : Off (fun k => F2 k ∨ k = gm) W W') (hl : Mdl W' G' gm fg ar fs' br') : S4 w0 F1 F' G1 G' dg fg g gm ar d1 d' fs1 fs' br1 br' W' := by
  have hgm := Mdl.own_g h.mdl
  refine ⟨⟨h.s2.h1.off (fun k hk hk1 => ?_) ho, hd, fun k hk hk' => ext_apart hx (fun k hk2 hk1 => h.s2.ap k hk1 hk2) h.s2.h1.2 k hk' hk, fun k hk => ?_, h.s2.hb.trans (Wr.below_off ho h.s2.hb.size (fun k hk => ?_))⟩, log_keep h.log (fun k hk hl' => ho.block k hl' (fun hk1 => ?_)), hl, fun k hk => ⟨Nat.lt_of_lt_of_le (h.g1 k hk).1 ho.size, (h.g1 k hk).2.1, ?_, ?_⟩, fun k hk => ⟨hlt k hk, ?_, ?_, hn k hk⟩⟩
  · rcases hk1 with hk1 | hk1
    · exact h.s2.ap k hk hk1
    · subst hk1; exact (h.g2 _ hgm).2.2.1 hk
  · rcases hk with hk | hk
    · exact h.s2.lo k (.inl hk)
    · exact ext_lo hx (fun k hk => h.s2.lo k (.inr hk)) h.s2.hb.size k hk
  · rcases hk with hk | hk
    · exact h.s2.lo k (.inr hk)
    · subst hk; exact (h.g2 _ hgm).2.1
  · rcases hk1 with hk1 | hk1
    · exact (h.g1 k hk).2.2.1 hk1
    · subst hk1; exact (h.g1 _ hk).2.2.2 hgm
  · exact fun hk1 => ext_apart hx (fun k h2 h1 => (h.g1 k h1).2.2.1 h2) (fun k hk => (h.g1 k hk).1) k hk1 hk
  · exact fun hk1 => ext_apart hy (fun k h2 h1 => (h.g1 k h1).2.2.2 h2) (fun k hk => (h.g1 k hk).1) k hk1 hk
  · exact ext_lo hy (fun k hk => (h.g2 k hk).2.1) h.s2.hb.size k hk
  · exact fun hk1 => ext_apart hy (fun k hk => (h.g2 k hk).2.2.1) h.s2.h1.2 k hk hk1
/-- the law's own, just formatted -/
theorem mdl_new {W : World} {g gl fg ar : Nat} (hr : Row W g 97 [.pointer (some ⟨fg, 0, none⟩), .int .i64 (ar : Int), .int .u32 0, .slice (some ⟨gl, 0, none⟩) 1 1, .int .i64 1, .bool false]) (hl : Row W gl 37 [.slice none 0 0]) :
    Mdl W (fun k => k = g ∨ k = gl) g fg ar [[]] false := by
  refine ⟨some ⟨gl, 0, none⟩, 1, [.slice none 0 0], hr, ⟨rfl, .inr ⟨gl, 1, #[.slice none 0 0], rfl, Nat.zero_le _, hl, Nat.le_refl _, by unfold maxLen; omega, rfl, rfl⟩⟩, .inl rfl, fun k hk => .inr (Option.some.inj hk).symm, fun i hi => ?_⟩
  have h0 : i = 0 := by simp at hi; omega
  subst h0
  exact ⟨none, 0, 0, rfl, ⟨rfl, .inl ⟨rfl, rfl⟩⟩, Nat.zero_le _, fun k hk => by cases hk⟩
theorem S4.new {w0 W W' W'' : World} {F1 F2 F1' F2' : Nat → Prop} {dg fg g gm gl ar : Nat} {d d' : DM} (h : S2 w0 F1 F2 dg fg d d W) (hd : Disk W' F1' dg d') (hx : Ext F1 F1' W W') (ho : Off F1 W W') (hbg : Begun W W' g dg ar 0 [] 0 false) (hg : W.heap.size ≤ g)
    (hd2 : Disk W'' F2' fg d') (hx2 : Ext F2 F2' W' W'') (ho2 : Off F2 W' W'') (hg1 : W'.heap.size ≤ gm) (hg2 : W'.heap.size ≤ gl) (hn1 : ¬ F2' gm) (hn2 : ¬ F2' gl) (hr : Row W'' gm 97 [.pointer (some ⟨fg, 0, none⟩), .int .i64 (ar : Int), .int .u32 0, .slice (some ⟨gl, 0, none⟩) 1 1, .int .i64 1, .bool false]) (hl : Row W'' gl 37 [.slice none 0 0]) :
    ∃ G1, S4 w0 F1' F2' G1 (fun k => k = gm ∨ k = gl) dg fg g gm ar d' d' [[]] [[]] false false W'' := by
  have s' := h.left hd hx ho
  have s'' := s'.right hd2 hx2 ho2
  have hlog := Wl.tight (Log.of_begun hbg hg (by omega) rfl)
  refine ⟨_, s'', log_keep hlog (fun k hk hlt => ho2.block k hlt (fun hk2 => ?_)), mdl_new hr hl, fun k hk => ⟨Nat.lt_of_lt_of_le hk.2 ho2.size, Nat.le_trans h.hb.size hk.1, fun hk2 => ?_, fun hk2 => ?_⟩, fun k hk => ⟨?_, ?_, fun hk1 => ?_, ?_⟩⟩
  · have := h.h2.2 k hk2; omega
  · rcases hx2 k hk2 with h1 | h1
    · have := h.h2.2 k h1; omega
    · omega
  · rcases hk2 with rfl | rfl <;> omega
  · rcases hk with rfl | rfl
    · exact hr.lt
    · exact hl.lt
  · have := s'.hb.size
    rcases hk with rfl | rfl <;> omega
  · have := s'.h1.2 k hk1
    rcases hk with rfl | rfl <;> omega
  · rcases hk with rfl | rfl
    · exact hn1
    · exact hn2
end Go.Proofs.Yteemdjamgbbjhaa.Wr

/-
  The law of formats: an append of the log's and one of the law's own.
-/
namespace Go.Proofs.Yteemdjamgbbjhaa.Wr
set_option maxRecDepth 100000
open Go.RowKit Go.Shelf Go.Lib Go.Proofs.Yteemdjamgbbjhaa.Wd Go.Proofs.Yteemdjamgbbjhaa.Dsk Go.Proofs.Yteemdjamgbbjhaa.Oct Go.Proofs.Yteemdjamgbbjhaa.Sum Go.Proofs.Yteemdjamgbbjhaa.Beq Go.Proofs.Yteemdjamgbbjhaa.Wl

/-- behind the log's append -/
def AppL (w0 : World) (F2 G2 : Nat → Prop) (dg fg g gm ar : Nat) (d' d2 : DM) (fs' : List (List UInt8)) (br' : Bool) (gb : Nat) (b : List UInt8) (E' : Int) (e : Ending) (W' : World) : Prop :=
  e = .returned (.int .i64 E') ∧ ∃ F' G', S4 w0 F' F2 G' G2 dg fg g gm ar d' d2 fs' [[]] br' false W' ∧ Bs W' W'.heap.size (some ⟨gb, 1, none⟩) b
/-- behind the law's own append -/
def AppR (w0 : World) (F1 G1 : Nat → Prop) (dg fg g gm ar : Nat) (d' : DM) (fs' : List (List UInt8)) (br' : Bool) (E' : Int) (e : Ending) (W' : World) : Prop :=
  e = .returned (.int .i64 E') ∧ ∃ F' G', S4 w0 F1 F' G1 G' dg fg g gm ar d' d' fs' fs' br' br' W'
theorem app_both (w0 : World) (dg fg g gm ar : Nat) (d2 : DM) (gb : Nat) (b : List UInt8) (hb : b.length = 40000) (h4 : 4 ≤ ar) (ha : ar ≤ 1000) (hp : d2.pend.length ≤ 10000) :
    ∃ (d' : DM) (E' : Int) (fs' : List (List UInt8)) (br' : Bool), fs' ≠ [] ∧ fs'.length ≤ 2 ∧ usedM fs' ≤ ar ∧ d'.pend.length ≤ 20000 ∧
      (∀ (F1 F2 G1 G2 : Nat → Prop) (W : World), S4 w0 F1 F2 G1 G2 dg fg g gm ar d2 d2 [[]] [[]] false false W → Bs W W.heap.size (some ⟨gb, 1, none⟩) b → ¬ F1 gb → ¬ G1 gb →
        Calls Try.prog 16 #[.pointer (some ⟨g, 0, none⟩), .slice (some ⟨gb, 1, none⟩) 40000 40000] W (AppL w0 F2 G2 dg fg g gm ar d' d2 fs' br' gb b E')) ∧
      (∀ (F1 F2 G1 G2 : Nat → Prop) (W : World), S4 w0 F1 F2 G1 G2 dg fg g gm ar d' d2 fs' [[]] br' false W → Bs W W.heap.size (some ⟨gb, 1, none⟩) b → ¬ F2 gb →
        Calls Try.prog 18 #[.pointer (some ⟨gm, 0, none⟩), .slice (some ⟨gb, 1, none⟩) 40000 40000] W (AppR w0 F1 G1 dg fg g gm ar d' fs' br' E')) := by
  have hu : usedM [([] : List UInt8)] = 1 := rfl
  by_cases hroom : sects 40000 ≤ ar - 1
  · obtain ⟨⟨d', E'⟩, hZ⟩ : ∃ Z, layM (pairsM 0 1 b) ((3 : Nat) : Int) d2 = Z := ⟨_, rfl⟩
    have hpl := lay_pend (pairsM 0 1 b) ((3 : Nat) : Int) d2
    rw [hZ] at hpl
    have hpn : (pairsM 0 1 b).length = sects 40000 := by simp [pairsM, hb]
    have hs8 : sects 40000 = 834 := by decide
    refine ⟨d', E', if E' = 0 then [[]] ++ [b] else [[]], decide (E' ≠ 0), by split <;> simp, by split <;> simp, ?_, by dsimp only at hpl; omega, fun F1 F2 G1 G2 W hs hbs hn1 hn2 => ?_, fun F1 F2 G1 G2 W hs hbs hn2 => ?_⟩
    · split
      · show sects 0 + (sects b.length + 0) ≤ ar
        rw [hb, hs8, show sects 0 = 1 by decide]
        omega
      · rw [hu]; omega
    · obtain ⟨Fm, hfm, hsm⟩ := dk_min hs.s2.h1
      refine (append_ok g dg ar 0 [[]] (some ⟨gb, 1, none⟩) 40000 40000 b d2 Fm G1 W hs.log hfm ⟨hb, Nat.le_refl _, by unfold maxLen; omega, (fun h => by cases h), hbs⟩ (Nat.le_refl _) ha (by omega) (by rw [hu]; omega) (by rw [hu]; exact hroom) (by simp) (by omega)).mono ?_
      rintro e W' ⟨rfl, F', G', hd, hx, hy, ho, hl⟩
      rw [show (2 + 0 % 2 * ar + usedM [[]] : Nat) = 3 by rw [hu]; omega, show ([[]] : List (List UInt8)).length = 1 from rfl] at *
      rw [hZ] at *
      obtain ⟨Gt, hs'⟩ := hs.left hd.1 (ext_sub hx hsm) hy (off_sub ho (fun k hk => hk.imp (hsm k) id)) hl
      refine ⟨rfl, F', Gt, hs', (bs_off hbs ho (Nat.le_refl _) (fun k o e => ?_)).more ho.size⟩
      injection e with e
      injection e with e
      subst e
      rintro (h | h)
      · exact hn1 (hsm _ h)
      · exact hn2 h
    · refine (appends_room fg gm ar [[]] (some ⟨gb, 1, none⟩) 40000 40000 b d2 F2 G2 W hs.mdl hs.s2.h2 (fun k hk => (hs.g2 k hk).2.2.2) (fun k hk => (hs.g2 k hk).1) hb hbs (fun h => by cases h) (Nat.le_refl _) (by simp) ha (by rw [hu]; omega) (by rw [hu]; exact hroom) (fun k o e => ?_) (by omega)).mono ?_
      · injection e with e
        injection e with e
        subst e
        exact hn2
      · rintro e W' ⟨rfl, F', G', hd, hx, hy, hn, hlt, ho, hl⟩
        rw [show (2 + usedM [[]] : Nat) = 3 by rw [hu], show ([[]] : List (List UInt8)).length = 1 from rfl] at *
        rw [hZ] at *
        exact ⟨rfl, F', G', hs.right hd hx hy hn hlt ho hl⟩
  · refine ⟨d2, 6, [[]], false, by simp, by simp, by rw [hu]; omega, by omega, fun F1 F2 G1 G2 W hs hbs hn1 hn2 => ?_, fun F1 F2 G1 G2 W hs hbs hn2 => ?_⟩
    · refine (append_full g dg ar 0 [[]] _ 40000 40000 G1 W hs.log (Nat.le_refl _) ha (by rw [hu]; omega) (by rw [hu]; omega)).mono ?_
      rintro e W' ⟨rfl, hbW⟩
      exact ⟨rfl, F1, G1, hs.below hbW, (hbs.below hbW).more hbW.size⟩
    · obtain ⟨A, c, xs, hr, _⟩ := id hs.mdl
      refine (appends_full gm fg ar 0 (usedM [[]]) A 1 c _ 40000 40000 W hr (Nat.le_refl _) ha (by rw [hu]; omega) (by rw [hu]; omega)).mono ?_
      rintro e W' ⟨rfl, hbW⟩
      exact ⟨rfl, F2, G2, hs.below hbW⟩
end Go.Proofs.Yteemdjamgbbjhaa.Wr
