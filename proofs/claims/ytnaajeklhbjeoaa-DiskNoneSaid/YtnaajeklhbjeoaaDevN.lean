/-
  DiskNone: a nil disk does nothing, whatever is asked of it. No condition.
-/
import Derived.Test.YtnaajeklhbjeoaaDevO
import Derived.Test.YtnaajeklhbjeoaaDevE
namespace Go.Proofs.Ytnaajeklhbjeoaa.Dsk
open Go.ChangeShapes Go.WideShapes Go.ChangeAt Go.RowKit Go.Proofs.Ytnaajeklhbjeoaa.Wd

theorem own : ownKnob Try.prog.godebug = none := by kernel_rfl
theorem laidOut : laidOutB Try.prog = true := by kernel_rfl
theorem crash_nil (v : Value) (w : World) : Calls Try.prog 26 #[.pointer none, v] w fun e w' => e = .returned (.int .i64 1) ∧ Below w.heap.size w w' := by
  go_enter Try.func26, Try.ntmps26
  go_wp2
  go_ret
  exact ⟨rfl, (Below.refl _ _).alloc (Nat.le_refl _) _⟩
theorem copy_nil (w : World) : Calls Try.prog 20 #[.pointer none] w fun e w' => e = .returned (.pointer none) ∧ w' = w := by
  go_enter Try.func20, Try.ntmps20
  go_wp2
  go_ret
  exact ⟨rfl, rfl⟩
theorem stable_nil (w : World) : Stable (fun _ => False) w (fun w1 w2 => Below w1.heap.size w1 w2) :=
  ⟨fun k hk => hk.elim, fun w1 w2 h => Off.of_below h, fun w1 w2 w3 b hb h hlo hhi hg => (hb.trans (h.mono hb.size)).grown hg (Nat.le_trans hb.size h.size) (fun k e => by have := Option.some.inj e; omega)⟩
theorem does_nil (o : OM) (w : World) (h : OpOk w o) : Calls Try.prog 14 #[.pointer none, o.val] w fun e w' => e = .returned (.tuple #[blk nought, .int .i64 1]) ∧ Below w.heap.size w w' := by
  rcases kindM_in o.k with hk | hk | hk | hk | hk | hk
  · exact does0 _ _ _ _ _ _ _ _ _ w (fun w1 w2 => Below w1.heap.size w1 w2) (stable_nil w) hk nought rfl (fun w1 _ => read_nil _ w1)
  · exact does1 _ _ _ _ _ _ _ _ _ w (fun w1 w2 => Below w1.heap.size w1 w2) (stable_nil w) hk (fun w1 _ => write_nil _ _ w1)
  · exact does2 _ _ _ _ _ _ _ _ _ w (fun w1 w2 => Below w1.heap.size w1 w2) (stable_nil w) hk (fun w1 _ => sync_nil w1)
  · exact does3 _ _ _ _ _ _ _ _ _ w (fun w1 w2 => Below w1.heap.size w1 w2) (stable_nil w) hk (fun w1 _ => (arm_nil _ w1).mono fun e w' h => ⟨h.1, h.2 ▸ Below.refl _ _⟩)
  · exact does4 _ _ _ _ _ _ _ _ _ w (fun w1 w2 => Below w1.heap.size w1 w2) (stable_nil w) hk o.l h.len h.vs h.nil h.most (fun w1 A' c' _ _ _ => crash_nil _ w1)
  · exact does5 _ _ _ _ _ _ _ _ _ w (fun w1 w2 => Below w1.heap.size w1 w2) (stable_nil w) hk (fun w1 _ => (fail_nil _ w1).mono fun e w' h => ⟨h.1, h.2 ▸ Below.refl _ _⟩)

set_option maxRecDepth 100000 in
set_option maxHeartbeats 1000000 in
theorem none_walk (o : OM) (w : World) (h : OpOk w o) : Calls Try.prog 5 #[o.val] w fun e w' => e = .returned (.bool true) ∧ Below w.heap.size w w' := by
  obtain ⟨k, a, x, A, n, c, l⟩ := o
  have HH := Lib.hid h
  have r0 : Row (w.alloc (.cells (ocs k a x A n c).toArray 37)) w.heap.size 37 (ocs k a x A n c) := Row.new w _ _
  have R0 := Lib.hid r0
  have hb0 : Below w.heap.size w (w.alloc (.cells (ocs k a x A n c).toArray 37)) := (Below.refl _ _).alloc (Nat.le_refl _) _
  have HB0 := Lib.hid hb0
  have s0 : (w.alloc (.cells (ocs k a x A n c).toArray 37)).heap.size = w.heap.size + 1 := by simp
  have S0 := Lib.hid s0
  have HBZ := Lib.hid built_zero
  clear h r0 hb0 s0
  show Calls _ _ #[opv k a x A n c] _ _
  unfold opv
  go_enter Try.func5, Try.ntmps5
  go_wp2_with fail
  refine Calls.mono (wakes_any (w.alloc (.cells (ocs k a x A n c).toArray 37))) ?_
  rintro e w1 ⟨rfl, hb⟩
  have r1 := R0.out.below hb (by rw [S0.out]; omega)
  have c0 : w1.cell? ⟨w.heap.size, 0, none⟩ = some (.int .i64 k) := r1.cell 0
  have c1 : w1.cell? ⟨w.heap.size, 1, none⟩ = some (.int .i64 a) := r1.cell 1
  have c2 : w1.cell? ⟨w.heap.size, 2, none⟩ = some (.int .u8 (x.toNat : Int)) := r1.cell 2
  have c3 : w1.cell? ⟨w.heap.size, 3, none⟩ = some (.slice A n c) := r1.cell 3
  have HB1 := Lib.hid (HB0.out.trans (hb.mono HB0.out.size))
  clear hb r1 R0 S0 HB0
  go_wp2_with fail
  have hok : OpOk w1 ⟨k, a, x, A, n, c, l⟩ := ⟨HH.out.len, fun hp => by
    obtain ⟨b, o, e, hlt, hr⟩ := HH.out.vs hp
    exact ⟨b, o, e, Nat.lt_of_lt_of_le hlt HB1.out.size, range_below hr HB1.out hlt⟩, HH.out.nil, HH.out.most, HH.out.low, HH.out.high⟩
  refine (does_nil ⟨k, a, x, A, n, c, l⟩ w1 hok).mono ?_
  rintro e w2 ⟨rfl, hb⟩
  have HB2 := Lib.hid (HB1.out.trans (hb.mono HB1.out.size))
  have R4 := Lib.hid (Row.new w2 39 (bv nought))
  have HSB : Hid ((Try.prog.info? 39).map (·.size) = some (bv nought).length) := (show _ = _ by rw [bv_length]; exact size39)
  clear hb hok c0 c1 c2 c3 HB1
  go_wp2_with (first
    | (with_reducible refine wpList_store_in (op := ⟨none, _, _, _, _, _⟩) ?_ 39 (.tmp 4) (.tmp 12) ?_ w2.heap.size 0 (bv nought) ?_ ?_ 39 (bv nought) ?_ (Nat.le_of_eq (Nat.zero_add _)) bv_one HSB.out ?_))
  all_goals try (first | rfl | exact R4.out)
  intro w3 hr3 hg3
  rw [splice_all (bv nought) (bv nought) rfl] at hr3
  have HRG := Lib.hid (Row.range hr3 (o := 0) (vs := bv nought) fun j v hj => by simpa using hj)
  have HB3 : Hid (Below w.heap.size w w3) := (show Below _ _ _ from (HB2.out.alloc HB2.out.size _).grown hg3 (by have := HB2.out.size; simp; omega) (fun k e => by have := Option.some.inj e; have := HB2.out.size; omega))
  have HSZ : Hid ((Try.prog.info? 39).map (·.size) = some nought.length) := size39
  clear hr3 hg3 HB2 R4
  go_wp2_with (first
    | (with_reducible refine wpList_load_blk (op := ⟨some 14, _, _, _, _, _⟩) ?_ 39 (.tmp 4) ?_ w2.heap.size 0 ?_ nought _ HRG.out Try.underlying39 ?_ HSZ.out ?_)
    | (with_reducible refine wpList_build_to (o := ⟨some 15, _, _, _, _, _⟩) (by rfl) 39 _ rfl (bv nought).toArray HBZ.out ?_)
    | (with_reducible refine wpList_eql_blk (o := ⟨some 16, _, _, _, _, _⟩) ?_ (.tmp 14) (.tmp 15) ?_ nought nought ?_ ?_ ?_ ?_ ?_))
  all_goals try rfl
  go_wp2_with fail
  refine (len_nil _).mono ?_
  rintro e w4 ⟨rfl, rfl⟩
  go_wp2_with fail
  refine (pending_nil _).mono ?_
  rintro e w4 ⟨rfl, rfl⟩
  go_wp2_with fail
  refine (dead_nil _).mono ?_
  rintro e w4 ⟨rfl, rfl⟩
  go_wp2_with fail
  refine (ops_nil _).mono ?_
  rintro e w4 ⟨rfl, rfl⟩
  go_wp2_with fail
  refine (copy_nil _).mono ?_
  rintro e w4 ⟨rfl, rfl⟩
  go_wp2
  go_ret
  exact ⟨rfl, HB3.out⟩

theorem resT_DiskNone : Try.f5.resultTypes = #[4] := by kernel_rfl
set_option maxRecDepth 100000 in
theorem lifted_DiskNone (os : Os) (started : os.Started) (H : Type) (enc : TypeId × Value → H) :
    ReturnsInHanded {} Try.checked os 5 .any (Rows.diskNoneSpec.pre6 enc Try.prog Try.f5 Rows.diskNoneRow.domain false) (Rows.diskNoneSpec.post enc Try.prog Try.f5 false true false false) := by
  refine Lift.law_lift (C := Try.checked) (s := Rows.diskNoneSpec) (tb := 4) own laidOut started (by kernel_rfl) Try.func5
    (ChangeSpec.witness6 (enc := enc) (C := Try.checked) false ⟨#[], #[.agg #[.int .i64 0, .int .i64 0, .int .u8 0, .slice none 0 0]], []⟩ 8 (by kernel_rfl) (by kernel_rfl) (by kernel_rfl) (by kernel_rfl))
    rfl resT_DiskNone Try.underlying4 (by
      have hr : ∀ t ∈ ([37] : List TypeId), Try.prog.readableRec t = true ∧ t < Try.prog.types.size := by
        intro t ht
        simp only [List.mem_cons, List.not_mem_nil, or_false] at ht
        rcases ht with rfl <;> exact ⟨by kernel_rfl, of_decide_eq_true (by kernel_rfl)⟩
      intro t ht
      exact hr t (by
        have ht' : t ∈ Try.f5.params.toList := ht
        rw [Try.params5] at ht'
        exact ht')) ?_
  intro W base args ds p hval0 hA0 hsz0
  have hval : ∀ (j : Nat) t v, Try.f5.params[j]? = some t → args[j]? = some v → Value.okWide Try.prog W .any base t v := hval0
  have hA : DataW.TrodAll enc Try.prog W 0 (fun _ => true) true Try.f5.params.toList args.toList ds p := hA0
  have hsz : (DataW.weightsEach Try.prog Try.f5.params.toList ds).all (· ≤ reachBytes) = true := hsz0
  clear hval0 hA0 hsz0
  rw [Try.params5] at hA hval hsz
  obtain ⟨v0, vs0, d0, ds0, p0, q0, hargs, rfl, rfl, h0, r0⟩ := trodAll_cons hA
  obtain ⟨rfl, rfl, rfl⟩ := trodAll_nil r0
  obtain rfl : args = #[v0] := by cases args; simp_all
  obtain ⟨cs0, rfl, _⟩ := okWide_struct Try.underlying37 (hval 0 37 v0 rfl rfl)
  obtain ⟨fuel0, hf0⟩ := h0
  obtain ⟨o0, hcs0, hok0⟩ := open_op hf0 (by rw [List.all_eq_true] at hsz ⊢; intro z hz; exact hsz z (DataW.weights_mem_each (j := 0) (t := 37) (d := d0) rfl rfl z hz))
  have hv0 : Value.agg cs0 = o0.val := by
    have : cs0.toList = o0.cells := by simpa [Value.cells] using hcs0
    show _ = Value.agg (o0.cells).toArray
    rw [← this]
  rw [hv0]
  exact ⟨rfl, none_walk o0 W hok0⟩

theorem proved_DiskNone : Rows.DiskNoneSaid :=
  OpenClaim.holds_of_wide 5 Try.f5 rfl rfl rfl rfl rfl rfl rfl ⟨rfl, rfl, rfl, rfl, rfl⟩ rfl rfl rfl rfl rfl (by kernel_rfl) Try.func5 (by kernel_rfl)
    (of_decide_eq_true (by kernel_rfl)) (by unfold Func.isWrapper; first | (rw [if_pos (by decide +kernel)]; kernel_rfl) | (rw [if_neg (by decide +kernel)]; exact ⟨rfl, rfl⟩))
    (fun os started H enc _ => lifted_DiskNone os started H enc)
end Go.Proofs.Ytnaajeklhbjeoaa.Dsk
