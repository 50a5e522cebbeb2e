/-
  A record copied.
-/
import Derived.Test.YtnljhopikjkflaaRecO
import Derived.Deep.Cut
import Derived.Deep.CutRange
namespace Go.Proofs.Ytnljhopikjkflaa.Rec
set_option maxRecDepth 100000
open Go.RowKit Go.Proofs.Ytnljhopikjkflaa.Wd Go.Proofs.Ytnljhopikjkflaa.Oct Go.Proofs.Ytnljhopikjkflaa.Dsk

theorem wp_append_any {P : Program} {w : World} {o : Oper} {a : Act} {K : Act → World → Prop} {Q : Exit → Act → World → Prop} (s x : Operand) (t : TypeId)
    (ho : o.op = .call { callee := .builtin .append, args := #[s, x], argTypes := #[t, t] })
    (base : Nat) (e : TypeId) (i : TypeInfo) (z : Value) (ht : P.underlying t = some (.slice e)) (hi : P.info? e = some i) (hz : i.zero = some z) (hsize : i.size = 1) (hby : i.bytes = 1) (hzs : z.cells.size = 1)
    (v : Value) (n : Nat) (xs : List Value) (hs : a.eval s = v) (hown : w.ownsRow base e 1 v n xs)
    (A : Option Addr) (m c : Nat) (l : List UInt8) (hx : a.eval x = .slice A m c) (hl : l.length = m) (B : Nat) (hr : Bs w B A l) (hA : A = none → c = 0)
    (h63 : n + m ≤ 140737488355328) (hbase : base ≤ w.heap.size)
    (h : ∀ v' w', w'.ownsRow base e 1 v' (n + m) (xs ++ bv l) → w.grownBy w' v.ownBlock → K (a.put o.dst v') w') : o.wp P a w K Q := by
  cases A with
  | none =>
    have h0 : m = 0 := by
      rcases Nat.eq_zero_or_pos m with h0 | h0
      · exact h0
      · obtain ⟨b, o, e, _⟩ := hr (by omega)
        cases e
    subst h0
    obtain rfl := hA rfl
    obtain rfl : l = [] := List.eq_nil_of_length_eq_zero hl
    have hrun := run_append_owned_none (P := P) w base t o.type e i 1 ht hi v n xs hown
    unfold Oper.wp
    simp [execOp, ho, resolve, invoke, builtin, hs, hx, hrun, Result.andThen]
    exact h v w (by simpa [bv] using hown) (World.grownBy.refl _ _)
  | some ad => exact wp_append_bs s x t ho base e i z ht hi hz hsize hby hzs v n xs hs hown ad m c l hx hl B hr h63 hbase h
/-- a record being copied: where its cells lie -/
structure Cp (w : World) (r : RM) (s : RS) (W : World) : Prop where
  r1 : Row W w.heap.size 34 (rcs r s)
  r2 : Row W (w.heap.size + 1) 34 (rcs zeroR zeroS)
  hb : Below w.heap.size w W
  hs : w.heap.size + 2 ≤ W.heap.size
/-- an empty row that was made -/
def Em (w W : World) (g : Nat) : Prop := Row W g 5 [] ∧ w.heap.size + 2 ≤ g
/-- a copy that was made -/
def Dn (W : World) (A : Option Addr) (m c : Nat) (q : List UInt8) : Prop := q.length = m ∧ (A = none → c = 0) ∧ Bs W W.heap.size A q
section
variable {w W W' : World} {r : RM} {s : RS} {g g' : Nat} {A : Option Addr} {m c : Nat} {q : List UInt8}
theorem Cp.alloc (h : Cp w r s W) : Cp w r s (W.alloc (.cells #[] 5)) := ⟨h.r1.alloc _, h.r2.alloc _, h.hb.alloc h.hb.size _, by rw [World.size_alloc]; have := h.hs; omega⟩
theorem Em.alloc (h : Em w W g) : Em w (W.alloc (.cells #[] 5)) g := ⟨h.1.alloc _, h.2⟩
theorem Em.new (h : Cp w r s W) : Em w (W.alloc (.cells #[] 5)) W.heap.size := ⟨Row.new W _ [], h.hs⟩
theorem Dn.alloc (h : Dn W A m c q) : Dn (W.alloc (.cells #[] 5)) A m c q := ⟨h.1, h.2.1, (h.2.2.alloc (Nat.le_refl _) _).more (by simp)⟩
theorem Cp.grown (h : Cp w r s W) (hg : W.grownBy W' (some g)) (hh : w.heap.size + 2 ≤ g) : Cp w r s W' :=
  ⟨Row.grown2 h.r1 hg (by omega), Row.grown2 h.r2 hg (by omega), h.hb.grown hg h.hb.size (fun j hj => by have := Option.some.inj hj; omega), Nat.le_trans h.hs hg.size⟩
theorem Em.grown (h : Em w W g) (hg : W.grownBy W' (some g')) (hne : g ≠ g') : Em w W' g := ⟨Row.grown2 h.1 hg hne, h.2⟩
theorem Em.ne (h : Em w W g) : W.heap.size ≠ g := fun e => by have := h.1.lt; omega
theorem Dn.far {t : TypeId} {cs : List Value} {a : Nat} (h : Dn W A m c q) (hr : Row W a t cs) (hcs : ∀ v ∈ cs, ∀ z, v ≠ .int .u8 z) (hg : W.grownBy W' (some a)) : Dn W' A m c q :=
  ⟨h.1, h.2.1, (Bs.far h.2.2 (Nat.le_refl _) hr hcs (fun j hj hlt => hg.block j hlt (fun e => hj (Option.some.inj e)))).more hg.size⟩
theorem Cp.set6 (h : Cp w r s W) (A : Option Addr) (m c : Nat) : Cp w r ⟨A, m, c, s.An, s.nn, s.cn⟩ (W.setCell ⟨w.heap.size, 6, none⟩ (.slice A m c)) :=
  ⟨Row.store h.r1 6 _, Row.far h.r2 (p := ⟨w.heap.size, 6, none⟩) (by show w.heap.size + 1 ≠ w.heap.size; omega) _, h.hb.setCell (p := ⟨w.heap.size, 6, none⟩) (Nat.le_refl _) _, by have := h.hs; simpa [World.setCell] using this⟩
theorem Cp.set7 (h : Cp w r s W) (A : Option Addr) (m c : Nat) : Cp w r ⟨s.Ao, s.no, s.co, A, m, c⟩ (W.setCell ⟨w.heap.size, 7, none⟩ (.slice A m c)) :=
  ⟨Row.store h.r1 7 _, Row.far h.r2 (p := ⟨w.heap.size, 7, none⟩) (by show w.heap.size + 1 ≠ w.heap.size; omega) _, h.hb.setCell (p := ⟨w.heap.size, 7, none⟩) (Nat.le_refl _) _, by have := h.hs; simpa [World.setCell] using this⟩
theorem Dn.set (h : Dn W A m c q) (hp : Cp w r s W) (i : Nat) (v : Value) : Dn (W.setCell ⟨w.heap.size, i, none⟩ v) A m c q := h.far hp.r1 rcs_no8 (grown_store W w.heap.size i v)
/-- an append to an empty row -/
theorem Cp.app {P : Program} {o : Oper} {a : Act} {K : Act → World → Prop} {Q : Exit → Act → World → Prop} (h : Cp w r s W) (he : Em w W g) (sl x : Operand) (ho : o.op = .call { callee := .builtin .append, args := #[sl, x], argTypes := #[25, 25] })
    (i : TypeInfo) (ht : P.underlying 25 = some (.slice 5)) (hi : P.info? 5 = some i) (hz : i.zero = some (.int .u8 0)) (hsize : i.size = 1) (hby : i.bytes = 1)
    (hs : a.eval sl = .slice (some ⟨g, 0, none⟩) 0 0) (hx : a.eval x = .slice A m c) (hl : q.length = m) (hr : Bs w w.heap.size A q) (hA : A = none → c = 0) (hm : m ≤ 2000)
    (hK : ∀ A' m' c' W', Cp w r s W' → Dn W' A' m' c' q → W.grownBy W' (some g) → K (a.put o.dst (.slice A' m' c')) W') : o.wp P a W K Q := by
  refine wp_append_any sl x 25 ho g 5 i (.int .u8 0) ht hi hz hsize hby rfl (.slice (some ⟨g, 0, none⟩) 0 0) 0 (bv []) hs (Own.of_row (l := []) he.1 (Nat.le_refl _) rfl (Nat.zero_le _)) A m c q hx hl w.heap.size (hr.below h.hb) hA (by omega) (Nat.le_of_lt he.1.lt) ?_
  intro v' W' hown hg
  have hown2 : Own W' g v' q := by
    have := hown
    rw [show bv ([] : List UInt8) = [] from rfl, List.nil_append, Nat.zero_add, ← hl] at this
    exact this
  obtain ⟨A', m', c', rfl, z1, z2, z3, z4, z5⟩ := hown2.open
  exact hK A' m' c' W' (h.grown hg he.2) ⟨z1, z4, z5⟩ hg
end
/-- what the region leaves -/
def Cpy (w : World) (r : RM) (wx : World) : Prop :=
  ∃ A2 m2 c2 A3 m3 c3, Cp w r ⟨A2, m2, c2, A3, m3, c3⟩ wx ∧ Dn wx A2 m2 c2 r.old ∧ Dn wx A3 m3 c3 r.new

set_option maxHeartbeats 8000000 in
theorem copied_any (r : RM) (s : RS) (w : World) (h : RecAt w w.heap.size r s) (hs : s.no ≤ 2000 ∧ s.nn ≤ 2000) :
    Calls Try.prog 13 #[.agg (rcs r s).toArray] w fun e w' => ∃ s2, e = .returned (.agg (rcs r s2).toArray) ∧ RecAt w' w'.heap.size r s2 ∧ Below w.heap.size w w' := by
  have mixed : Try.prog.follows .mixedOrders = true := by kernel_rfl
  obtain ⟨i0, hi, hz0, hz1, hz2⟩ := info_parts info5
  have HA := Lib.hid h
  clear h
  unfold rcs
  go_enter Try.func13, Try.ntmps13
  go_upto_region 1 with fail
  have h0 : Cp w r s ((w.alloc (.cells #[.int .u64 (r.lsn : Int), .int .i64 r.kind, .int .u64 (r.txn : Int), .int .u64 (r.back : Int), .int .i64 r.page, .int .i64 r.slot, .slice s.Ao s.no s.co, .slice s.An s.nn s.cn, .int .u64 (r.next : Int)] 34)).alloc (.cells #[.int .u64 0, .int .i64 0, .int .u64 0, .int .u64 0, .int .i64 0, .int .i64 0, .slice none 0 0, .slice none 0 0, .int .u64 0] 34)) := ⟨(Row.new w _ _).alloc _, by
    have := Row.new (w.alloc (.cells #[.int .u64 (r.lsn : Int), .int .i64 r.kind, .int .u64 (r.txn : Int), .int .u64 (r.back : Int), .int .i64 r.page, .int .i64 r.slot, .slice s.Ao s.no s.co, .slice s.An s.nn s.cn, .int .u64 (r.next : Int)] 34)) 34 (rcs zeroR zeroS)
    rwa [World.size_alloc] at this, ((Below.refl _ _).alloc (Nat.le_refl _) _).alloc (by simp) _, by simp⟩
  generalize (w.alloc (.cells #[.int .u64 (r.lsn : Int), .int .i64 r.kind, .int .u64 (r.txn : Int), .int .u64 (r.back : Int), .int .i64 r.page, .int .i64 r.slot, .slice s.Ao s.no s.co, .slice s.An s.nn s.cn, .int .u64 (r.next : Int)] 34)).alloc (.cells #[.int .u64 0, .int .i64 0, .int .u64 0, .int .u64 0, .int .i64 0, .int .i64 0, .slice none 0 0, .slice none 0 0, .int .u64 0] 34) = w0 at *
  go_cut [3] from 4 to 12 (fun t3 wx => Cpy w r wx)
  case first =>
    refine wp_region_held_drew (S := fun _ => True) (by kernel_rfl) trivial (fun hHeld => ?_)
    have H : Hid (Cp w r s w0.drew) := ⟨Row.drew h0.r1, Row.drew h0.r2, ⟨h0.hb.os, h0.hb.tape, h0.hb.output, h0.hb.size, h0.hb.block⟩, h0.hs⟩
    clear h0
    generalize w0.drew = w1 at *
    refine wpAnyH_take (i := 1) (oi := ⟨some 4, _, _, _, _, _⟩) (v := ?v1) rfl (by kernel_rfl) (by kernel_rfl) (by kernel_rfl) (fun _ _ _ h => h) (Or.inl ⟨by rfl, ?y1⟩) trivial ?r1
    case y1 =>
      rintro w' hSw
      go_simp
      try with_reducible rfl
    ((try simp only [Act.put]); (try simp only [List.setIfInBounds_toArray]); (repeat (first | simp only [List.set_cons_succ] | simp only [List.set_cons_zero])))
    refine wpAnyH_take (i := 5) (oi := ⟨some 8, _, _, _, _, _⟩) (v := ?v5) rfl (by kernel_rfl) (by kernel_rfl) (by kernel_rfl) (fun _ _ _ h => h) (Or.inl ⟨by rfl, ?y5⟩) trivial ?r5
    case y5 =>
      rintro w' hSw
      go_simp
      try with_reducible rfl
    ((try simp only [Act.put]); (try simp only [List.setIfInBounds_toArray]); (repeat (first | simp only [List.set_cons_succ] | simp only [List.set_cons_zero])))
    refine wpAnyH_ready (rs := [0, 2, 4, 6]) (by kernel_rfl) (by simp) ?_
    refine (AllReadyH.cons rfl (fun K hK => ?_) (AllReadyH.cons rfl (fun K hK => ?_) (AllReadyH.cons rfl (fun K hK => ?_) (AllReadyH.cons rfl (fun K hK => ?_) AllReadyH.nil))))
    · go_simp
      have EO1 := Lib.hid (Em.new H.out)
      have H1 := Lib.hid H.out.alloc
      generalize w1.heap.size = gO at *
      generalize w1.alloc (.cells #[] 5) = w1 at *
      refine hK _ _ trivial (fun _ => ?_)
      clear hK K
      ((try simp only [Act.put]); (try simp only [List.setIfInBounds_toArray]); (repeat (first | simp only [List.set_cons_succ] | simp only [List.set_cons_zero])))
      refine wpAnyH_ready (rs := [2, 4, 6]) (by kernel_rfl) (by simp) ?_
      refine (AllReadyH.cons rfl (fun K hK => ?_) (AllReadyH.cons rfl (fun K hK => ?_) (AllReadyH.cons rfl (fun K hK => ?_) AllReadyH.nil)))
      · have hcl : w1.cell? ⟨w.heap.size, 6, none⟩ = some (.slice s.Ao s.no s.co) := H1.out.r1.cell 6
        go_simp
        clear hcl
        refine hK _ _ trivial (fun _ => ?_)
        clear hK K
        ((try simp only [Act.put]); (try simp only [List.setIfInBounds_toArray]); (repeat (first | simp only [List.set_cons_succ] | simp only [List.set_cons_zero])))
        refine wpAnyH_ready (rs := [3, 4, 6]) (by kernel_rfl) (by simp) ?_
        refine (AllReadyH.cons rfl (fun K hK => ?_) (AllReadyH.cons rfl (fun K hK => ?_) (AllReadyH.cons rfl (fun K hK => ?_) AllReadyH.nil)))
        · rw [if_pos (by rfl)]
          refine Cp.app H1.out EO1.out (.tmp 3) (.tmp 5) rfl i0 Try.underlying25 hi hz0 hz1 hz2 rfl rfl HA.out.lo HA.out.bo HA.out.ao hs.1 ?_
          intro A2 m2 c2 w3 hh3 hd3 hg3
          have H3 := Lib.hid hh3
          have DO3 := Lib.hid hd3
          clear hh3 hd3 hg3
          refine hK _ _ trivial (fun _ => ?_)
          clear hK K
          ((try simp only [Act.put]); (try simp only [List.setIfInBounds_toArray]); (repeat (first | simp only [List.set_cons_succ] | simp only [List.set_cons_zero])))
          refine wpAnyH_ready (rs := [4, 6]) (by kernel_rfl) (by simp) ?_
          refine (AllReadyH.cons rfl (fun K hK => ?_) (AllReadyH.cons rfl (fun K hK => ?_) AllReadyH.nil))
          · go_simp
            have EN4 := Lib.hid (Em.new H3.out)
            have H4 := Lib.hid H3.out.alloc
            have DO4 := Lib.hid DO3.out.alloc
            generalize w3.heap.size = gN at *
            generalize w3.alloc (.cells #[] 5) = w4 at *
            refine hK _ _ trivial (fun _ => ?_)
            clear hK K
            ((try simp only [Act.put]); (try simp only [List.setIfInBounds_toArray]); (repeat (first | simp only [List.set_cons_succ] | simp only [List.set_cons_zero])))
            refine wpAnyH_ready (rs := [6]) (by kernel_rfl) (by simp) ?_
            refine (AllReadyH.cons rfl (fun K hK => ?_) AllReadyH.nil)
            have hcl : w4.cell? ⟨w.heap.size, 7, none⟩ = some (.slice s.An s.nn s.cn) := H4.out.r1.cell 7
            go_simp
            clear hcl
            refine hK _ _ trivial (fun _ => ?_)
            clear hK K
            ((try simp only [Act.put]); (try simp only [List.setIfInBounds_toArray]); (repeat (first | simp only [List.set_cons_succ] | simp only [List.set_cons_zero])))
            refine wpAnyH_take (i := 8) (oi := ⟨some 11, _, _, _, _, _⟩) (v := ?v8e6) rfl (by kernel_rfl) (by kernel_rfl) (by kernel_rfl) (fun _ _ _ h => h) (Or.inl ⟨by rfl, ?y8e6⟩) trivial ?r8e6
            case y8e6 =>
              rintro w' hSw
              go_simp
              try with_reducible rfl
            ((try simp only [Act.put]); (try simp only [List.setIfInBounds_toArray]); (repeat (first | simp only [List.set_cons_succ] | simp only [List.set_cons_zero])))
            refine wpAnyH_ready (rs := [7]) (by kernel_rfl) (by simp) ?_
            refine (AllReadyH.cons rfl (fun K hK => ?_) AllReadyH.nil)
            rw [if_pos (by rfl)]
            refine Cp.app H4.out EN4.out (.tmp 7) (.tmp 9) rfl i0 Try.underlying25 hi hz0 hz1 hz2 rfl rfl HA.out.ln HA.out.bn HA.out.an hs.2 ?_
            intro A3 m3 c3 w7 hh7 hd7 hg7
            have H7 := Lib.hid hh7
            have DN7 := Lib.hid hd7
            have DO7 := Lib.hid (DO4.out.far EN4.out.1 (fun v hv => by cases hv) hg7)
            clear hh7 hd7 hg7
            refine hK _ _ trivial (fun _ => ?_)
            clear hK K
            ((try simp only [Act.put]); (try simp only [List.setIfInBounds_toArray]); (repeat (first | simp only [List.set_cons_succ] | simp only [List.set_cons_zero])))
            refine wpAnyH_ready (rs := [9]) (by kernel_rfl) (by simp) ?_
            refine AllReadyH.cons rfl (fun K hK => ?_) AllReadyH.nil
            have hcl : w7.cell? ⟨w.heap.size, 6, none⟩ = some (.slice s.Ao s.no s.co) := H7.out.r1.cell 6
            have hfr := H7.out.r1.frozen 6
            go_simp
            have HX := Lib.hid (H7.out.set6 A2 m2 c2)
            have DX := Lib.hid (DO7.out.set H7.out 6 (.slice A2 m2 c2))
            have DY := Lib.hid (DN7.out.set H7.out 6 (.slice A2 m2 c2))
            generalize w7.setCell ⟨w.heap.size, 6, none⟩ (.slice A2 m2 c2) = wx at *
            clear hcl hfr
            refine hK _ _ trivial (fun _ => ?_)
            clear hK K
            ((try simp only [Act.put]); (try simp only [List.setIfInBounds_toArray]); (repeat (first | simp only [List.set_cons_succ] | simp only [List.set_cons_zero])))
            refine wpAnyH_take (i := 10) (oi := ⟨some 12, _, _, _, _, _⟩) (v := ?v10g8) rfl (by kernel_rfl) (by kernel_rfl) (by kernel_rfl) (fun _ _ _ h => h) (Or.inl ⟨by rfl, ?y10g8⟩) trivial ?r10g8
            case y10g8 =>
              rintro w' hSw
              go_simp
              try with_reducible rfl
            ((try simp only [Act.put]); (try simp only [List.setIfInBounds_toArray]); (repeat (first | simp only [List.set_cons_succ] | simp only [List.set_cons_zero])))
            refine wpAnyH_ready (rs := [11]) (by kernel_rfl) (by simp) ?_
            refine AllReadyH.cons rfl (fun K hK => ?_) AllReadyH.nil
            have hcl : wx.cell? ⟨w.heap.size, 7, none⟩ = some (.slice s.An s.nn s.cn) := HX.out.r1.cell 7
            have hfr := HX.out.r1.frozen 7
            go_simp
            have HE := Lib.hid (show Cpy w r (wx.setCell ⟨w.heap.size, 7, none⟩ (.slice A3 m3 c3)) from ⟨A2, m2, c2, A3, m3, c3, HX.out.set7 A3 m3 c3, DX.out.set HX.out 7 _, DY.out.set HX.out 7 _⟩)
            generalize wx.setCell ⟨w.heap.size, 7, none⟩ (.slice A3 m3 c3) = wy at *
            clear hcl hfr
            refine hK _ _ trivial (fun _ => ?_)
            clear hK K
            ((try simp only [Act.put]); (try simp only [List.setIfInBounds_toArray]); (repeat (first | simp only [List.set_cons_succ] | simp only [List.set_cons_zero])))
            refine wpAnyH_done (by kernel_rfl) ?_ _
            go_wp2_with fail
            go_meet
            exact HE.out
          · have hcl : w3.cell? ⟨w.heap.size, 7, none⟩ = some (.slice s.An s.nn s.cn) := H3.out.r1.cell 7
            go_simp
            clear hcl
            refine hK _ _ trivial (fun _ => ?_)
            clear hK K
            ((try simp only [Act.put]); (try simp only [List.setIfInBounds_toArray]); (repeat (first | simp only [List.set_cons_succ] | simp only [List.set_cons_zero])))
            refine wpAnyH_take (i := 8) (oi := ⟨some 11, _, _, _, _, _⟩) (v := ?v8e10) rfl (by kernel_rfl) (by kernel_rfl) (by kernel_rfl) (fun _ _ _ h => h) (Or.inl ⟨by rfl, ?y8e10⟩) trivial ?r8e10
            case y8e10 =>
              rintro w' hSw
              go_simp
              try with_reducible rfl
            ((try simp only [Act.put]); (try simp only [List.setIfInBounds_toArray]); (repeat (first | simp only [List.set_cons_succ] | simp only [List.set_cons_zero])))
            refine wpAnyH_ready (rs := [4]) (by kernel_rfl) (by simp) ?_
            refine (AllReadyH.cons rfl (fun K hK => ?_) AllReadyH.nil)
            go_simp
            have EN11 := Lib.hid (Em.new H3.out)
            have H11 := Lib.hid H3.out.alloc
            have DO11 := Lib.hid DO3.out.alloc
            generalize w3.heap.size = gN at *
            generalize w3.alloc (.cells #[] 5) = w11 at *
            refine hK _ _ trivial (fun _ => ?_)
            clear hK K
            ((try simp only [Act.put]); (try simp only [List.setIfInBounds_toArray]); (repeat (first | simp only [List.set_cons_succ] | simp only [List.set_cons_zero])))
            refine wpAnyH_ready (rs := [7]) (by kernel_rfl) (by simp) ?_
            refine (AllReadyH.cons rfl (fun K hK => ?_) AllReadyH.nil)
            rw [if_pos (by rfl)]
            refine Cp.app H11.out EN11.out (.tmp 7) (.tmp 9) rfl i0 Try.underlying25 hi hz0 hz1 hz2 rfl rfl HA.out.ln HA.out.bn HA.out.an hs.2 ?_
            intro A3 m3 c3 w12 hh12 hd12 hg12
            have H12 := Lib.hid hh12
            have DN12 := Lib.hid hd12
            have DO12 := Lib.hid (DO11.out.far EN11.out.1 (fun v hv => by cases hv) hg12)
            clear hh12 hd12 hg12
            refine hK _ _ trivial (fun _ => ?_)
            clear hK K
            ((try simp only [Act.put]); (try simp only [List.setIfInBounds_toArray]); (repeat (first | simp only [List.set_cons_succ] | simp only [List.set_cons_zero])))
            refine wpAnyH_ready (rs := [9]) (by kernel_rfl) (by simp) ?_
            refine AllReadyH.cons rfl (fun K hK => ?_) AllReadyH.nil
            have hcl : w12.cell? ⟨w.heap.size, 6, none⟩ = some (.slice s.Ao s.no s.co) := H12.out.r1.cell 6
            have hfr := H12.out.r1.frozen 6
            go_simp
            have HX := Lib.hid (H12.out.set6 A2 m2 c2)
            have DX := Lib.hid (DO12.out.set H12.out 6 (.slice A2 m2 c2))
            have DY := Lib.hid (DN12.out.set H12.out 6 (.slice A2 m2 c2))
            generalize w12.setCell ⟨w.heap.size, 6, none⟩ (.slice A2 m2 c2) = wx at *
            clear hcl hfr
            refine hK _ _ trivial (fun _ => ?_)
            clear hK K
            ((try simp only [Act.put]); (try simp only [List.setIfInBounds_toArray]); (repeat (first | simp only [List.set_cons_succ] | simp only [List.set_cons_zero])))
            refine wpAnyH_take (i := 10) (oi := ⟨some 12, _, _, _, _, _⟩) (v := ?v10g13) rfl (by kernel_rfl) (by kernel_rfl) (by kernel_rfl) (fun _ _ _ h => h) (Or.inl ⟨by rfl, ?y10g13⟩) trivial ?r10g13
            case y10g13 =>
              rintro w' hSw
              go_simp
              try with_reducible rfl
            ((try simp only [Act.put]); (try simp only [List.setIfInBounds_toArray]); (repeat (first | simp only [List.set_cons_succ] | simp only [List.set_cons_zero])))
            refine wpAnyH_ready (rs := [11]) (by kernel_rfl) (by simp) ?_
            refine AllReadyH.cons rfl (fun K hK => ?_) AllReadyH.nil
            have hcl : wx.cell? ⟨w.heap.size, 7, none⟩ = some (.slice s.An s.nn s.cn) := HX.out.r1.cell 7
            have hfr := HX.out.r1.frozen 7
            go_simp
            have HE := Lib.hid (show Cpy w r (wx.setCell ⟨w.heap.size, 7, none⟩ (.slice A3 m3 c3)) from ⟨A2, m2, c2, A3, m3, c3, HX.out.set7 A3 m3 c3, DX.out.set HX.out 7 _, DY.out.set HX.out 7 _⟩)
            generalize wx.setCell ⟨w.heap.size, 7, none⟩ (.slice A3 m3 c3) = wy at *
            clear hcl hfr
            refine hK _ _ trivial (fun _ => ?_)
            clear hK K
            ((try simp only [Act.put]); (try simp only [List.setIfInBounds_toArray]); (repeat (first | simp only [List.set_cons_succ] | simp only [List.set_cons_zero])))
            refine wpAnyH_done (by kernel_rfl) ?_ _
            go_wp2_with fail
            go_meet
            exact HE.out
        · go_simp
          have EN14 := Lib.hid (Em.new H1.out)
          have H14 := Lib.hid H1.out.alloc
          have EO14 := Lib.hid EO1.out.alloc
          have hne : gO ≠ w1.heap.size := EO1.out.ne.symm
          generalize w1.heap.size = gN at *
          generalize w1.alloc (.cells #[] 5) = w14 at *
          refine hK _ _ trivial (fun _ => ?_)
          clear hK K
          ((try simp only [Act.put]); (try simp only [List.setIfInBounds_toArray]); (repeat (first | simp only [List.set_cons_succ] | simp only [List.set_cons_zero])))
          refine wpAnyH_ready (rs := [3, 6]) (by kernel_rfl) (by simp) ?_
          refine (AllReadyH.cons rfl (fun K hK => ?_) (AllReadyH.cons rfl (fun K hK => ?_) AllReadyH.nil))
          · rw [if_pos (by rfl)]
            refine Cp.app H14.out EO14.out (.tmp 3) (.tmp 5) rfl i0 Try.underlying25 hi hz0 hz1 hz2 rfl rfl HA.out.lo HA.out.bo HA.out.ao hs.1 ?_
            intro A2 m2 c2 w15 hh15 hd15 hg15
            have H15 := Lib.hid hh15
            have DO15 := Lib.hid hd15
            have EN15 := Lib.hid (EN14.out.grown hg15 (Ne.symm hne))
            clear hh15 hd15 hg15
            refine hK _ _ trivial (fun _ => ?_)
            clear hK K
            ((try simp only [Act.put]); (try simp only [List.setIfInBounds_toArray]); (repeat (first | simp only [List.set_cons_succ] | simp only [List.set_cons_zero])))
            refine wpAnyH_ready (rs := [6]) (by kernel_rfl) (by simp) ?_
            refine (AllReadyH.cons rfl (fun K hK => ?_) AllReadyH.nil)
            have hcl : w15.cell? ⟨w.heap.size, 7, none⟩ = some (.slice s.An s.nn s.cn) := H15.out.r1.cell 7
            go_simp
            clear hcl
            refine hK _ _ trivial (fun _ => ?_)
            clear hK K
            ((try simp only [Act.put]); (try simp only [List.setIfInBounds_toArray]); (repeat (first | simp only [List.set_cons_succ] | simp only [List.set_cons_zero])))
            refine wpAnyH_take (i := 8) (oi := ⟨some 11, _, _, _, _, _⟩) (v := ?v8e17) rfl (by kernel_rfl) (by kernel_rfl) (by kernel_rfl) (fun _ _ _ h => h) (Or.inl ⟨by rfl, ?y8e17⟩) trivial ?r8e17
            case y8e17 =>
              rintro w' hSw
              go_simp
              try with_reducible rfl
            ((try simp only [Act.put]); (try simp only [List.setIfInBounds_toArray]); (repeat (first | simp only [List.set_cons_succ] | simp only [List.set_cons_zero])))
            refine wpAnyH_ready (rs := [7]) (by kernel_rfl) (by simp) ?_
            refine (AllReadyH.cons rfl (fun K hK => ?_) AllReadyH.nil)
            rw [if_pos (by rfl)]
            refine Cp.app H15.out EN15.out (.tmp 7) (.tmp 9) rfl i0 Try.underlying25 hi hz0 hz1 hz2 rfl rfl HA.out.ln HA.out.bn HA.out.an hs.2 ?_
            intro A3 m3 c3 w18 hh18 hd18 hg18
            have H18 := Lib.hid hh18
            have DN18 := Lib.hid hd18
            have DO18 := Lib.hid (DO15.out.far EN15.out.1 (fun v hv => by cases hv) hg18)
            clear hh18 hd18 hg18
            refine hK _ _ trivial (fun _ => ?_)
            clear hK K
            ((try simp only [Act.put]); (try simp only [List.setIfInBounds_toArray]); (repeat (first | simp only [List.set_cons_succ] | simp only [List.set_cons_zero])))
            refine wpAnyH_ready (rs := [9]) (by kernel_rfl) (by simp) ?_
            refine AllReadyH.cons rfl (fun K hK => ?_) AllReadyH.nil
            have hcl : w18.cell? ⟨w.heap.size, 6, none⟩ = some (.slice s.Ao s.no s.co) := H18.out.r1.cell 6
            have hfr := H18.out.r1.frozen 6
            go_simp
            have HX := Lib.hid (H18.out.set6 A2 m2 c2)
            have DX := Lib.hid (DO18.out.set H18.out 6 (.slice A2 m2 c2))
            have DY := Lib.hid (DN18.out.set H18.out 6 (.slice A2 m2 c2))
            generalize w18.setCell ⟨w.heap.size, 6, none⟩ (.slice A2 m2 c2) = wx at *
            clear hcl hfr
            refine hK _ _ trivial (fun _ => ?_)
            clear hK K
            ((try simp only [Act.put]); (try simp only [List.setIfInBounds_toArray]); (repeat (first | simp only [List.set_cons_succ] | simp only [List.set_cons_zero])))
            refine wpAnyH_take (i := 10) (oi := ⟨some 12, _, _, _, _, _⟩) (v := ?v10g19) rfl (by kernel_rfl) (by kernel_rfl) (by kernel_rfl) (fun _ _ _ h => h) (Or.inl ⟨by rfl, ?y10g19⟩) trivial ?r10g19
            case y10g19 =>
              rintro w' hSw
              go_simp
              try with_reducible rfl
            ((try simp only [Act.put]); (try simp only [List.setIfInBounds_toArray]); (repeat (first | simp only [List.set_cons_succ] | simp only [List.set_cons_zero])))
            refine wpAnyH_ready (rs := [11]) (by kernel_rfl) (by simp) ?_
            refine AllReadyH.cons rfl (fun K hK => ?_) AllReadyH.nil
            have hcl : wx.cell? ⟨w.heap.size, 7, none⟩ = some (.slice s.An s.nn s.cn) := HX.out.r1.cell 7
            have hfr := HX.out.r1.frozen 7
            go_simp
            have HE := Lib.hid (show Cpy w r (wx.setCell ⟨w.heap.size, 7, none⟩ (.slice A3 m3 c3)) from ⟨A2, m2, c2, A3, m3, c3, HX.out.set7 A3 m3 c3, DX.out.set HX.out 7 _, DY.out.set HX.out 7 _⟩)
            generalize wx.setCell ⟨w.heap.size, 7, none⟩ (.slice A3 m3 c3) = wy at *
            clear hcl hfr
            refine hK _ _ trivial (fun _ => ?_)
            clear hK K
            ((try simp only [Act.put]); (try simp only [List.setIfInBounds_toArray]); (repeat (first | simp only [List.set_cons_succ] | simp only [List.set_cons_zero])))
            refine wpAnyH_done (by kernel_rfl) ?_ _
            go_wp2_with fail
            go_meet
            exact HE.out
          · have hcl : w14.cell? ⟨w.heap.size, 7, none⟩ = some (.slice s.An s.nn s.cn) := H14.out.r1.cell 7
            go_simp
            clear hcl
            refine hK _ _ trivial (fun _ => ?_)
            clear hK K
            ((try simp only [Act.put]); (try simp only [List.setIfInBounds_toArray]); (repeat (first | simp only [List.set_cons_succ] | simp only [List.set_cons_zero])))
            refine wpAnyH_ready (rs := [3]) (by kernel_rfl) (by simp) ?_
            refine (AllReadyH.cons rfl (fun K hK => ?_) AllReadyH.nil)
            rw [if_pos (by rfl)]
            refine Cp.app H14.out EO14.out (.tmp 3) (.tmp 5) rfl i0 Try.underlying25 hi hz0 hz1 hz2 rfl rfl HA.out.lo HA.out.bo HA.out.ao hs.1 ?_
            intro A2 m2 c2 w21 hh21 hd21 hg21
            have H21 := Lib.hid hh21
            have DO21 := Lib.hid hd21
            have EN21 := Lib.hid (EN14.out.grown hg21 (Ne.symm hne))
            clear hh21 hd21 hg21
            refine hK _ _ trivial (fun _ => ?_)
            clear hK K
            ((try simp only [Act.put]); (try simp only [List.setIfInBounds_toArray]); (repeat (first | simp only [List.set_cons_succ] | simp only [List.set_cons_zero])))
            refine wpAnyH_take (i := 8) (oi := ⟨some 11, _, _, _, _, _⟩) (v := ?v8e22) rfl (by kernel_rfl) (by kernel_rfl) (by kernel_rfl) (fun _ _ _ h => h) (Or.inl ⟨by rfl, ?y8e22⟩) trivial ?r8e22
            case y8e22 =>
              rintro w' hSw
              go_simp
              try with_reducible rfl
            ((try simp only [Act.put]); (try simp only [List.setIfInBounds_toArray]); (repeat (first | simp only [List.set_cons_succ] | simp only [List.set_cons_zero])))
            refine wpAnyH_ready (rs := [7]) (by kernel_rfl) (by simp) ?_
            refine (AllReadyH.cons rfl (fun K hK => ?_) AllReadyH.nil)
            rw [if_pos (by rfl)]
            refine Cp.app H21.out EN21.out (.tmp 7) (.tmp 9) rfl i0 Try.underlying25 hi hz0 hz1 hz2 rfl rfl HA.out.ln HA.out.bn HA.out.an hs.2 ?_
            intro A3 m3 c3 w23 hh23 hd23 hg23
            have H23 := Lib.hid hh23
            have DN23 := Lib.hid hd23
            have DO23 := Lib.hid (DO21.out.far EN21.out.1 (fun v hv => by cases hv) hg23)
            clear hh23 hd23 hg23
            refine hK _ _ trivial (fun _ => ?_)
            clear hK K
            ((try simp only [Act.put]); (try simp only [List.setIfInBounds_toArray]); (repeat (first | simp only [List.set_cons_succ] | simp only [List.set_cons_zero])))
            refine wpAnyH_ready (rs := [9]) (by kernel_rfl) (by simp) ?_
            refine AllReadyH.cons rfl (fun K hK => ?_) AllReadyH.nil
            have hcl : w23.cell? ⟨w.heap.size, 6, none⟩ = some (.slice s.Ao s.no s.co) := H23.out.r1.cell 6
            have hfr := H23.out.r1.frozen 6
            go_simp
            have HX := Lib.hid (H23.out.set6 A2 m2 c2)
            have DX := Lib.hid (DO23.out.set H23.out 6 (.slice A2 m2 c2))
            have DY := Lib.hid (DN23.out.set H23.out 6 (.slice A2 m2 c2))
            generalize w23.setCell ⟨w.heap.size, 6, none⟩ (.slice A2 m2 c2) = wx at *
            clear hcl hfr
            refine hK _ _ trivial (fun _ => ?_)
            clear hK K
            ((try simp only [Act.put]); (try simp only [List.setIfInBounds_toArray]); (repeat (first | simp only [List.set_cons_succ] | simp only [List.set_cons_zero])))
            refine wpAnyH_take (i := 10) (oi := ⟨some 12, _, _, _, _, _⟩) (v := ?v10g24) rfl (by kernel_rfl) (by kernel_rfl) (by kernel_rfl) (fun _ _ _ h => h) (Or.inl ⟨by rfl, ?y10g24⟩) trivial ?r10g24
            case y10g24 =>
              rintro w' hSw
              go_simp
              try with_reducible rfl
            ((try simp only [Act.put]); (try simp only [List.setIfInBounds_toArray]); (repeat (first | simp only [List.set_cons_succ] | simp only [List.set_cons_zero])))
            refine wpAnyH_ready (rs := [11]) (by kernel_rfl) (by simp) ?_
            refine AllReadyH.cons rfl (fun K hK => ?_) AllReadyH.nil
            have hcl : wx.cell? ⟨w.heap.size, 7, none⟩ = some (.slice s.An s.nn s.cn) := HX.out.r1.cell 7
            have hfr := HX.out.r1.frozen 7
            go_simp
            have HE := Lib.hid (show Cpy w r (wx.setCell ⟨w.heap.size, 7, none⟩ (.slice A3 m3 c3)) from ⟨A2, m2, c2, A3, m3, c3, HX.out.set7 A3 m3 c3, DX.out.set HX.out 7 _, DY.out.set HX.out 7 _⟩)
            generalize wx.setCell ⟨w.heap.size, 7, none⟩ (.slice A3 m3 c3) = wy at *
            clear hcl hfr
            refine hK _ _ trivial (fun _ => ?_)
            clear hK K
            ((try simp only [Act.put]); (try simp only [List.setIfInBounds_toArray]); (repeat (first | simp only [List.set_cons_succ] | simp only [List.set_cons_zero])))
            refine wpAnyH_done (by kernel_rfl) ?_ _
            go_wp2_with fail
            go_meet
            exact HE.out
        · have hcl : w1.cell? ⟨w.heap.size, 7, none⟩ = some (.slice s.An s.nn s.cn) := H1.out.r1.cell 7
          go_simp
          clear hcl
          refine hK _ _ trivial (fun _ => ?_)
          clear hK K
          ((try simp only [Act.put]); (try simp only [List.setIfInBounds_toArray]); (repeat (first | simp only [List.set_cons_succ] | simp only [List.set_cons_zero])))
          refine wpAnyH_ready (rs := [3, 4]) (by kernel_rfl) (by simp) ?_
          refine (AllReadyH.cons rfl (fun K hK => ?_) (AllReadyH.cons rfl (fun K hK => ?_) AllReadyH.nil))
          · rw [if_pos (by rfl)]
            refine Cp.app H1.out EO1.out (.tmp 3) (.tmp 5) rfl i0 Try.underlying25 hi hz0 hz1 hz2 rfl rfl HA.out.lo HA.out.bo HA.out.ao hs.1 ?_
            intro A2 m2 c2 w26 hh26 hd26 hg26
            have H26 := Lib.hid hh26
            have DO26 := Lib.hid hd26
            clear hh26 hd26 hg26
            refine hK _ _ trivial (fun _ => ?_)
            clear hK K
            ((try simp only [Act.put]); (try simp only [List.setIfInBounds_toArray]); (repeat (first | simp only [List.set_cons_succ] | simp only [List.set_cons_zero])))
            refine wpAnyH_take (i := 8) (oi := ⟨some 11, _, _, _, _, _⟩) (v := ?v8e27) rfl (by kernel_rfl) (by kernel_rfl) (by kernel_rfl) (fun _ _ _ h => h) (Or.inl ⟨by rfl, ?y8e27⟩) trivial ?r8e27
            case y8e27 =>
              rintro w' hSw
              go_simp
              try with_reducible rfl
            ((try simp only [Act.put]); (try simp only [List.setIfInBounds_toArray]); (repeat (first | simp only [List.set_cons_succ] | simp only [List.set_cons_zero])))
            refine wpAnyH_ready (rs := [4]) (by kernel_rfl) (by simp) ?_
            refine (AllReadyH.cons rfl (fun K hK => ?_) AllReadyH.nil)
            go_simp
            have EN28 := Lib.hid (Em.new H26.out)
            have H28 := Lib.hid H26.out.alloc
            have DO28 := Lib.hid DO26.out.alloc
            generalize w26.heap.size = gN at *
            generalize w26.alloc (.cells #[] 5) = w28 at *
            refine hK _ _ trivial (fun _ => ?_)
            clear hK K
            ((try simp only [Act.put]); (try simp only [List.setIfInBounds_toArray]); (repeat (first | simp only [List.set_cons_succ] | simp only [List.set_cons_zero])))
            refine wpAnyH_ready (rs := [7]) (by kernel_rfl) (by simp) ?_
            refine (AllReadyH.cons rfl (fun K hK => ?_) AllReadyH.nil)
            rw [if_pos (by rfl)]
            refine Cp.app H28.out EN28.out (.tmp 7) (.tmp 9) rfl i0 Try.underlying25 hi hz0 hz1 hz2 rfl rfl HA.out.ln HA.out.bn HA.out.an hs.2 ?_
            intro A3 m3 c3 w29 hh29 hd29 hg29
            have H29 := Lib.hid hh29
            have DN29 := Lib.hid hd29
            have DO29 := Lib.hid (DO28.out.far EN28.out.1 (fun v hv => by cases hv) hg29)
            clear hh29 hd29 hg29
            refine hK _ _ trivial (fun _ => ?_)
            clear hK K
            ((try simp only [Act.put]); (try simp only [List.setIfInBounds_toArray]); (repeat (first | simp only [List.set_cons_succ] | simp only [List.set_cons_zero])))
            refine wpAnyH_ready (rs := [9]) (by kernel_rfl) (by simp) ?_
            refine AllReadyH.cons rfl (fun K hK => ?_) AllReadyH.nil
            have hcl : w29.cell? ⟨w.heap.size, 6, none⟩ = some (.slice s.Ao s.no s.co) := H29.out.r1.cell 6
            have hfr := H29.out.r1.frozen 6
            go_simp
            have HX := Lib.hid (H29.out.set6 A2 m2 c2)
            have DX := Lib.hid (DO29.out.set H29.out 6 (.slice A2 m2 c2))
            have DY := Lib.hid (DN29.out.set H29.out 6 (.slice A2 m2 c2))
            generalize w29.setCell ⟨w.heap.size, 6, none⟩ (.slice A2 m2 c2) = wx at *
            clear hcl hfr
            refine hK _ _ trivial (fun _ => ?_)
            clear hK K
            ((try simp only [Act.put]); (try simp only [List.setIfInBounds_toArray]); (repeat (first | simp only [List.set_cons_succ] | simp only [List.set_cons_zero])))
            refine wpAnyH_take (i := 10) (oi := ⟨some 12, _, _, _, _, _⟩) (v := ?v10g30) rfl (by kernel_rfl) (by kernel_rfl) (by kernel_rfl) (fun _ _ _ h => h) (Or.inl ⟨by rfl, ?y10g30⟩) trivial ?r10g30
            case y10g30 =>
              rintro w' hSw
              go_simp
              try with_reducible rfl
            ((try simp only [Act.put]); (try simp only [List.setIfInBounds_toArray]); (repeat (first | simp only [List.set_cons_succ] | simp only [List.set_cons_zero])))
            refine wpAnyH_ready (rs := [11]) (by kernel_rfl) (by simp) ?_
            refine AllReadyH.cons rfl (fun K hK => ?_) AllReadyH.nil
            have hcl : wx.cell? ⟨w.heap.size, 7, none⟩ = some (.slice s.An s.nn s.cn) := HX.out.r1.cell 7
            have hfr := HX.out.r1.frozen 7
            go_simp
            have HE := Lib.hid (show Cpy w r (wx.setCell ⟨w.heap.size, 7, none⟩ (.slice A3 m3 c3)) from ⟨A2, m2, c2, A3, m3, c3, HX.out.set7 A3 m3 c3, DX.out.set HX.out 7 _, DY.out.set HX.out 7 _⟩)
            generalize wx.setCell ⟨w.heap.size, 7, none⟩ (.slice A3 m3 c3) = wy at *
            clear hcl hfr
            refine hK _ _ trivial (fun _ => ?_)
            clear hK K
            ((try simp only [Act.put]); (try simp only [List.setIfInBounds_toArray]); (repeat (first | simp only [List.set_cons_succ] | simp only [List.set_cons_zero])))
            refine wpAnyH_done (by kernel_rfl) ?_ _
            go_wp2_with fail
            go_meet
            exact HE.out
          · go_simp
            have EN31 := Lib.hid (Em.new H1.out)
            have H31 := Lib.hid H1.out.alloc
            have EO31 := Lib.hid EO1.out.alloc
            have hne : gO ≠ w1.heap.size := EO1.out.ne.symm
            generalize w1.heap.size = gN at *
            generalize w1.alloc (.cells #[] 5) = w31 at *
            refine hK _ _ trivial (fun _ => ?_)
            clear hK K
            ((try simp only [Act.put]); (try simp only [List.setIfInBounds_toArray]); (repeat (first | simp only [List.set_cons_succ] | simp only [List.set_cons_zero])))
            refine wpAnyH_ready (rs := [3]) (by kernel_rfl) (by simp) ?_
            refine (AllReadyH.cons rfl (fun K hK => ?_) AllReadyH.nil)
            rw [if_pos (by rfl)]
            refine Cp.app H31.out EO31.out (.tmp 3) (.tmp 5) rfl i0 Try.underlying25 hi hz0 hz1 hz2 rfl rfl HA.out.lo HA.out.bo HA.out.ao hs.1 ?_
            intro A2 m2 c2 w32 hh32 hd32 hg32
            have H32 := Lib.hid hh32
            have DO32 := Lib.hid hd32
            have EN32 := Lib.hid (EN31.out.grown hg32 (Ne.symm hne))
            clear hh32 hd32 hg32
            refine hK _ _ trivial (fun _ => ?_)
            clear hK K
            ((try simp only [Act.put]); (try simp only [List.setIfInBounds_toArray]); (repeat (first | simp only [List.set_cons_succ] | simp only [List.set_cons_zero])))
            refine wpAnyH_take (i := 8) (oi := ⟨some 11, _, _, _, _, _⟩) (v := ?v8e33) rfl (by kernel_rfl) (by kernel_rfl) (by kernel_rfl) (fun _ _ _ h => h) (Or.inl ⟨by rfl, ?y8e33⟩) trivial ?r8e33
            case y8e33 =>
              rintro w' hSw
              go_simp
              try with_reducible rfl
            ((try simp only [Act.put]); (try simp only [List.setIfInBounds_toArray]); (repeat (first | simp only [List.set_cons_succ] | simp only [List.set_cons_zero])))
            refine wpAnyH_ready (rs := [7]) (by kernel_rfl) (by simp) ?_
            refine (AllReadyH.cons rfl (fun K hK => ?_) AllReadyH.nil)
            rw [if_pos (by rfl)]
            refine Cp.app H32.out EN32.out (.tmp 7) (.tmp 9) rfl i0 Try.underlying25 hi hz0 hz1 hz2 rfl rfl HA.out.ln HA.out.bn HA.out.an hs.2 ?_
            intro A3 m3 c3 w34 hh34 hd34 hg34
            have H34 := Lib.hid hh34
            have DN34 := Lib.hid hd34
            have DO34 := Lib.hid (DO32.out.far EN32.out.1 (fun v hv => by cases hv) hg34)
            clear hh34 hd34 hg34
            refine hK _ _ trivial (fun _ => ?_)
            clear hK K
            ((try simp only [Act.put]); (try simp only [List.setIfInBounds_toArray]); (repeat (first | simp only [List.set_cons_succ] | simp only [List.set_cons_zero])))
            refine wpAnyH_ready (rs := [9]) (by kernel_rfl) (by simp) ?_
            refine AllReadyH.cons rfl (fun K hK => ?_) AllReadyH.nil
            have hcl : w34.cell? ⟨w.heap.size, 6, none⟩ = some (.slice s.Ao s.no s.co) := H34.out.r1.cell 6
            have hfr := H34.out.r1.frozen 6
            go_simp
            have HX := Lib.hid (H34.out.set6 A2 m2 c2)
            have DX := Lib.hid (DO34.out.set H34.out 6 (.slice A2 m2 c2))
            have DY := Lib.hid (DN34.out.set H34.out 6 (.slice A2 m2 c2))
            generalize w34.setCell ⟨w.heap.size, 6, none⟩ (.slice A2 m2 c2) = wx at *
            clear hcl hfr
            refine hK _ _ trivial (fun _ => ?_)
            clear hK K
            ((try simp only [Act.put]); (try simp only [List.setIfInBounds_toArray]); (repeat (first | simp only [List.set_cons_succ] | simp only [List.set_cons_zero])))
            refine wpAnyH_take (i := 10) (oi := ⟨some 12, _, _, _, _, _⟩) (v := ?v10g35) rfl (by kernel_rfl) (by kernel_rfl) (by kernel_rfl) (fun _ _ _ h => h) (Or.inl ⟨by rfl, ?y10g35⟩) trivial ?r10g35
            case y10g35 =>
              rintro w' hSw
              go_simp
              try with_reducible rfl
            ((try simp only [Act.put]); (try simp only [List.setIfInBounds_toArray]); (repeat (first | simp only [List.set_cons_succ] | simp only [List.set_cons_zero])))
            refine wpAnyH_ready (rs := [11]) (by kernel_rfl) (by simp) ?_
            refine AllReadyH.cons rfl (fun K hK => ?_) AllReadyH.nil
            have hcl : wx.cell? ⟨w.heap.size, 7, none⟩ = some (.slice s.An s.nn s.cn) := HX.out.r1.cell 7
            have hfr := HX.out.r1.frozen 7
            go_simp
            have HE := Lib.hid (show Cpy w r (wx.setCell ⟨w.heap.size, 7, none⟩ (.slice A3 m3 c3)) from ⟨A2, m2, c2, A3, m3, c3, HX.out.set7 A3 m3 c3, DX.out.set HX.out 7 _, DY.out.set HX.out 7 _⟩)
            generalize wx.setCell ⟨w.heap.size, 7, none⟩ (.slice A3 m3 c3) = wy at *
            clear hcl hfr
            refine hK _ _ trivial (fun _ => ?_)
            clear hK K
            ((try simp only [Act.put]); (try simp only [List.setIfInBounds_toArray]); (repeat (first | simp only [List.set_cons_succ] | simp only [List.set_cons_zero])))
            refine wpAnyH_done (by kernel_rfl) ?_ _
            go_wp2_with fail
            go_meet
            exact HE.out
      · go_simp
        have EN36 := Lib.hid (Em.new H1.out)
        have H36 := Lib.hid H1.out.alloc
        have EO36 := Lib.hid EO1.out.alloc
        have hne : gO ≠ w1.heap.size := EO1.out.ne.symm
        generalize w1.heap.size = gN at *
        generalize w1.alloc (.cells #[] 5) = w36 at *
        refine hK _ _ trivial (fun _ => ?_)
        clear hK K
        ((try simp only [Act.put]); (try simp only [List.setIfInBounds_toArray]); (repeat (first | simp only [List.set_cons_succ] | simp only [List.set_cons_zero])))
        refine wpAnyH_ready (rs := [2, 6]) (by kernel_rfl) (by simp) ?_
        refine (AllReadyH.cons rfl (fun K hK => ?_) (AllReadyH.cons rfl (fun K hK => ?_) AllReadyH.nil))
        · have hcl : w36.cell? ⟨w.heap.size, 6, none⟩ = some (.slice s.Ao s.no s.co) := H36.out.r1.cell 6
          go_simp
          clear hcl
          refine hK _ _ trivial (fun _ => ?_)
          clear hK K
          ((try simp only [Act.put]); (try simp only [List.setIfInBounds_toArray]); (repeat (first | simp only [List.set_cons_succ] | simp only [List.set_cons_zero])))
          refine wpAnyH_ready (rs := [3, 6]) (by kernel_rfl) (by simp) ?_
          refine (AllReadyH.cons rfl (fun K hK => ?_) (AllReadyH.cons rfl (fun K hK => ?_) AllReadyH.nil))
          · rw [if_pos (by rfl)]
            refine Cp.app H36.out EO36.out (.tmp 3) (.tmp 5) rfl i0 Try.underlying25 hi hz0 hz1 hz2 rfl rfl HA.out.lo HA.out.bo HA.out.ao hs.1 ?_
            intro A2 m2 c2 w38 hh38 hd38 hg38
            have H38 := Lib.hid hh38
            have DO38 := Lib.hid hd38
            have EN38 := Lib.hid (EN36.out.grown hg38 (Ne.symm hne))
            clear hh38 hd38 hg38
            refine hK _ _ trivial (fun _ => ?_)
            clear hK K
            ((try simp only [Act.put]); (try simp only [List.setIfInBounds_toArray]); (repeat (first | simp only [List.set_cons_succ] | simp only [List.set_cons_zero])))
            refine wpAnyH_ready (rs := [6]) (by kernel_rfl) (by simp) ?_
            refine (AllReadyH.cons rfl (fun K hK => ?_) AllReadyH.nil)
            have hcl : w38.cell? ⟨w.heap.size, 7, none⟩ = some (.slice s.An s.nn s.cn) := H38.out.r1.cell 7
            go_simp
            clear hcl
            refine hK _ _ trivial (fun _ => ?_)
            clear hK K
            ((try simp only [Act.put]); (try simp only [List.setIfInBounds_toArray]); (repeat (first | simp only [List.set_cons_succ] | simp only [List.set_cons_zero])))
            refine wpAnyH_take (i := 8) (oi := ⟨some 11, _, _, _, _, _⟩) (v := ?v8e40) rfl (by kernel_rfl) (by kernel_rfl) (by kernel_rfl) (fun _ _ _ h => h) (Or.inl ⟨by rfl, ?y8e40⟩) trivial ?r8e40
            case y8e40 =>
              rintro w' hSw
              go_simp
              try with_reducible rfl
            ((try simp only [Act.put]); (try simp only [List.setIfInBounds_toArray]); (repeat (first | simp only [List.set_cons_succ] | simp only [List.set_cons_zero])))
            refine wpAnyH_ready (rs := [7]) (by kernel_rfl) (by simp) ?_
            refine (AllReadyH.cons rfl (fun K hK => ?_) AllReadyH.nil)
            rw [if_pos (by rfl)]
            refine Cp.app H38.out EN38.out (.tmp 7) (.tmp 9) rfl i0 Try.underlying25 hi hz0 hz1 hz2 rfl rfl HA.out.ln HA.out.bn HA.out.an hs.2 ?_
            intro A3 m3 c3 w41 hh41 hd41 hg41
            have H41 := Lib.hid hh41
            have DN41 := Lib.hid hd41
            have DO41 := Lib.hid (DO38.out.far EN38.out.1 (fun v hv => by cases hv) hg41)
            clear hh41 hd41 hg41
            refine hK _ _ trivial (fun _ => ?_)
            clear hK K
            ((try simp only [Act.put]); (try simp only [List.setIfInBounds_toArray]); (repeat (first | simp only [List.set_cons_succ] | simp only [List.set_cons_zero])))
            refine wpAnyH_ready (rs := [9]) (by kernel_rfl) (by simp) ?_
            refine AllReadyH.cons rfl (fun K hK => ?_) AllReadyH.nil
            have hcl : w41.cell? ⟨w.heap.size, 6, none⟩ = some (.slice s.Ao s.no s.co) := H41.out.r1.cell 6
            have hfr := H41.out.r1.frozen 6
            go_simp
            have HX := Lib.hid (H41.out.set6 A2 m2 c2)
            have DX := Lib.hid (DO41.out.set H41.out 6 (.slice A2 m2 c2))
            have DY := Lib.hid (DN41.out.set H41.out 6 (.slice A2 m2 c2))
            generalize w41.setCell ⟨w.heap.size, 6, none⟩ (.slice A2 m2 c2) = wx at *
            clear hcl hfr
            refine hK _ _ trivial (fun _ => ?_)
            clear hK K
            ((try simp only [Act.put]); (try simp only [List.setIfInBounds_toArray]); (repeat (first | simp only [List.set_cons_succ] | simp only [List.set_cons_zero])))
            refine wpAnyH_take (i := 10) (oi := ⟨some 12, _, _, _, _, _⟩) (v := ?v10g42) rfl (by kernel_rfl) (by kernel_rfl) (by kernel_rfl) (fun _ _ _ h => h) (Or.inl ⟨by rfl, ?y10g42⟩) trivial ?r10g42
            case y10g42 =>
              rintro w' hSw
              go_simp
              try with_reducible rfl
            ((try simp only [Act.put]); (try simp only [List.setIfInBounds_toArray]); (repeat (first | simp only [List.set_cons_succ] | simp only [List.set_cons_zero])))
            refine wpAnyH_ready (rs := [11]) (by kernel_rfl) (by simp) ?_
            refine AllReadyH.cons rfl (fun K hK => ?_) AllReadyH.nil
            have hcl : wx.cell? ⟨w.heap.size, 7, none⟩ = some (.slice s.An s.nn s.cn) := HX.out.r1.cell 7
            have hfr := HX.out.r1.frozen 7
            go_simp
            have HE := Lib.hid (show Cpy w r (wx.setCell ⟨w.heap.size, 7, none⟩ (.slice A3 m3 c3)) from ⟨A2, m2, c2, A3, m3, c3, HX.out.set7 A3 m3 c3, DX.out.set HX.out 7 _, DY.out.set HX.out 7 _⟩)
            generalize wx.setCell ⟨w.heap.size, 7, none⟩ (.slice A3 m3 c3) = wy at *
            clear hcl hfr
            refine hK _ _ trivial (fun _ => ?_)
            clear hK K
            ((try simp only [Act.put]); (try simp only [List.setIfInBounds_toArray]); (repeat (first | simp only [List.set_cons_succ] | simp only [List.set_cons_zero])))
            refine wpAnyH_done (by kernel_rfl) ?_ _
            go_wp2_with fail
            go_meet
            exact HE.out
          · have hcl : w36.cell? ⟨w.heap.size, 7, none⟩ = some (.slice s.An s.nn s.cn) := H36.out.r1.cell 7
            go_simp
            clear hcl
            refine hK _ _ trivial (fun _ => ?_)
            clear hK K
            ((try simp only [Act.put]); (try simp only [List.setIfInBounds_toArray]); (repeat (first | simp only [List.set_cons_succ] | simp only [List.set_cons_zero])))
            refine wpAnyH_ready (rs := [3]) (by kernel_rfl) (by simp) ?_
            refine (AllReadyH.cons rfl (fun K hK => ?_) AllReadyH.nil)
            rw [if_pos (by rfl)]
            refine Cp.app H36.out EO36.out (.tmp 3) (.tmp 5) rfl i0 Try.underlying25 hi hz0 hz1 hz2 rfl rfl HA.out.lo HA.out.bo HA.out.ao hs.1 ?_
            intro A2 m2 c2 w44 hh44 hd44 hg44
            have H44 := Lib.hid hh44
            have DO44 := Lib.hid hd44
            have EN44 := Lib.hid (EN36.out.grown hg44 (Ne.symm hne))
            clear hh44 hd44 hg44
            refine hK _ _ trivial (fun _ => ?_)
            clear hK K
            ((try simp only [Act.put]); (try simp only [List.setIfInBounds_toArray]); (repeat (first | simp only [List.set_cons_succ] | simp only [List.set_cons_zero])))
            refine wpAnyH_take (i := 8) (oi := ⟨some 11, _, _, _, _, _⟩) (v := ?v8e45) rfl (by kernel_rfl) (by kernel_rfl) (by kernel_rfl) (fun _ _ _ h => h) (Or.inl ⟨by rfl, ?y8e45⟩) trivial ?r8e45
            case y8e45 =>
              rintro w' hSw
              go_simp
              try with_reducible rfl
            ((try simp only [Act.put]); (try simp only [List.setIfInBounds_toArray]); (repeat (first | simp only [List.set_cons_succ] | simp only [List.set_cons_zero])))
            refine wpAnyH_ready (rs := [7]) (by kernel_rfl) (by simp) ?_
            refine (AllReadyH.cons rfl (fun K hK => ?_) AllReadyH.nil)
            rw [if_pos (by rfl)]
            refine Cp.app H44.out EN44.out (.tmp 7) (.tmp 9) rfl i0 Try.underlying25 hi hz0 hz1 hz2 rfl rfl HA.out.ln HA.out.bn HA.out.an hs.2 ?_
            intro A3 m3 c3 w46 hh46 hd46 hg46
            have H46 := Lib.hid hh46
            have DN46 := Lib.hid hd46
            have DO46 := Lib.hid (DO44.out.far EN44.out.1 (fun v hv => by cases hv) hg46)
            clear hh46 hd46 hg46
            refine hK _ _ trivial (fun _ => ?_)
            clear hK K
            ((try simp only [Act.put]); (try simp only [List.setIfInBounds_toArray]); (repeat (first | simp only [List.set_cons_succ] | simp only [List.set_cons_zero])))
            refine wpAnyH_ready (rs := [9]) (by kernel_rfl) (by simp) ?_
            refine AllReadyH.cons rfl (fun K hK => ?_) AllReadyH.nil
            have hcl : w46.cell? ⟨w.heap.size, 6, none⟩ = some (.slice s.Ao s.no s.co) := H46.out.r1.cell 6
            have hfr := H46.out.r1.frozen 6
            go_simp
            have HX := Lib.hid (H46.out.set6 A2 m2 c2)
            have DX := Lib.hid (DO46.out.set H46.out 6 (.slice A2 m2 c2))
            have DY := Lib.hid (DN46.out.set H46.out 6 (.slice A2 m2 c2))
            generalize w46.setCell ⟨w.heap.size, 6, none⟩ (.slice A2 m2 c2) = wx at *
            clear hcl hfr
            refine hK _ _ trivial (fun _ => ?_)
            clear hK K
            ((try simp only [Act.put]); (try simp only [List.setIfInBounds_toArray]); (repeat (first | simp only [List.set_cons_succ] | simp only [List.set_cons_zero])))
            refine wpAnyH_take (i := 10) (oi := ⟨some 12, _, _, _, _, _⟩) (v := ?v10g47) rfl (by kernel_rfl) (by kernel_rfl) (by kernel_rfl) (fun _ _ _ h => h) (Or.inl ⟨by rfl, ?y10g47⟩) trivial ?r10g47
            case y10g47 =>
              rintro w' hSw
              go_simp
              try with_reducible rfl
            ((try simp only [Act.put]); (try simp only [List.setIfInBounds_toArray]); (repeat (first | simp only [List.set_cons_succ] | simp only [List.set_cons_zero])))
            refine wpAnyH_ready (rs := [11]) (by kernel_rfl) (by simp) ?_
            refine AllReadyH.cons rfl (fun K hK => ?_) AllReadyH.nil
            have hcl : wx.cell? ⟨w.heap.size, 7, none⟩ = some (.slice s.An s.nn s.cn) := HX.out.r1.cell 7
            have hfr := HX.out.r1.frozen 7
            go_simp
            have HE := Lib.hid (show Cpy w r (wx.setCell ⟨w.heap.size, 7, none⟩ (.slice A3 m3 c3)) from ⟨A2, m2, c2, A3, m3, c3, HX.out.set7 A3 m3 c3, DX.out.set HX.out 7 _, DY.out.set HX.out 7 _⟩)
            generalize wx.setCell ⟨w.heap.size, 7, none⟩ (.slice A3 m3 c3) = wy at *
            clear hcl hfr
            refine hK _ _ trivial (fun _ => ?_)
            clear hK K
            ((try simp only [Act.put]); (try simp only [List.setIfInBounds_toArray]); (repeat (first | simp only [List.set_cons_succ] | simp only [List.set_cons_zero])))
            refine wpAnyH_done (by kernel_rfl) ?_ _
            go_wp2_with fail
            go_meet
            exact HE.out
        · have hcl : w36.cell? ⟨w.heap.size, 7, none⟩ = some (.slice s.An s.nn s.cn) := H36.out.r1.cell 7
          go_simp
          clear hcl
          refine hK _ _ trivial (fun _ => ?_)
          clear hK K
          ((try simp only [Act.put]); (try simp only [List.setIfInBounds_toArray]); (repeat (first | simp only [List.set_cons_succ] | simp only [List.set_cons_zero])))
          refine wpAnyH_ready (rs := [2]) (by kernel_rfl) (by simp) ?_
          refine (AllReadyH.cons rfl (fun K hK => ?_) AllReadyH.nil)
          have hcl : w36.cell? ⟨w.heap.size, 6, none⟩ = some (.slice s.Ao s.no s.co) := H36.out.r1.cell 6
          go_simp
          clear hcl
          refine hK _ _ trivial (fun _ => ?_)
          clear hK K
          ((try simp only [Act.put]); (try simp only [List.setIfInBounds_toArray]); (repeat (first | simp only [List.set_cons_succ] | simp only [List.set_cons_zero])))
          refine wpAnyH_ready (rs := [3]) (by kernel_rfl) (by simp) ?_
          refine (AllReadyH.cons rfl (fun K hK => ?_) AllReadyH.nil)
          rw [if_pos (by rfl)]
          refine Cp.app H36.out EO36.out (.tmp 3) (.tmp 5) rfl i0 Try.underlying25 hi hz0 hz1 hz2 rfl rfl HA.out.lo HA.out.bo HA.out.ao hs.1 ?_
          intro A2 m2 c2 w50 hh50 hd50 hg50
          have H50 := Lib.hid hh50
          have DO50 := Lib.hid hd50
          have EN50 := Lib.hid (EN36.out.grown hg50 (Ne.symm hne))
          clear hh50 hd50 hg50
          refine hK _ _ trivial (fun _ => ?_)
          clear hK K
          ((try simp only [Act.put]); (try simp only [List.setIfInBounds_toArray]); (repeat (first | simp only [List.set_cons_succ] | simp only [List.set_cons_zero])))
          refine wpAnyH_take (i := 8) (oi := ⟨some 11, _, _, _, _, _⟩) (v := ?v8e51) rfl (by kernel_rfl) (by kernel_rfl) (by kernel_rfl) (fun _ _ _ h => h) (Or.inl ⟨by rfl, ?y8e51⟩) trivial ?r8e51
          case y8e51 =>
            rintro w' hSw
            go_simp
            try with_reducible rfl
          ((try simp only [Act.put]); (try simp only [List.setIfInBounds_toArray]); (repeat (first | simp only [List.set_cons_succ] | simp only [List.set_cons_zero])))
          refine wpAnyH_ready (rs := [7]) (by kernel_rfl) (by simp) ?_
          refine (AllReadyH.cons rfl (fun K hK => ?_) AllReadyH.nil)
          rw [if_pos (by rfl)]
          refine Cp.app H50.out EN50.out (.tmp 7) (.tmp 9) rfl i0 Try.underlying25 hi hz0 hz1 hz2 rfl rfl HA.out.ln HA.out.bn HA.out.an hs.2 ?_
          intro A3 m3 c3 w52 hh52 hd52 hg52
          have H52 := Lib.hid hh52
          have DN52 := Lib.hid hd52
          have DO52 := Lib.hid (DO50.out.far EN50.out.1 (fun v hv => by cases hv) hg52)
          clear hh52 hd52 hg52
          refine hK _ _ trivial (fun _ => ?_)
          clear hK K
          ((try simp only [Act.put]); (try simp only [List.setIfInBounds_toArray]); (repeat (first | simp only [List.set_cons_succ] | simp only [List.set_cons_zero])))
          refine wpAnyH_ready (rs := [9]) (by kernel_rfl) (by simp) ?_
          refine AllReadyH.cons rfl (fun K hK => ?_) AllReadyH.nil
          have hcl : w52.cell? ⟨w.heap.size, 6, none⟩ = some (.slice s.Ao s.no s.co) := H52.out.r1.cell 6
          have hfr := H52.out.r1.frozen 6
          go_simp
          have HX := Lib.hid (H52.out.set6 A2 m2 c2)
          have DX := Lib.hid (DO52.out.set H52.out 6 (.slice A2 m2 c2))
          have DY := Lib.hid (DN52.out.set H52.out 6 (.slice A2 m2 c2))
          generalize w52.setCell ⟨w.heap.size, 6, none⟩ (.slice A2 m2 c2) = wx at *
          clear hcl hfr
          refine hK _ _ trivial (fun _ => ?_)
          clear hK K
          ((try simp only [Act.put]); (try simp only [List.setIfInBounds_toArray]); (repeat (first | simp only [List.set_cons_succ] | simp only [List.set_cons_zero])))
          refine wpAnyH_take (i := 10) (oi := ⟨some 12, _, _, _, _, _⟩) (v := ?v10g53) rfl (by kernel_rfl) (by kernel_rfl) (by kernel_rfl) (fun _ _ _ h => h) (Or.inl ⟨by rfl, ?y10g53⟩) trivial ?r10g53
          case y10g53 =>
            rintro w' hSw
            go_simp
            try with_reducible rfl
          ((try simp only [Act.put]); (try simp only [List.setIfInBounds_toArray]); (repeat (first | simp only [List.set_cons_succ] | simp only [List.set_cons_zero])))
          refine wpAnyH_ready (rs := [11]) (by kernel_rfl) (by simp) ?_
          refine AllReadyH.cons rfl (fun K hK => ?_) AllReadyH.nil
          have hcl : wx.cell? ⟨w.heap.size, 7, none⟩ = some (.slice s.An s.nn s.cn) := HX.out.r1.cell 7
          have hfr := HX.out.r1.frozen 7
          go_simp
          have HE := Lib.hid (show Cpy w r (wx.setCell ⟨w.heap.size, 7, none⟩ (.slice A3 m3 c3)) from ⟨A2, m2, c2, A3, m3, c3, HX.out.set7 A3 m3 c3, DX.out.set HX.out 7 _, DY.out.set HX.out 7 _⟩)
          generalize wx.setCell ⟨w.heap.size, 7, none⟩ (.slice A3 m3 c3) = wy at *
          clear hcl hfr
          refine hK _ _ trivial (fun _ => ?_)
          clear hK K
          ((try simp only [Act.put]); (try simp only [List.setIfInBounds_toArray]); (repeat (first | simp only [List.set_cons_succ] | simp only [List.set_cons_zero])))
          refine wpAnyH_done (by kernel_rfl) ?_ _
          go_wp2_with fail
          go_meet
          exact HE.out
      · have hcl : w1.cell? ⟨w.heap.size, 7, none⟩ = some (.slice s.An s.nn s.cn) := H1.out.r1.cell 7
        go_simp
        clear hcl
        refine hK _ _ trivial (fun _ => ?_)
        clear hK K
        ((try simp only [Act.put]); (try simp only [List.setIfInBounds_toArray]); (repeat (first | simp only [List.set_cons_succ] | simp only [List.set_cons_zero])))
        refine wpAnyH_ready (rs := [2, 4]) (by kernel_rfl) (by simp) ?_
        refine (AllReadyH.cons rfl (fun K hK => ?_) (AllReadyH.cons rfl (fun K hK => ?_) AllReadyH.nil))
        · have hcl : w1.cell? ⟨w.heap.size, 6, none⟩ = some (.slice s.Ao s.no s.co) := H1.out.r1.cell 6
          go_simp
          clear hcl
          refine hK _ _ trivial (fun _ => ?_)
          clear hK K
          ((try simp only [Act.put]); (try simp only [List.setIfInBounds_toArray]); (repeat (first | simp only [List.set_cons_succ] | simp only [List.set_cons_zero])))
          refine wpAnyH_ready (rs := [3, 4]) (by kernel_rfl) (by simp) ?_
          refine (AllReadyH.cons rfl (fun K hK => ?_) (AllReadyH.cons rfl (fun K hK => ?_) AllReadyH.nil))
          · rw [if_pos (by rfl)]
            refine Cp.app H1.out EO1.out (.tmp 3) (.tmp 5) rfl i0 Try.underlying25 hi hz0 hz1 hz2 rfl rfl HA.out.lo HA.out.bo HA.out.ao hs.1 ?_
            intro A2 m2 c2 w56 hh56 hd56 hg56
            have H56 := Lib.hid hh56
            have DO56 := Lib.hid hd56
            clear hh56 hd56 hg56
            refine hK _ _ trivial (fun _ => ?_)
            clear hK K
            ((try simp only [Act.put]); (try simp only [List.setIfInBounds_toArray]); (repeat (first | simp only [List.set_cons_succ] | simp only [List.set_cons_zero])))
            refine wpAnyH_take (i := 8) (oi := ⟨some 11, _, _, _, _, _⟩) (v := ?v8e57) rfl (by kernel_rfl) (by kernel_rfl) (by kernel_rfl) (fun _ _ _ h => h) (Or.inl ⟨by rfl, ?y8e57⟩) trivial ?r8e57
            case y8e57 =>
              rintro w' hSw
              go_simp
              try with_reducible rfl
            ((try simp only [Act.put]); (try simp only [List.setIfInBounds_toArray]); (repeat (first | simp only [List.set_cons_succ] | simp only [List.set_cons_zero])))
            refine wpAnyH_ready (rs := [4]) (by kernel_rfl) (by simp) ?_
            refine (AllReadyH.cons rfl (fun K hK => ?_) AllReadyH.nil)
            go_simp
            have EN58 := Lib.hid (Em.new H56.out)
            have H58 := Lib.hid H56.out.alloc
            have DO58 := Lib.hid DO56.out.alloc
            generalize w56.heap.size = gN at *
            generalize w56.alloc (.cells #[] 5) = w58 at *
            refine hK _ _ trivial (fun _ => ?_)
            clear hK K
            ((try simp only [Act.put]); (try simp only [List.setIfInBounds_toArray]); (repeat (first | simp only [List.set_cons_succ] | simp only [List.set_cons_zero])))
            refine wpAnyH_ready (rs := [7]) (by kernel_rfl) (by simp) ?_
            refine (AllReadyH.cons rfl (fun K hK => ?_) AllReadyH.nil)
            rw [if_pos (by rfl)]
            refine Cp.app H58.out EN58.out (.tmp 7) (.tmp 9) rfl i0 Try.underlying25 hi hz0 hz1 hz2 rfl rfl HA.out.ln HA.out.bn HA.out.an hs.2 ?_
            intro A3 m3 c3 w59 hh59 hd59 hg59
            have H59 := Lib.hid hh59
            have DN59 := Lib.hid hd59
            have DO59 := Lib.hid (DO58.out.far EN58.out.1 (fun v hv => by cases hv) hg59)
            clear hh59 hd59 hg59
            refine hK _ _ trivial (fun _ => ?_)
            clear hK K
            ((try simp only [Act.put]); (try simp only [List.setIfInBounds_toArray]); (repeat (first | simp only [List.set_cons_succ] | simp only [List.set_cons_zero])))
            refine wpAnyH_ready (rs := [9]) (by kernel_rfl) (by simp) ?_
            refine AllReadyH.cons rfl (fun K hK => ?_) AllReadyH.nil
            have hcl : w59.cell? ⟨w.heap.size, 6, none⟩ = some (.slice s.Ao s.no s.co) := H59.out.r1.cell 6
            have hfr := H59.out.r1.frozen 6
            go_simp
            have HX := Lib.hid (H59.out.set6 A2 m2 c2)
            have DX := Lib.hid (DO59.out.set H59.out 6 (.slice A2 m2 c2))
            have DY := Lib.hid (DN59.out.set H59.out 6 (.slice A2 m2 c2))
            generalize w59.setCell ⟨w.heap.size, 6, none⟩ (.slice A2 m2 c2) = wx at *
            clear hcl hfr
            refine hK _ _ trivial (fun _ => ?_)
            clear hK K
            ((try simp only [Act.put]); (try simp only [List.setIfInBounds_toArray]); (repeat (first | simp only [List.set_cons_succ] | simp only [List.set_cons_zero])))
            refine wpAnyH_take (i := 10) (oi := ⟨some 12, _, _, _, _, _⟩) (v := ?v10g60) rfl (by kernel_rfl) (by kernel_rfl) (by kernel_rfl) (fun _ _ _ h => h) (Or.inl ⟨by rfl, ?y10g60⟩) trivial ?r10g60
            case y10g60 =>
              rintro w' hSw
              go_simp
              try with_reducible rfl
            ((try simp only [Act.put]); (try simp only [List.setIfInBounds_toArray]); (repeat (first | simp only [List.set_cons_succ] | simp only [List.set_cons_zero])))
            refine wpAnyH_ready (rs := [11]) (by kernel_rfl) (by simp) ?_
            refine AllReadyH.cons rfl (fun K hK => ?_) AllReadyH.nil
            have hcl : wx.cell? ⟨w.heap.size, 7, none⟩ = some (.slice s.An s.nn s.cn) := HX.out.r1.cell 7
            have hfr := HX.out.r1.frozen 7
            go_simp
            have HE := Lib.hid (show Cpy w r (wx.setCell ⟨w.heap.size, 7, none⟩ (.slice A3 m3 c3)) from ⟨A2, m2, c2, A3, m3, c3, HX.out.set7 A3 m3 c3, DX.out.set HX.out 7 _, DY.out.set HX.out 7 _⟩)
            generalize wx.setCell ⟨w.heap.size, 7, none⟩ (.slice A3 m3 c3) = wy at *
            clear hcl hfr
            refine hK _ _ trivial (fun _ => ?_)
            clear hK K
            ((try simp only [Act.put]); (try simp only [List.setIfInBounds_toArray]); (repeat (first | simp only [List.set_cons_succ] | simp only [List.set_cons_zero])))
            refine wpAnyH_done (by kernel_rfl) ?_ _
            go_wp2_with fail
            go_meet
            exact HE.out
          · go_simp
            have EN61 := Lib.hid (Em.new H1.out)
            have H61 := Lib.hid H1.out.alloc
            have EO61 := Lib.hid EO1.out.alloc
            have hne : gO ≠ w1.heap.size := EO1.out.ne.symm
            generalize w1.heap.size = gN at *
            generalize w1.alloc (.cells #[] 5) = w61 at *
            refine hK _ _ trivial (fun _ => ?_)
            clear hK K
            ((try simp only [Act.put]); (try simp only [List.setIfInBounds_toArray]); (repeat (first | simp only [List.set_cons_succ] | simp only [List.set_cons_zero])))
            refine wpAnyH_ready (rs := [3]) (by kernel_rfl) (by simp) ?_
            refine (AllReadyH.cons rfl (fun K hK => ?_) AllReadyH.nil)
            rw [if_pos (by rfl)]
            refine Cp.app H61.out EO61.out (.tmp 3) (.tmp 5) rfl i0 Try.underlying25 hi hz0 hz1 hz2 rfl rfl HA.out.lo HA.out.bo HA.out.ao hs.1 ?_
            intro A2 m2 c2 w62 hh62 hd62 hg62
            have H62 := Lib.hid hh62
            have DO62 := Lib.hid hd62
            have EN62 := Lib.hid (EN61.out.grown hg62 (Ne.symm hne))
            clear hh62 hd62 hg62
            refine hK _ _ trivial (fun _ => ?_)
            clear hK K
            ((try simp only [Act.put]); (try simp only [List.setIfInBounds_toArray]); (repeat (first | simp only [List.set_cons_succ] | simp only [List.set_cons_zero])))
            refine wpAnyH_take (i := 8) (oi := ⟨some 11, _, _, _, _, _⟩) (v := ?v8e63) rfl (by kernel_rfl) (by kernel_rfl) (by kernel_rfl) (fun _ _ _ h => h) (Or.inl ⟨by rfl, ?y8e63⟩) trivial ?r8e63
            case y8e63 =>
              rintro w' hSw
              go_simp
              try with_reducible rfl
            ((try simp only [Act.put]); (try simp only [List.setIfInBounds_toArray]); (repeat (first | simp only [List.set_cons_succ] | simp only [List.set_cons_zero])))
            refine wpAnyH_ready (rs := [7]) (by kernel_rfl) (by simp) ?_
            refine (AllReadyH.cons rfl (fun K hK => ?_) AllReadyH.nil)
            rw [if_pos (by rfl)]
            refine Cp.app H62.out EN62.out (.tmp 7) (.tmp 9) rfl i0 Try.underlying25 hi hz0 hz1 hz2 rfl rfl HA.out.ln HA.out.bn HA.out.an hs.2 ?_
            intro A3 m3 c3 w64 hh64 hd64 hg64
            have H64 := Lib.hid hh64
            have DN64 := Lib.hid hd64
            have DO64 := Lib.hid (DO62.out.far EN62.out.1 (fun v hv => by cases hv) hg64)
            clear hh64 hd64 hg64
            refine hK _ _ trivial (fun _ => ?_)
            clear hK K
            ((try simp only [Act.put]); (try simp only [List.setIfInBounds_toArray]); (repeat (first | simp only [List.set_cons_succ] | simp only [List.set_cons_zero])))
            refine wpAnyH_ready (rs := [9]) (by kernel_rfl) (by simp) ?_
            refine AllReadyH.cons rfl (fun K hK => ?_) AllReadyH.nil
            have hcl : w64.cell? ⟨w.heap.size, 6, none⟩ = some (.slice s.Ao s.no s.co) := H64.out.r1.cell 6
            have hfr := H64.out.r1.frozen 6
            go_simp
            have HX := Lib.hid (H64.out.set6 A2 m2 c2)
            have DX := Lib.hid (DO64.out.set H64.out 6 (.slice A2 m2 c2))
            have DY := Lib.hid (DN64.out.set H64.out 6 (.slice A2 m2 c2))
            generalize w64.setCell ⟨w.heap.size, 6, none⟩ (.slice A2 m2 c2) = wx at *
            clear hcl hfr
            refine hK _ _ trivial (fun _ => ?_)
            clear hK K
            ((try simp only [Act.put]); (try simp only [List.setIfInBounds_toArray]); (repeat (first | simp only [List.set_cons_succ] | simp only [List.set_cons_zero])))
            refine wpAnyH_take (i := 10) (oi := ⟨some 12, _, _, _, _, _⟩) (v := ?v10g65) rfl (by kernel_rfl) (by kernel_rfl) (by kernel_rfl) (fun _ _ _ h => h) (Or.inl ⟨by rfl, ?y10g65⟩) trivial ?r10g65
            case y10g65 =>
              rintro w' hSw
              go_simp
              try with_reducible rfl
            ((try simp only [Act.put]); (try simp only [List.setIfInBounds_toArray]); (repeat (first | simp only [List.set_cons_succ] | simp only [List.set_cons_zero])))
            refine wpAnyH_ready (rs := [11]) (by kernel_rfl) (by simp) ?_
            refine AllReadyH.cons rfl (fun K hK => ?_) AllReadyH.nil
            have hcl : wx.cell? ⟨w.heap.size, 7, none⟩ = some (.slice s.An s.nn s.cn) := HX.out.r1.cell 7
            have hfr := HX.out.r1.frozen 7
            go_simp
            have HE := Lib.hid (show Cpy w r (wx.setCell ⟨w.heap.size, 7, none⟩ (.slice A3 m3 c3)) from ⟨A2, m2, c2, A3, m3, c3, HX.out.set7 A3 m3 c3, DX.out.set HX.out 7 _, DY.out.set HX.out 7 _⟩)
            generalize wx.setCell ⟨w.heap.size, 7, none⟩ (.slice A3 m3 c3) = wy at *
            clear hcl hfr
            refine hK _ _ trivial (fun _ => ?_)
            clear hK K
            ((try simp only [Act.put]); (try simp only [List.setIfInBounds_toArray]); (repeat (first | simp only [List.set_cons_succ] | simp only [List.set_cons_zero])))
            refine wpAnyH_done (by kernel_rfl) ?_ _
            go_wp2_with fail
            go_meet
            exact HE.out
        · go_simp
          have EN66 := Lib.hid (Em.new H1.out)
          have H66 := Lib.hid H1.out.alloc
          have EO66 := Lib.hid EO1.out.alloc
          have hne : gO ≠ w1.heap.size := EO1.out.ne.symm
          generalize w1.heap.size = gN at *
          generalize w1.alloc (.cells #[] 5) = w66 at *
          refine hK _ _ trivial (fun _ => ?_)
          clear hK K
          ((try simp only [Act.put]); (try simp only [List.setIfInBounds_toArray]); (repeat (first | simp only [List.set_cons_succ] | simp only [List.set_cons_zero])))
          refine wpAnyH_ready (rs := [2]) (by kernel_rfl) (by simp) ?_
          refine (AllReadyH.cons rfl (fun K hK => ?_) AllReadyH.nil)
          have hcl : w66.cell? ⟨w.heap.size, 6, none⟩ = some (.slice s.Ao s.no s.co) := H66.out.r1.cell 6
          go_simp
          clear hcl
          refine hK _ _ trivial (fun _ => ?_)
          clear hK K
          ((try simp only [Act.put]); (try simp only [List.setIfInBounds_toArray]); (repeat (first | simp only [List.set_cons_succ] | simp only [List.set_cons_zero])))
          refine wpAnyH_ready (rs := [3]) (by kernel_rfl) (by simp) ?_
          refine (AllReadyH.cons rfl (fun K hK => ?_) AllReadyH.nil)
          rw [if_pos (by rfl)]
          refine Cp.app H66.out EO66.out (.tmp 3) (.tmp 5) rfl i0 Try.underlying25 hi hz0 hz1 hz2 rfl rfl HA.out.lo HA.out.bo HA.out.ao hs.1 ?_
          intro A2 m2 c2 w68 hh68 hd68 hg68
          have H68 := Lib.hid hh68
          have DO68 := Lib.hid hd68
          have EN68 := Lib.hid (EN66.out.grown hg68 (Ne.symm hne))
          clear hh68 hd68 hg68
          refine hK _ _ trivial (fun _ => ?_)
          clear hK K
          ((try simp only [Act.put]); (try simp only [List.setIfInBounds_toArray]); (repeat (first | simp only [List.set_cons_succ] | simp only [List.set_cons_zero])))
          refine wpAnyH_take (i := 8) (oi := ⟨some 11, _, _, _, _, _⟩) (v := ?v8e69) rfl (by kernel_rfl) (by kernel_rfl) (by kernel_rfl) (fun _ _ _ h => h) (Or.inl ⟨by rfl, ?y8e69⟩) trivial ?r8e69
          case y8e69 =>
            rintro w' hSw
            go_simp
            try with_reducible rfl
          ((try simp only [Act.put]); (try simp only [List.setIfInBounds_toArray]); (repeat (first | simp only [List.set_cons_succ] | simp only [List.set_cons_zero])))
          refine wpAnyH_ready (rs := [7]) (by kernel_rfl) (by simp) ?_
          refine (AllReadyH.cons rfl (fun K hK => ?_) AllReadyH.nil)
          rw [if_pos (by rfl)]
          refine Cp.app H68.out EN68.out (.tmp 7) (.tmp 9) rfl i0 Try.underlying25 hi hz0 hz1 hz2 rfl rfl HA.out.ln HA.out.bn HA.out.an hs.2 ?_
          intro A3 m3 c3 w70 hh70 hd70 hg70
          have H70 := Lib.hid hh70
          have DN70 := Lib.hid hd70
          have DO70 := Lib.hid (DO68.out.far EN68.out.1 (fun v hv => by cases hv) hg70)
          clear hh70 hd70 hg70
          refine hK _ _ trivial (fun _ => ?_)
          clear hK K
          ((try simp only [Act.put]); (try simp only [List.setIfInBounds_toArray]); (repeat (first | simp only [List.set_cons_succ] | simp only [List.set_cons_zero])))
          refine wpAnyH_ready (rs := [9]) (by kernel_rfl) (by simp) ?_
          refine AllReadyH.cons rfl (fun K hK => ?_) AllReadyH.nil
          have hcl : w70.cell? ⟨w.heap.size, 6, none⟩ = some (.slice s.Ao s.no s.co) := H70.out.r1.cell 6
          have hfr := H70.out.r1.frozen 6
          go_simp
          have HX := Lib.hid (H70.out.set6 A2 m2 c2)
          have DX := Lib.hid (DO70.out.set H70.out 6 (.slice A2 m2 c2))
          have DY := Lib.hid (DN70.out.set H70.out 6 (.slice A2 m2 c2))
          generalize w70.setCell ⟨w.heap.size, 6, none⟩ (.slice A2 m2 c2) = wx at *
          clear hcl hfr
          refine hK _ _ trivial (fun _ => ?_)
          clear hK K
          ((try simp only [Act.put]); (try simp only [List.setIfInBounds_toArray]); (repeat (first | simp only [List.set_cons_succ] | simp only [List.set_cons_zero])))
          refine wpAnyH_take (i := 10) (oi := ⟨some 12, _, _, _, _, _⟩) (v := ?v10g71) rfl (by kernel_rfl) (by kernel_rfl) (by kernel_rfl) (fun _ _ _ h => h) (Or.inl ⟨by rfl, ?y10g71⟩) trivial ?r10g71
          case y10g71 =>
            rintro w' hSw
            go_simp
            try with_reducible rfl
          ((try simp only [Act.put]); (try simp only [List.setIfInBounds_toArray]); (repeat (first | simp only [List.set_cons_succ] | simp only [List.set_cons_zero])))
          refine wpAnyH_ready (rs := [11]) (by kernel_rfl) (by simp) ?_
          refine AllReadyH.cons rfl (fun K hK => ?_) AllReadyH.nil
          have hcl : wx.cell? ⟨w.heap.size, 7, none⟩ = some (.slice s.An s.nn s.cn) := HX.out.r1.cell 7
          have hfr := HX.out.r1.frozen 7
          go_simp
          have HE := Lib.hid (show Cpy w r (wx.setCell ⟨w.heap.size, 7, none⟩ (.slice A3 m3 c3)) from ⟨A2, m2, c2, A3, m3, c3, HX.out.set7 A3 m3 c3, DX.out.set HX.out 7 _, DY.out.set HX.out 7 _⟩)
          generalize wx.setCell ⟨w.heap.size, 7, none⟩ (.slice A3 m3 c3) = wy at *
          clear hcl hfr
          refine hK _ _ trivial (fun _ => ?_)
          clear hK K
          ((try simp only [Act.put]); (try simp only [List.setIfInBounds_toArray]); (repeat (first | simp only [List.set_cons_succ] | simp only [List.set_cons_zero])))
          refine wpAnyH_done (by kernel_rfl) ?_ _
          go_wp2_with fail
          go_meet
          exact HE.out
    · have hcl : w1.cell? ⟨w.heap.size, 6, none⟩ = some (.slice s.Ao s.no s.co) := H.out.r1.cell 6
      go_simp
      clear hcl
      refine hK _ _ trivial (fun _ => ?_)
      clear hK K
      ((try simp only [Act.put]); (try simp only [List.setIfInBounds_toArray]); (repeat (first | simp only [List.set_cons_succ] | simp only [List.set_cons_zero])))
      refine wpAnyH_ready (rs := [0, 4, 6]) (by kernel_rfl) (by simp) ?_
      refine (AllReadyH.cons rfl (fun K hK => ?_) (AllReadyH.cons rfl (fun K hK => ?_) (AllReadyH.cons rfl (fun K hK => ?_) AllReadyH.nil)))
      · go_simp
        have EO73 := Lib.hid (Em.new H.out)
        have H73 := Lib.hid H.out.alloc
        generalize w1.heap.size = gO at *
        generalize w1.alloc (.cells #[] 5) = w73 at *
        refine hK _ _ trivial (fun _ => ?_)
        clear hK K
        ((try simp only [Act.put]); (try simp only [List.setIfInBounds_toArray]); (repeat (first | simp only [List.set_cons_succ] | simp only [List.set_cons_zero])))
        refine wpAnyH_ready (rs := [3, 4, 6]) (by kernel_rfl) (by simp) ?_
        refine (AllReadyH.cons rfl (fun K hK => ?_) (AllReadyH.cons rfl (fun K hK => ?_) (AllReadyH.cons rfl (fun K hK => ?_) AllReadyH.nil)))
        · rw [if_pos (by rfl)]
          refine Cp.app H73.out EO73.out (.tmp 3) (.tmp 5) rfl i0 Try.underlying25 hi hz0 hz1 hz2 rfl rfl HA.out.lo HA.out.bo HA.out.ao hs.1 ?_
          intro A2 m2 c2 w74 hh74 hd74 hg74
          have H74 := Lib.hid hh74
          have DO74 := Lib.hid hd74
          clear hh74 hd74 hg74
          refine hK _ _ trivial (fun _ => ?_)
          clear hK K
          ((try simp only [Act.put]); (try simp only [List.setIfInBounds_toArray]); (repeat (first | simp only [List.set_cons_succ] | simp only [List.set_cons_zero])))
          refine wpAnyH_ready (rs := [4, 6]) (by kernel_rfl) (by simp) ?_
          refine (AllReadyH.cons rfl (fun K hK => ?_) (AllReadyH.cons rfl (fun K hK => ?_) AllReadyH.nil))
          · go_simp
            have EN75 := Lib.hid (Em.new H74.out)
            have H75 := Lib.hid H74.out.alloc
            have DO75 := Lib.hid DO74.out.alloc
            generalize w74.heap.size = gN at *
            generalize w74.alloc (.cells #[] 5) = w75 at *
            refine hK _ _ trivial (fun _ => ?_)
            clear hK K
            ((try simp only [Act.put]); (try simp only [List.setIfInBounds_toArray]); (repeat (first | simp only [List.set_cons_succ] | simp only [List.set_cons_zero])))
            refine wpAnyH_ready (rs := [6]) (by kernel_rfl) (by simp) ?_
            refine (AllReadyH.cons rfl (fun K hK => ?_) AllReadyH.nil)
            have hcl : w75.cell? ⟨w.heap.size, 7, none⟩ = some (.slice s.An s.nn s.cn) := H75.out.r1.cell 7
            go_simp
            clear hcl
            refine hK _ _ trivial (fun _ => ?_)
            clear hK K
            ((try simp only [Act.put]); (try simp only [List.setIfInBounds_toArray]); (repeat (first | simp only [List.set_cons_succ] | simp only [List.set_cons_zero])))
            refine wpAnyH_take (i := 8) (oi := ⟨some 11, _, _, _, _, _⟩) (v := ?v8e77) rfl (by kernel_rfl) (by kernel_rfl) (by kernel_rfl) (fun _ _ _ h => h) (Or.inl ⟨by rfl, ?y8e77⟩) trivial ?r8e77
            case y8e77 =>
              rintro w' hSw
              go_simp
              try with_reducible rfl
            ((try simp only [Act.put]); (try simp only [List.setIfInBounds_toArray]); (repeat (first | simp only [List.set_cons_succ] | simp only [List.set_cons_zero])))
            refine wpAnyH_ready (rs := [7]) (by kernel_rfl) (by simp) ?_
            refine (AllReadyH.cons rfl (fun K hK => ?_) AllReadyH.nil)
            rw [if_pos (by rfl)]
            refine Cp.app H75.out EN75.out (.tmp 7) (.tmp 9) rfl i0 Try.underlying25 hi hz0 hz1 hz2 rfl rfl HA.out.ln HA.out.bn HA.out.an hs.2 ?_
            intro A3 m3 c3 w78 hh78 hd78 hg78
            have H78 := Lib.hid hh78
            have DN78 := Lib.hid hd78
            have DO78 := Lib.hid (DO75.out.far EN75.out.1 (fun v hv => by cases hv) hg78)
            clear hh78 hd78 hg78
            refine hK _ _ trivial (fun _ => ?_)
            clear hK K
            ((try simp only [Act.put]); (try simp only [List.setIfInBounds_toArray]); (repeat (first | simp only [List.set_cons_succ] | simp only [List.set_cons_zero])))
            refine wpAnyH_ready (rs := [9]) (by kernel_rfl) (by simp) ?_
            refine AllReadyH.cons rfl (fun K hK => ?_) AllReadyH.nil
            have hcl : w78.cell? ⟨w.heap.size, 6, none⟩ = some (.slice s.Ao s.no s.co) := H78.out.r1.cell 6
            have hfr := H78.out.r1.frozen 6
            go_simp
            have HX := Lib.hid (H78.out.set6 A2 m2 c2)
            have DX := Lib.hid (DO78.out.set H78.out 6 (.slice A2 m2 c2))
            have DY := Lib.hid (DN78.out.set H78.out 6 (.slice A2 m2 c2))
            generalize w78.setCell ⟨w.heap.size, 6, none⟩ (.slice A2 m2 c2) = wx at *
            clear hcl hfr
            refine hK _ _ trivial (fun _ => ?_)
            clear hK K
            ((try simp only [Act.put]); (try simp only [List.setIfInBounds_toArray]); (repeat (first | simp only [List.set_cons_succ] | simp only [List.set_cons_zero])))
            refine wpAnyH_take (i := 10) (oi := ⟨some 12, _, _, _, _, _⟩) (v := ?v10g79) rfl (by kernel_rfl) (by kernel_rfl) (by kernel_rfl) (fun _ _ _ h => h) (Or.inl ⟨by rfl, ?y10g79⟩) trivial ?r10g79
            case y10g79 =>
              rintro w' hSw
              go_simp
              try with_reducible rfl
            ((try simp only [Act.put]); (try simp only [List.setIfInBounds_toArray]); (repeat (first | simp only [List.set_cons_succ] | simp only [List.set_cons_zero])))
            refine wpAnyH_ready (rs := [11]) (by kernel_rfl) (by simp) ?_
            refine AllReadyH.cons rfl (fun K hK => ?_) AllReadyH.nil
            have hcl : wx.cell? ⟨w.heap.size, 7, none⟩ = some (.slice s.An s.nn s.cn) := HX.out.r1.cell 7
            have hfr := HX.out.r1.frozen 7
            go_simp
            have HE := Lib.hid (show Cpy w r (wx.setCell ⟨w.heap.size, 7, none⟩ (.slice A3 m3 c3)) from ⟨A2, m2, c2, A3, m3, c3, HX.out.set7 A3 m3 c3, DX.out.set HX.out 7 _, DY.out.set HX.out 7 _⟩)
            generalize wx.setCell ⟨w.heap.size, 7, none⟩ (.slice A3 m3 c3) = wy at *
            clear hcl hfr
            refine hK _ _ trivial (fun _ => ?_)
            clear hK K
            ((try simp only [Act.put]); (try simp only [List.setIfInBounds_toArray]); (repeat (first | simp only [List.set_cons_succ] | simp only [List.set_cons_zero])))
            refine wpAnyH_done (by kernel_rfl) ?_ _
            go_wp2_with fail
            go_meet
            exact HE.out
          · have hcl : w74.cell? ⟨w.heap.size, 7, none⟩ = some (.slice s.An s.nn s.cn) := H74.out.r1.cell 7
            go_simp
            clear hcl
            refine hK _ _ trivial (fun _ => ?_)
            clear hK K
            ((try simp only [Act.put]); (try simp only [List.setIfInBounds_toArray]); (repeat (first | simp only [List.set_cons_succ] | simp only [List.set_cons_zero])))
            refine wpAnyH_take (i := 8) (oi := ⟨some 11, _, _, _, _, _⟩) (v := ?v8e81) rfl (by kernel_rfl) (by kernel_rfl) (by kernel_rfl) (fun _ _ _ h => h) (Or.inl ⟨by rfl, ?y8e81⟩) trivial ?r8e81
            case y8e81 =>
              rintro w' hSw
              go_simp
              try with_reducible rfl
            ((try simp only [Act.put]); (try simp only [List.setIfInBounds_toArray]); (repeat (first | simp only [List.set_cons_succ] | simp only [List.set_cons_zero])))
            refine wpAnyH_ready (rs := [4]) (by kernel_rfl) (by simp) ?_
            refine (AllReadyH.cons rfl (fun K hK => ?_) AllReadyH.nil)
            go_simp
            have EN82 := Lib.hid (Em.new H74.out)
            have H82 := Lib.hid H74.out.alloc
            have DO82 := Lib.hid DO74.out.alloc
            generalize w74.heap.size = gN at *
            generalize w74.alloc (.cells #[] 5) = w82 at *
            refine hK _ _ trivial (fun _ => ?_)
            clear hK K
            ((try simp only [Act.put]); (try simp only [List.setIfInBounds_toArray]); (repeat (first | simp only [List.set_cons_succ] | simp only [List.set_cons_zero])))
            refine wpAnyH_ready (rs := [7]) (by kernel_rfl) (by simp) ?_
            refine (AllReadyH.cons rfl (fun K hK => ?_) AllReadyH.nil)
            rw [if_pos (by rfl)]
            refine Cp.app H82.out EN82.out (.tmp 7) (.tmp 9) rfl i0 Try.underlying25 hi hz0 hz1 hz2 rfl rfl HA.out.ln HA.out.bn HA.out.an hs.2 ?_
            intro A3 m3 c3 w83 hh83 hd83 hg83
            have H83 := Lib.hid hh83
            have DN83 := Lib.hid hd83
            have DO83 := Lib.hid (DO82.out.far EN82.out.1 (fun v hv => by cases hv) hg83)
            clear hh83 hd83 hg83
            refine hK _ _ trivial (fun _ => ?_)
            clear hK K
            ((try simp only [Act.put]); (try simp only [List.setIfInBounds_toArray]); (repeat (first | simp only [List.set_cons_succ] | simp only [List.set_cons_zero])))
            refine wpAnyH_ready (rs := [9]) (by kernel_rfl) (by simp) ?_
            refine AllReadyH.cons rfl (fun K hK => ?_) AllReadyH.nil
            have hcl : w83.cell? ⟨w.heap.size, 6, none⟩ = some (.slice s.Ao s.no s.co) := H83.out.r1.cell 6
            have hfr := H83.out.r1.frozen 6
            go_simp
            have HX := Lib.hid (H83.out.set6 A2 m2 c2)
            have DX := Lib.hid (DO83.out.set H83.out 6 (.slice A2 m2 c2))
            have DY := Lib.hid (DN83.out.set H83.out 6 (.slice A2 m2 c2))
            generalize w83.setCell ⟨w.heap.size, 6, none⟩ (.slice A2 m2 c2) = wx at *
            clear hcl hfr
            refine hK _ _ trivial (fun _ => ?_)
            clear hK K
            ((try simp only [Act.put]); (try simp only [List.setIfInBounds_toArray]); (repeat (first | simp only [List.set_cons_succ] | simp only [List.set_cons_zero])))
            refine wpAnyH_take (i := 10) (oi := ⟨some 12, _, _, _, _, _⟩) (v := ?v10g84) rfl (by kernel_rfl) (by kernel_rfl) (by kernel_rfl) (fun _ _ _ h => h) (Or.inl ⟨by rfl, ?y10g84⟩) trivial ?r10g84
            case y10g84 =>
              rintro w' hSw
              go_simp
              try with_reducible rfl
            ((try simp only [Act.put]); (try simp only [List.setIfInBounds_toArray]); (repeat (first | simp only [List.set_cons_succ] | simp only [List.set_cons_zero])))
            refine wpAnyH_ready (rs := [11]) (by kernel_rfl) (by simp) ?_
            refine AllReadyH.cons rfl (fun K hK => ?_) AllReadyH.nil
            have hcl : wx.cell? ⟨w.heap.size, 7, none⟩ = some (.slice s.An s.nn s.cn) := HX.out.r1.cell 7
            have hfr := HX.out.r1.frozen 7
            go_simp
            have HE := Lib.hid (show Cpy w r (wx.setCell ⟨w.heap.size, 7, none⟩ (.slice A3 m3 c3)) from ⟨A2, m2, c2, A3, m3, c3, HX.out.set7 A3 m3 c3, DX.out.set HX.out 7 _, DY.out.set HX.out 7 _⟩)
            generalize wx.setCell ⟨w.heap.size, 7, none⟩ (.slice A3 m3 c3) = wy at *
            clear hcl hfr
            refine hK _ _ trivial (fun _ => ?_)
            clear hK K
            ((try simp only [Act.put]); (try simp only [List.setIfInBounds_toArray]); (repeat (first | simp only [List.set_cons_succ] | simp only [List.set_cons_zero])))
            refine wpAnyH_done (by kernel_rfl) ?_ _
            go_wp2_with fail
            go_meet
            exact HE.out
        · go_simp
          have EN85 := Lib.hid (Em.new H73.out)
          have H85 := Lib.hid H73.out.alloc
          have EO85 := Lib.hid EO73.out.alloc
          have hne : gO ≠ w73.heap.size := EO73.out.ne.symm
          generalize w73.heap.size = gN at *
          generalize w73.alloc (.cells #[] 5) = w85 at *
          refine hK _ _ trivial (fun _ => ?_)
          clear hK K
          ((try simp only [Act.put]); (try simp only [List.setIfInBounds_toArray]); (repeat (first | simp only [List.set_cons_succ] | simp only [List.set_cons_zero])))
          refine wpAnyH_ready (rs := [3, 6]) (by kernel_rfl) (by simp) ?_
          refine (AllReadyH.cons rfl (fun K hK => ?_) (AllReadyH.cons rfl (fun K hK => ?_) AllReadyH.nil))
          · rw [if_pos (by rfl)]
            refine Cp.app H85.out EO85.out (.tmp 3) (.tmp 5) rfl i0 Try.underlying25 hi hz0 hz1 hz2 rfl rfl HA.out.lo HA.out.bo HA.out.ao hs.1 ?_
            intro A2 m2 c2 w86 hh86 hd86 hg86
            have H86 := Lib.hid hh86
            have DO86 := Lib.hid hd86
            have EN86 := Lib.hid (EN85.out.grown hg86 (Ne.symm hne))
            clear hh86 hd86 hg86
            refine hK _ _ trivial (fun _ => ?_)
            clear hK K
            ((try simp only [Act.put]); (try simp only [List.setIfInBounds_toArray]); (repeat (first | simp only [List.set_cons_succ] | simp only [List.set_cons_zero])))
            refine wpAnyH_ready (rs := [6]) (by kernel_rfl) (by simp) ?_
            refine (AllReadyH.cons rfl (fun K hK => ?_) AllReadyH.nil)
            have hcl : w86.cell? ⟨w.heap.size, 7, none⟩ = some (.slice s.An s.nn s.cn) := H86.out.r1.cell 7
            go_simp
            clear hcl
            refine hK _ _ trivial (fun _ => ?_)
            clear hK K
            ((try simp only [Act.put]); (try simp only [List.setIfInBounds_toArray]); (repeat (first | simp only [List.set_cons_succ] | simp only [List.set_cons_zero])))
            refine wpAnyH_take (i := 8) (oi := ⟨some 11, _, _, _, _, _⟩) (v := ?v8e88) rfl (by kernel_rfl) (by kernel_rfl) (by kernel_rfl) (fun _ _ _ h => h) (Or.inl ⟨by rfl, ?y8e88⟩) trivial ?r8e88
            case y8e88 =>
              rintro w' hSw
              go_simp
              try with_reducible rfl
            ((try simp only [Act.put]); (try simp only [List.setIfInBounds_toArray]); (repeat (first | simp only [List.set_cons_succ] | simp only [List.set_cons_zero])))
            refine wpAnyH_ready (rs := [7]) (by kernel_rfl) (by simp) ?_
            refine (AllReadyH.cons rfl (fun K hK => ?_) AllReadyH.nil)
            rw [if_pos (by rfl)]
            refine Cp.app H86.out EN86.out (.tmp 7) (.tmp 9) rfl i0 Try.underlying25 hi hz0 hz1 hz2 rfl rfl HA.out.ln HA.out.bn HA.out.an hs.2 ?_
            intro A3 m3 c3 w89 hh89 hd89 hg89
            have H89 := Lib.hid hh89
            have DN89 := Lib.hid hd89
            have DO89 := Lib.hid (DO86.out.far EN86.out.1 (fun v hv => by cases hv) hg89)
            clear hh89 hd89 hg89
            refine hK _ _ trivial (fun _ => ?_)
            clear hK K
            ((try simp only [Act.put]); (try simp only [List.setIfInBounds_toArray]); (repeat (first | simp only [List.set_cons_succ] | simp only [List.set_cons_zero])))
            refine wpAnyH_ready (rs := [9]) (by kernel_rfl) (by simp) ?_
            refine AllReadyH.cons rfl (fun K hK => ?_) AllReadyH.nil
            have hcl : w89.cell? ⟨w.heap.size, 6, none⟩ = some (.slice s.Ao s.no s.co) := H89.out.r1.cell 6
            have hfr := H89.out.r1.frozen 6
            go_simp
            have HX := Lib.hid (H89.out.set6 A2 m2 c2)
            have DX := Lib.hid (DO89.out.set H89.out 6 (.slice A2 m2 c2))
            have DY := Lib.hid (DN89.out.set H89.out 6 (.slice A2 m2 c2))
            generalize w89.setCell ⟨w.heap.size, 6, none⟩ (.slice A2 m2 c2) = wx at *
            clear hcl hfr
            refine hK _ _ trivial (fun _ => ?_)
            clear hK K
            ((try simp only [Act.put]); (try simp only [List.setIfInBounds_toArray]); (repeat (first | simp only [List.set_cons_succ] | simp only [List.set_cons_zero])))
            refine wpAnyH_take (i := 10) (oi := ⟨some 12, _, _, _, _, _⟩) (v := ?v10g90) rfl (by kernel_rfl) (by kernel_rfl) (by kernel_rfl) (fun _ _ _ h => h) (Or.inl ⟨by rfl, ?y10g90⟩) trivial ?r10g90
            case y10g90 =>
              rintro w' hSw
              go_simp
              try with_reducible rfl
            ((try simp only [Act.put]); (try simp only [List.setIfInBounds_toArray]); (repeat (first | simp only [List.set_cons_succ] | simp only [List.set_cons_zero])))
            refine wpAnyH_ready (rs := [11]) (by kernel_rfl) (by simp) ?_
            refine AllReadyH.cons rfl (fun K hK => ?_) AllReadyH.nil
            have hcl : wx.cell? ⟨w.heap.size, 7, none⟩ = some (.slice s.An s.nn s.cn) := HX.out.r1.cell 7
            have hfr := HX.out.r1.frozen 7
            go_simp
            have HE := Lib.hid (show Cpy w r (wx.setCell ⟨w.heap.size, 7, none⟩ (.slice A3 m3 c3)) from ⟨A2, m2, c2, A3, m3, c3, HX.out.set7 A3 m3 c3, DX.out.set HX.out 7 _, DY.out.set HX.out 7 _⟩)
            generalize wx.setCell ⟨w.heap.size, 7, none⟩ (.slice A3 m3 c3) = wy at *
            clear hcl hfr
            refine hK _ _ trivial (fun _ => ?_)
            clear hK K
            ((try simp only [Act.put]); (try simp only [List.setIfInBounds_toArray]); (repeat (first | simp only [List.set_cons_succ] | simp only [List.set_cons_zero])))
            refine wpAnyH_done (by kernel_rfl) ?_ _
            go_wp2_with fail
            go_meet
            exact HE.out
          · have hcl : w85.cell? ⟨w.heap.size, 7, none⟩ = some (.slice s.An s.nn s.cn) := H85.out.r1.cell 7
            go_simp
            clear hcl
            refine hK _ _ trivial (fun _ => ?_)
            clear hK K
            ((try simp only [Act.put]); (try simp only [List.setIfInBounds_toArray]); (repeat (first | simp only [List.set_cons_succ] | simp only [List.set_cons_zero])))
            refine wpAnyH_ready (rs := [3]) (by kernel_rfl) (by simp) ?_
            refine (AllReadyH.cons rfl (fun K hK => ?_) AllReadyH.nil)
            rw [if_pos (by rfl)]
            refine Cp.app H85.out EO85.out (.tmp 3) (.tmp 5) rfl i0 Try.underlying25 hi hz0 hz1 hz2 rfl rfl HA.out.lo HA.out.bo HA.out.ao hs.1 ?_
            intro A2 m2 c2 w92 hh92 hd92 hg92
            have H92 := Lib.hid hh92
            have DO92 := Lib.hid hd92
            have EN92 := Lib.hid (EN85.out.grown hg92 (Ne.symm hne))
            clear hh92 hd92 hg92
            refine hK _ _ trivial (fun _ => ?_)
            clear hK K
            ((try simp only [Act.put]); (try simp only [List.setIfInBounds_toArray]); (repeat (first | simp only [List.set_cons_succ] | simp only [List.set_cons_zero])))
            refine wpAnyH_take (i := 8) (oi := ⟨some 11, _, _, _, _, _⟩) (v := ?v8e93) rfl (by kernel_rfl) (by kernel_rfl) (by kernel_rfl) (fun _ _ _ h => h) (Or.inl ⟨by rfl, ?y8e93⟩) trivial ?r8e93
            case y8e93 =>
              rintro w' hSw
              go_simp
              try with_reducible rfl
            ((try simp only [Act.put]); (try simp only [List.setIfInBounds_toArray]); (repeat (first | simp only [List.set_cons_succ] | simp only [List.set_cons_zero])))
            refine wpAnyH_ready (rs := [7]) (by kernel_rfl) (by simp) ?_
            refine (AllReadyH.cons rfl (fun K hK => ?_) AllReadyH.nil)
            rw [if_pos (by rfl)]
            refine Cp.app H92.out EN92.out (.tmp 7) (.tmp 9) rfl i0 Try.underlying25 hi hz0 hz1 hz2 rfl rfl HA.out.ln HA.out.bn HA.out.an hs.2 ?_
            intro A3 m3 c3 w94 hh94 hd94 hg94
            have H94 := Lib.hid hh94
            have DN94 := Lib.hid hd94
            have DO94 := Lib.hid (DO92.out.far EN92.out.1 (fun v hv => by cases hv) hg94)
            clear hh94 hd94 hg94
            refine hK _ _ trivial (fun _ => ?_)
            clear hK K
            ((try simp only [Act.put]); (try simp only [List.setIfInBounds_toArray]); (repeat (first | simp only [List.set_cons_succ] | simp only [List.set_cons_zero])))
            refine wpAnyH_ready (rs := [9]) (by kernel_rfl) (by simp) ?_
            refine AllReadyH.cons rfl (fun K hK => ?_) AllReadyH.nil
            have hcl : w94.cell? ⟨w.heap.size, 6, none⟩ = some (.slice s.Ao s.no s.co) := H94.out.r1.cell 6
            have hfr := H94.out.r1.frozen 6
            go_simp
            have HX := Lib.hid (H94.out.set6 A2 m2 c2)
            have DX := Lib.hid (DO94.out.set H94.out 6 (.slice A2 m2 c2))
            have DY := Lib.hid (DN94.out.set H94.out 6 (.slice A2 m2 c2))
            generalize w94.setCell ⟨w.heap.size, 6, none⟩ (.slice A2 m2 c2) = wx at *
            clear hcl hfr
            refine hK _ _ trivial (fun _ => ?_)
            clear hK K
            ((try simp only [Act.put]); (try simp only [List.setIfInBounds_toArray]); (repeat (first | simp only [List.set_cons_succ] | simp only [List.set_cons_zero])))
            refine wpAnyH_take (i := 10) (oi := ⟨some 12, _, _, _, _, _⟩) (v := ?v10g95) rfl (by kernel_rfl) (by kernel_rfl) (by kernel_rfl) (fun _ _ _ h => h) (Or.inl ⟨by rfl, ?y10g95⟩) trivial ?r10g95
            case y10g95 =>
              rintro w' hSw
              go_simp
              try with_reducible rfl
            ((try simp only [Act.put]); (try simp only [List.setIfInBounds_toArray]); (repeat (first | simp only [List.set_cons_succ] | simp only [List.set_cons_zero])))
            refine wpAnyH_ready (rs := [11]) (by kernel_rfl) (by simp) ?_
            refine AllReadyH.cons rfl (fun K hK => ?_) AllReadyH.nil
            have hcl : wx.cell? ⟨w.heap.size, 7, none⟩ = some (.slice s.An s.nn s.cn) := HX.out.r1.cell 7
            have hfr := HX.out.r1.frozen 7
            go_simp
            have HE := Lib.hid (show Cpy w r (wx.setCell ⟨w.heap.size, 7, none⟩ (.slice A3 m3 c3)) from ⟨A2, m2, c2, A3, m3, c3, HX.out.set7 A3 m3 c3, DX.out.set HX.out 7 _, DY.out.set HX.out 7 _⟩)
            generalize wx.setCell ⟨w.heap.size, 7, none⟩ (.slice A3 m3 c3) = wy at *
            clear hcl hfr
            refine hK _ _ trivial (fun _ => ?_)
            clear hK K
            ((try simp only [Act.put]); (try simp only [List.setIfInBounds_toArray]); (repeat (first | simp only [List.set_cons_succ] | simp only [List.set_cons_zero])))
            refine wpAnyH_done (by kernel_rfl) ?_ _
            go_wp2_with fail
            go_meet
            exact HE.out
        · have hcl : w73.cell? ⟨w.heap.size, 7, none⟩ = some (.slice s.An s.nn s.cn) := H73.out.r1.cell 7
          go_simp
          clear hcl
          refine hK _ _ trivial (fun _ => ?_)
          clear hK K
          ((try simp only [Act.put]); (try simp only [List.setIfInBounds_toArray]); (repeat (first | simp only [List.set_cons_succ] | simp only [List.set_cons_zero])))
          refine wpAnyH_ready (rs := [3, 4]) (by kernel_rfl) (by simp) ?_
          refine (AllReadyH.cons rfl (fun K hK => ?_) (AllReadyH.cons rfl (fun K hK => ?_) AllReadyH.nil))
          · rw [if_pos (by rfl)]
            refine Cp.app H73.out EO73.out (.tmp 3) (.tmp 5) rfl i0 Try.underlying25 hi hz0 hz1 hz2 rfl rfl HA.out.lo HA.out.bo HA.out.ao hs.1 ?_
            intro A2 m2 c2 w97 hh97 hd97 hg97
            have H97 := Lib.hid hh97
            have DO97 := Lib.hid hd97
            clear hh97 hd97 hg97
            refine hK _ _ trivial (fun _ => ?_)
            clear hK K
            ((try simp only [Act.put]); (try simp only [List.setIfInBounds_toArray]); (repeat (first | simp only [List.set_cons_succ] | simp only [List.set_cons_zero])))
            refine wpAnyH_take (i := 8) (oi := ⟨some 11, _, _, _, _, _⟩) (v := ?v8e98) rfl (by kernel_rfl) (by kernel_rfl) (by kernel_rfl) (fun _ _ _ h => h) (Or.inl ⟨by rfl, ?y8e98⟩) trivial ?r8e98
            case y8e98 =>
              rintro w' hSw
              go_simp
              try with_reducible rfl
            ((try simp only [Act.put]); (try simp only [List.setIfInBounds_toArray]); (repeat (first | simp only [List.set_cons_succ] | simp only [List.set_cons_zero])))
            refine wpAnyH_ready (rs := [4]) (by kernel_rfl) (by simp) ?_
            refine (AllReadyH.cons rfl (fun K hK => ?_) AllReadyH.nil)
            go_simp
            have EN99 := Lib.hid (Em.new H97.out)
            have H99 := Lib.hid H97.out.alloc
            have DO99 := Lib.hid DO97.out.alloc
            generalize w97.heap.size = gN at *
            generalize w97.alloc (.cells #[] 5) = w99 at *
            refine hK _ _ trivial (fun _ => ?_)
            clear hK K
            ((try simp only [Act.put]); (try simp only [List.setIfInBounds_toArray]); (repeat (first | simp only [List.set_cons_succ] | simp only [List.set_cons_zero])))
            refine wpAnyH_ready (rs := [7]) (by kernel_rfl) (by simp) ?_
            refine (AllReadyH.cons rfl (fun K hK => ?_) AllReadyH.nil)
            rw [if_pos (by rfl)]
            refine Cp.app H99.out EN99.out (.tmp 7) (.tmp 9) rfl i0 Try.underlying25 hi hz0 hz1 hz2 rfl rfl HA.out.ln HA.out.bn HA.out.an hs.2 ?_
            intro A3 m3 c3 w100 hh100 hd100 hg100
            have H100 := Lib.hid hh100
            have DN100 := Lib.hid hd100
            have DO100 := Lib.hid (DO99.out.far EN99.out.1 (fun v hv => by cases hv) hg100)
            clear hh100 hd100 hg100
            refine hK _ _ trivial (fun _ => ?_)
            clear hK K
            ((try simp only [Act.put]); (try simp only [List.setIfInBounds_toArray]); (repeat (first | simp only [List.set_cons_succ] | simp only [List.set_cons_zero])))
            refine wpAnyH_ready (rs := [9]) (by kernel_rfl) (by simp) ?_
            refine AllReadyH.cons rfl (fun K hK => ?_) AllReadyH.nil
            have hcl : w100.cell? ⟨w.heap.size, 6, none⟩ = some (.slice s.Ao s.no s.co) := H100.out.r1.cell 6
            have hfr := H100.out.r1.frozen 6
            go_simp
            have HX := Lib.hid (H100.out.set6 A2 m2 c2)
            have DX := Lib.hid (DO100.out.set H100.out 6 (.slice A2 m2 c2))
            have DY := Lib.hid (DN100.out.set H100.out 6 (.slice A2 m2 c2))
            generalize w100.setCell ⟨w.heap.size, 6, none⟩ (.slice A2 m2 c2) = wx at *
            clear hcl hfr
            refine hK _ _ trivial (fun _ => ?_)
            clear hK K
            ((try simp only [Act.put]); (try simp only [List.setIfInBounds_toArray]); (repeat (first | simp only [List.set_cons_succ] | simp only [List.set_cons_zero])))
            refine wpAnyH_take (i := 10) (oi := ⟨some 12, _, _, _, _, _⟩) (v := ?v10g101) rfl (by kernel_rfl) (by kernel_rfl) (by kernel_rfl) (fun _ _ _ h => h) (Or.inl ⟨by rfl, ?y10g101⟩) trivial ?r10g101
            case y10g101 =>
              rintro w' hSw
              go_simp
              try with_reducible rfl
            ((try simp only [Act.put]); (try simp only [List.setIfInBounds_toArray]); (repeat (first | simp only [List.set_cons_succ] | simp only [List.set_cons_zero])))
            refine wpAnyH_ready (rs := [11]) (by kernel_rfl) (by simp) ?_
            refine AllReadyH.cons rfl (fun K hK => ?_) AllReadyH.nil
            have hcl : wx.cell? ⟨w.heap.size, 7, none⟩ = some (.slice s.An s.nn s.cn) := HX.out.r1.cell 7
            have hfr := HX.out.r1.frozen 7
            go_simp
            have HE := Lib.hid (show Cpy w r (wx.setCell ⟨w.heap.size, 7, none⟩ (.slice A3 m3 c3)) from ⟨A2, m2, c2, A3, m3, c3, HX.out.set7 A3 m3 c3, DX.out.set HX.out 7 _, DY.out.set HX.out 7 _⟩)
            generalize wx.setCell ⟨w.heap.size, 7, none⟩ (.slice A3 m3 c3) = wy at *
            clear hcl hfr
            refine hK _ _ trivial (fun _ => ?_)
            clear hK K
            ((try simp only [Act.put]); (try simp only [List.setIfInBounds_toArray]); (repeat (first | simp only [List.set_cons_succ] | simp only [List.set_cons_zero])))
            refine wpAnyH_done (by kernel_rfl) ?_ _
            go_wp2_with fail
            go_meet
            exact HE.out
          · go_simp
            have EN102 := Lib.hid (Em.new H73.out)
            have H102 := Lib.hid H73.out.alloc
            have EO102 := Lib.hid EO73.out.alloc
            have hne : gO ≠ w73.heap.size := EO73.out.ne.symm
            generalize w73.heap.size = gN at *
            generalize w73.alloc (.cells #[] 5) = w102 at *
            refine hK _ _ trivial (fun _ => ?_)
            clear hK K
            ((try simp only [Act.put]); (try simp only [List.setIfInBounds_toArray]); (repeat (first | simp only [List.set_cons_succ] | simp only [List.set_cons_zero])))
            refine wpAnyH_ready (rs := [3]) (by kernel_rfl) (by simp) ?_
            refine (AllReadyH.cons rfl (fun K hK => ?_) AllReadyH.nil)
            rw [if_pos (by rfl)]
            refine Cp.app H102.out EO102.out (.tmp 3) (.tmp 5) rfl i0 Try.underlying25 hi hz0 hz1 hz2 rfl rfl HA.out.lo HA.out.bo HA.out.ao hs.1 ?_
            intro A2 m2 c2 w103 hh103 hd103 hg103
            have H103 := Lib.hid hh103
            have DO103 := Lib.hid hd103
            have EN103 := Lib.hid (EN102.out.grown hg103 (Ne.symm hne))
            clear hh103 hd103 hg103
            refine hK _ _ trivial (fun _ => ?_)
            clear hK K
            ((try simp only [Act.put]); (try simp only [List.setIfInBounds_toArray]); (repeat (first | simp only [List.set_cons_succ] | simp only [List.set_cons_zero])))
            refine wpAnyH_take (i := 8) (oi := ⟨some 11, _, _, _, _, _⟩) (v := ?v8e104) rfl (by kernel_rfl) (by kernel_rfl) (by kernel_rfl) (fun _ _ _ h => h) (Or.inl ⟨by rfl, ?y8e104⟩) trivial ?r8e104
            case y8e104 =>
              rintro w' hSw
              go_simp
              try with_reducible rfl
            ((try simp only [Act.put]); (try simp only [List.setIfInBounds_toArray]); (repeat (first | simp only [List.set_cons_succ] | simp only [List.set_cons_zero])))
            refine wpAnyH_ready (rs := [7]) (by kernel_rfl) (by simp) ?_
            refine (AllReadyH.cons rfl (fun K hK => ?_) AllReadyH.nil)
            rw [if_pos (by rfl)]
            refine Cp.app H103.out EN103.out (.tmp 7) (.tmp 9) rfl i0 Try.underlying25 hi hz0 hz1 hz2 rfl rfl HA.out.ln HA.out.bn HA.out.an hs.2 ?_
            intro A3 m3 c3 w105 hh105 hd105 hg105
            have H105 := Lib.hid hh105
            have DN105 := Lib.hid hd105
            have DO105 := Lib.hid (DO103.out.far EN103.out.1 (fun v hv => by cases hv) hg105)
            clear hh105 hd105 hg105
            refine hK _ _ trivial (fun _ => ?_)
            clear hK K
            ((try simp only [Act.put]); (try simp only [List.setIfInBounds_toArray]); (repeat (first | simp only [List.set_cons_succ] | simp only [List.set_cons_zero])))
            refine wpAnyH_ready (rs := [9]) (by kernel_rfl) (by simp) ?_
            refine AllReadyH.cons rfl (fun K hK => ?_) AllReadyH.nil
            have hcl : w105.cell? ⟨w.heap.size, 6, none⟩ = some (.slice s.Ao s.no s.co) := H105.out.r1.cell 6
            have hfr := H105.out.r1.frozen 6
            go_simp
            have HX := Lib.hid (H105.out.set6 A2 m2 c2)
            have DX := Lib.hid (DO105.out.set H105.out 6 (.slice A2 m2 c2))
            have DY := Lib.hid (DN105.out.set H105.out 6 (.slice A2 m2 c2))
            generalize w105.setCell ⟨w.heap.size, 6, none⟩ (.slice A2 m2 c2) = wx at *
            clear hcl hfr
            refine hK _ _ trivial (fun _ => ?_)
            clear hK K
            ((try simp only [Act.put]); (try simp only [List.setIfInBounds_toArray]); (repeat (first | simp only [List.set_cons_succ] | simp only [List.set_cons_zero])))
            refine wpAnyH_take (i := 10) (oi := ⟨some 12, _, _, _, _, _⟩) (v := ?v10g106) rfl (by kernel_rfl) (by kernel_rfl) (by kernel_rfl) (fun _ _ _ h => h) (Or.inl ⟨by rfl, ?y10g106⟩) trivial ?r10g106
            case y10g106 =>
              rintro w' hSw
              go_simp
              try with_reducible rfl
            ((try simp only [Act.put]); (try simp only [List.setIfInBounds_toArray]); (repeat (first | simp only [List.set_cons_succ] | simp only [List.set_cons_zero])))
            refine wpAnyH_ready (rs := [11]) (by kernel_rfl) (by simp) ?_
            refine AllReadyH.cons rfl (fun K hK => ?_) AllReadyH.nil
            have hcl : wx.cell? ⟨w.heap.size, 7, none⟩ = some (.slice s.An s.nn s.cn) := HX.out.r1.cell 7
            have hfr := HX.out.r1.frozen 7
            go_simp
            have HE := Lib.hid (show Cpy w r (wx.setCell ⟨w.heap.size, 7, none⟩ (.slice A3 m3 c3)) from ⟨A2, m2, c2, A3, m3, c3, HX.out.set7 A3 m3 c3, DX.out.set HX.out 7 _, DY.out.set HX.out 7 _⟩)
            generalize wx.setCell ⟨w.heap.size, 7, none⟩ (.slice A3 m3 c3) = wy at *
            clear hcl hfr
            refine hK _ _ trivial (fun _ => ?_)
            clear hK K
            ((try simp only [Act.put]); (try simp only [List.setIfInBounds_toArray]); (repeat (first | simp only [List.set_cons_succ] | simp only [List.set_cons_zero])))
            refine wpAnyH_done (by kernel_rfl) ?_ _
            go_wp2_with fail
            go_meet
            exact HE.out
      · go_simp
        have EN107 := Lib.hid (Em.new H.out)
        have H107 := Lib.hid H.out.alloc
        generalize w1.heap.size = gN at *
        generalize w1.alloc (.cells #[] 5) = w107 at *
        refine hK _ _ trivial (fun _ => ?_)
        clear hK K
        ((try simp only [Act.put]); (try simp only [List.setIfInBounds_toArray]); (repeat (first | simp only [List.set_cons_succ] | simp only [List.set_cons_zero])))
        refine wpAnyH_ready (rs := [0, 6]) (by kernel_rfl) (by simp) ?_
        refine (AllReadyH.cons rfl (fun K hK => ?_) (AllReadyH.cons rfl (fun K hK => ?_) AllReadyH.nil))
        · go_simp
          have EO108 := Lib.hid (Em.new H107.out)
          have H108 := Lib.hid H107.out.alloc
          have EN108 := Lib.hid EN107.out.alloc
          have hne : w107.heap.size ≠ gN := EN107.out.ne
          generalize w107.heap.size = gO at *
          generalize w107.alloc (.cells #[] 5) = w108 at *
          refine hK _ _ trivial (fun _ => ?_)
          clear hK K
          ((try simp only [Act.put]); (try simp only [List.setIfInBounds_toArray]); (repeat (first | simp only [List.set_cons_succ] | simp only [List.set_cons_zero])))
          refine wpAnyH_ready (rs := [3, 6]) (by kernel_rfl) (by simp) ?_
          refine (AllReadyH.cons rfl (fun K hK => ?_) (AllReadyH.cons rfl (fun K hK => ?_) AllReadyH.nil))
          · rw [if_pos (by rfl)]
            refine Cp.app H108.out EO108.out (.tmp 3) (.tmp 5) rfl i0 Try.underlying25 hi hz0 hz1 hz2 rfl rfl HA.out.lo HA.out.bo HA.out.ao hs.1 ?_
            intro A2 m2 c2 w109 hh109 hd109 hg109
            have H109 := Lib.hid hh109
            have DO109 := Lib.hid hd109
            have EN109 := Lib.hid (EN108.out.grown hg109 (Ne.symm hne))
            clear hh109 hd109 hg109
            refine hK _ _ trivial (fun _ => ?_)
            clear hK K
            ((try simp only [Act.put]); (try simp only [List.setIfInBounds_toArray]); (repeat (first | simp only [List.set_cons_succ] | simp only [List.set_cons_zero])))
            refine wpAnyH_ready (rs := [6]) (by kernel_rfl) (by simp) ?_
            refine (AllReadyH.cons rfl (fun K hK => ?_) AllReadyH.nil)
            have hcl : w109.cell? ⟨w.heap.size, 7, none⟩ = some (.slice s.An s.nn s.cn) := H109.out.r1.cell 7
            go_simp
            clear hcl
            refine hK _ _ trivial (fun _ => ?_)
            clear hK K
            ((try simp only [Act.put]); (try simp only [List.setIfInBounds_toArray]); (repeat (first | simp only [List.set_cons_succ] | simp only [List.set_cons_zero])))
            refine wpAnyH_take (i := 8) (oi := ⟨some 11, _, _, _, _, _⟩) (v := ?v8e111) rfl (by kernel_rfl) (by kernel_rfl) (by kernel_rfl) (fun _ _ _ h => h) (Or.inl ⟨by rfl, ?y8e111⟩) trivial ?r8e111
            case y8e111 =>
              rintro w' hSw
              go_simp
              try with_reducible rfl
            ((try simp only [Act.put]); (try simp only [List.setIfInBounds_toArray]); (repeat (first | simp only [List.set_cons_succ] | simp only [List.set_cons_zero])))
            refine wpAnyH_ready (rs := [7]) (by kernel_rfl) (by simp) ?_
            refine (AllReadyH.cons rfl (fun K hK => ?_) AllReadyH.nil)
            rw [if_pos (by rfl)]
            refine Cp.app H109.out EN109.out (.tmp 7) (.tmp 9) rfl i0 Try.underlying25 hi hz0 hz1 hz2 rfl rfl HA.out.ln HA.out.bn HA.out.an hs.2 ?_
            intro A3 m3 c3 w112 hh112 hd112 hg112
            have H112 := Lib.hid hh112
            have DN112 := Lib.hid hd112
            have DO112 := Lib.hid (DO109.out.far EN109.out.1 (fun v hv => by cases hv) hg112)
            clear hh112 hd112 hg112
            refine hK _ _ trivial (fun _ => ?_)
            clear hK K
            ((try simp only [Act.put]); (try simp only [List.setIfInBounds_toArray]); (repeat (first | simp only [List.set_cons_succ] | simp only [List.set_cons_zero])))
            refine wpAnyH_ready (rs := [9]) (by kernel_rfl) (by simp) ?_
            refine AllReadyH.cons rfl (fun K hK => ?_) AllReadyH.nil
            have hcl : w112.cell? ⟨w.heap.size, 6, none⟩ = some (.slice s.Ao s.no s.co) := H112.out.r1.cell 6
            have hfr := H112.out.r1.frozen 6
            go_simp
            have HX := Lib.hid (H112.out.set6 A2 m2 c2)
            have DX := Lib.hid (DO112.out.set H112.out 6 (.slice A2 m2 c2))
            have DY := Lib.hid (DN112.out.set H112.out 6 (.slice A2 m2 c2))
            generalize w112.setCell ⟨w.heap.size, 6, none⟩ (.slice A2 m2 c2) = wx at *
            clear hcl hfr
            refine hK _ _ trivial (fun _ => ?_)
            clear hK K
            ((try simp only [Act.put]); (try simp only [List.setIfInBounds_toArray]); (repeat (first | simp only [List.set_cons_succ] | simp only [List.set_cons_zero])))
            refine wpAnyH_take (i := 10) (oi := ⟨some 12, _, _, _, _, _⟩) (v := ?v10g113) rfl (by kernel_rfl) (by kernel_rfl) (by kernel_rfl) (fun _ _ _ h => h) (Or.inl ⟨by rfl, ?y10g113⟩) trivial ?r10g113
            case y10g113 =>
              rintro w' hSw
              go_simp
              try with_reducible rfl
            ((try simp only [Act.put]); (try simp only [List.setIfInBounds_toArray]); (repeat (first | simp only [List.set_cons_succ] | simp only [List.set_cons_zero])))
            refine wpAnyH_ready (rs := [11]) (by kernel_rfl) (by simp) ?_
            refine AllReadyH.cons rfl (fun K hK => ?_) AllReadyH.nil
            have hcl : wx.cell? ⟨w.heap.size, 7, none⟩ = some (.slice s.An s.nn s.cn) := HX.out.r1.cell 7
            have hfr := HX.out.r1.frozen 7
            go_simp
            have HE := Lib.hid (show Cpy w r (wx.setCell ⟨w.heap.size, 7, none⟩ (.slice A3 m3 c3)) from ⟨A2, m2, c2, A3, m3, c3, HX.out.set7 A3 m3 c3, DX.out.set HX.out 7 _, DY.out.set HX.out 7 _⟩)
            generalize wx.setCell ⟨w.heap.size, 7, none⟩ (.slice A3 m3 c3) = wy at *
            clear hcl hfr
            refine hK _ _ trivial (fun _ => ?_)
            clear hK K
            ((try simp only [Act.put]); (try simp only [List.setIfInBounds_toArray]); (repeat (first | simp only [List.set_cons_succ] | simp only [List.set_cons_zero])))
            refine wpAnyH_done (by kernel_rfl) ?_ _
            go_wp2_with fail
            go_meet
            exact HE.out
          · have hcl : w108.cell? ⟨w.heap.size, 7, none⟩ = some (.slice s.An s.nn s.cn) := H108.out.r1.cell 7
            go_simp
            clear hcl
            refine hK _ _ trivial (fun _ => ?_)
            clear hK K
            ((try simp only [Act.put]); (try simp only [List.setIfInBounds_toArray]); (repeat (first | simp only [List.set_cons_succ] | simp only [List.set_cons_zero])))
            refine wpAnyH_ready (rs := [3]) (by kernel_rfl) (by simp) ?_
            refine (AllReadyH.cons rfl (fun K hK => ?_) AllReadyH.nil)
            rw [if_pos (by rfl)]
            refine Cp.app H108.out EO108.out (.tmp 3) (.tmp 5) rfl i0 Try.underlying25 hi hz0 hz1 hz2 rfl rfl HA.out.lo HA.out.bo HA.out.ao hs.1 ?_
            intro A2 m2 c2 w115 hh115 hd115 hg115
            have H115 := Lib.hid hh115
            have DO115 := Lib.hid hd115
            have EN115 := Lib.hid (EN108.out.grown hg115 (Ne.symm hne))
            clear hh115 hd115 hg115
            refine hK _ _ trivial (fun _ => ?_)
            clear hK K
            ((try simp only [Act.put]); (try simp only [List.setIfInBounds_toArray]); (repeat (first | simp only [List.set_cons_succ] | simp only [List.set_cons_zero])))
            refine wpAnyH_take (i := 8) (oi := ⟨some 11, _, _, _, _, _⟩) (v := ?v8e116) rfl (by kernel_rfl) (by kernel_rfl) (by kernel_rfl) (fun _ _ _ h => h) (Or.inl ⟨by rfl, ?y8e116⟩) trivial ?r8e116
            case y8e116 =>
              rintro w' hSw
              go_simp
              try with_reducible rfl
            ((try simp only [Act.put]); (try simp only [List.setIfInBounds_toArray]); (repeat (first | simp only [List.set_cons_succ] | simp only [List.set_cons_zero])))
            refine wpAnyH_ready (rs := [7]) (by kernel_rfl) (by simp) ?_
            refine (AllReadyH.cons rfl (fun K hK => ?_) AllReadyH.nil)
            rw [if_pos (by rfl)]
            refine Cp.app H115.out EN115.out (.tmp 7) (.tmp 9) rfl i0 Try.underlying25 hi hz0 hz1 hz2 rfl rfl HA.out.ln HA.out.bn HA.out.an hs.2 ?_
            intro A3 m3 c3 w117 hh117 hd117 hg117
            have H117 := Lib.hid hh117
            have DN117 := Lib.hid hd117
            have DO117 := Lib.hid (DO115.out.far EN115.out.1 (fun v hv => by cases hv) hg117)
            clear hh117 hd117 hg117
            refine hK _ _ trivial (fun _ => ?_)
            clear hK K
            ((try simp only [Act.put]); (try simp only [List.setIfInBounds_toArray]); (repeat (first | simp only [List.set_cons_succ] | simp only [List.set_cons_zero])))
            refine wpAnyH_ready (rs := [9]) (by kernel_rfl) (by simp) ?_
            refine AllReadyH.cons rfl (fun K hK => ?_) AllReadyH.nil
            have hcl : w117.cell? ⟨w.heap.size, 6, none⟩ = some (.slice s.Ao s.no s.co) := H117.out.r1.cell 6
            have hfr := H117.out.r1.frozen 6
            go_simp
            have HX := Lib.hid (H117.out.set6 A2 m2 c2)
            have DX := Lib.hid (DO117.out.set H117.out 6 (.slice A2 m2 c2))
            have DY := Lib.hid (DN117.out.set H117.out 6 (.slice A2 m2 c2))
            generalize w117.setCell ⟨w.heap.size, 6, none⟩ (.slice A2 m2 c2) = wx at *
            clear hcl hfr
            refine hK _ _ trivial (fun _ => ?_)
            clear hK K
            ((try simp only [Act.put]); (try simp only [List.setIfInBounds_toArray]); (repeat (first | simp only [List.set_cons_succ] | simp only [List.set_cons_zero])))
            refine wpAnyH_take (i := 10) (oi := ⟨some 12, _, _, _, _, _⟩) (v := ?v10g118) rfl (by kernel_rfl) (by kernel_rfl) (by kernel_rfl) (fun _ _ _ h => h) (Or.inl ⟨by rfl, ?y10g118⟩) trivial ?r10g118
            case y10g118 =>
              rintro w' hSw
              go_simp
              try with_reducible rfl
            ((try simp only [Act.put]); (try simp only [List.setIfInBounds_toArray]); (repeat (first | simp only [List.set_cons_succ] | simp only [List.set_cons_zero])))
            refine wpAnyH_ready (rs := [11]) (by kernel_rfl) (by simp) ?_
            refine AllReadyH.cons rfl (fun K hK => ?_) AllReadyH.nil
            have hcl : wx.cell? ⟨w.heap.size, 7, none⟩ = some (.slice s.An s.nn s.cn) := HX.out.r1.cell 7
            have hfr := HX.out.r1.frozen 7
            go_simp
            have HE := Lib.hid (show Cpy w r (wx.setCell ⟨w.heap.size, 7, none⟩ (.slice A3 m3 c3)) from ⟨A2, m2, c2, A3, m3, c3, HX.out.set7 A3 m3 c3, DX.out.set HX.out 7 _, DY.out.set HX.out 7 _⟩)
            generalize wx.setCell ⟨w.heap.size, 7, none⟩ (.slice A3 m3 c3) = wy at *
            clear hcl hfr
            refine hK _ _ trivial (fun _ => ?_)
            clear hK K
            ((try simp only [Act.put]); (try simp only [List.setIfInBounds_toArray]); (repeat (first | simp only [List.set_cons_succ] | simp only [List.set_cons_zero])))
            refine wpAnyH_done (by kernel_rfl) ?_ _
            go_wp2_with fail
            go_meet
            exact HE.out
        · have hcl : w107.cell? ⟨w.heap.size, 7, none⟩ = some (.slice s.An s.nn s.cn) := H107.out.r1.cell 7
          go_simp
          clear hcl
          refine hK _ _ trivial (fun _ => ?_)
          clear hK K
          ((try simp only [Act.put]); (try simp only [List.setIfInBounds_toArray]); (repeat (first | simp only [List.set_cons_succ] | simp only [List.set_cons_zero])))
          refine wpAnyH_ready (rs := [0]) (by kernel_rfl) (by simp) ?_
          refine (AllReadyH.cons rfl (fun K hK => ?_) AllReadyH.nil)
          go_simp
          have EO120 := Lib.hid (Em.new H107.out)
          have H120 := Lib.hid H107.out.alloc
          have EN120 := Lib.hid EN107.out.alloc
          have hne : w107.heap.size ≠ gN := EN107.out.ne
          generalize w107.heap.size = gO at *
          generalize w107.alloc (.cells #[] 5) = w120 at *
          refine hK _ _ trivial (fun _ => ?_)
          clear hK K
          ((try simp only [Act.put]); (try simp only [List.setIfInBounds_toArray]); (repeat (first | simp only [List.set_cons_succ] | simp only [List.set_cons_zero])))
          refine wpAnyH_ready (rs := [3]) (by kernel_rfl) (by simp) ?_
          refine (AllReadyH.cons rfl (fun K hK => ?_) AllReadyH.nil)
          rw [if_pos (by rfl)]
          refine Cp.app H120.out EO120.out (.tmp 3) (.tmp 5) rfl i0 Try.underlying25 hi hz0 hz1 hz2 rfl rfl HA.out.lo HA.out.bo HA.out.ao hs.1 ?_
          intro A2 m2 c2 w121 hh121 hd121 hg121
          have H121 := Lib.hid hh121
          have DO121 := Lib.hid hd121
          have EN121 := Lib.hid (EN120.out.grown hg121 (Ne.symm hne))
          clear hh121 hd121 hg121
          refine hK _ _ trivial (fun _ => ?_)
          clear hK K
          ((try simp only [Act.put]); (try simp only [List.setIfInBounds_toArray]); (repeat (first | simp only [List.set_cons_succ] | simp only [List.set_cons_zero])))
          refine wpAnyH_take (i := 8) (oi := ⟨some 11, _, _, _, _, _⟩) (v := ?v8e122) rfl (by kernel_rfl) (by kernel_rfl) (by kernel_rfl) (fun _ _ _ h => h) (Or.inl ⟨by rfl, ?y8e122⟩) trivial ?r8e122
          case y8e122 =>
            rintro w' hSw
            go_simp
            try with_reducible rfl
          ((try simp only [Act.put]); (try simp only [List.setIfInBounds_toArray]); (repeat (first | simp only [List.set_cons_succ] | simp only [List.set_cons_zero])))
          refine wpAnyH_ready (rs := [7]) (by kernel_rfl) (by simp) ?_
          refine (AllReadyH.cons rfl (fun K hK => ?_) AllReadyH.nil)
          rw [if_pos (by rfl)]
          refine Cp.app H121.out EN121.out (.tmp 7) (.tmp 9) rfl i0 Try.underlying25 hi hz0 hz1 hz2 rfl rfl HA.out.ln HA.out.bn HA.out.an hs.2 ?_
          intro A3 m3 c3 w123 hh123 hd123 hg123
          have H123 := Lib.hid hh123
          have DN123 := Lib.hid hd123
          have DO123 := Lib.hid (DO121.out.far EN121.out.1 (fun v hv => by cases hv) hg123)
          clear hh123 hd123 hg123
          refine hK _ _ trivial (fun _ => ?_)
          clear hK K
          ((try simp only [Act.put]); (try simp only [List.setIfInBounds_toArray]); (repeat (first | simp only [List.set_cons_succ] | simp only [List.set_cons_zero])))
          refine wpAnyH_ready (rs := [9]) (by kernel_rfl) (by simp) ?_
          refine AllReadyH.cons rfl (fun K hK => ?_) AllReadyH.nil
          have hcl : w123.cell? ⟨w.heap.size, 6, none⟩ = some (.slice s.Ao s.no s.co) := H123.out.r1.cell 6
          have hfr := H123.out.r1.frozen 6
          go_simp
          have HX := Lib.hid (H123.out.set6 A2 m2 c2)
          have DX := Lib.hid (DO123.out.set H123.out 6 (.slice A2 m2 c2))
          have DY := Lib.hid (DN123.out.set H123.out 6 (.slice A2 m2 c2))
          generalize w123.setCell ⟨w.heap.size, 6, none⟩ (.slice A2 m2 c2) = wx at *
          clear hcl hfr
          refine hK _ _ trivial (fun _ => ?_)
          clear hK K
          ((try simp only [Act.put]); (try simp only [List.setIfInBounds_toArray]); (repeat (first | simp only [List.set_cons_succ] | simp only [List.set_cons_zero])))
          refine wpAnyH_take (i := 10) (oi := ⟨some 12, _, _, _, _, _⟩) (v := ?v10g124) rfl (by kernel_rfl) (by kernel_rfl) (by kernel_rfl) (fun _ _ _ h => h) (Or.inl ⟨by rfl, ?y10g124⟩) trivial ?r10g124
          case y10g124 =>
            rintro w' hSw
            go_simp
            try with_reducible rfl
          ((try simp only [Act.put]); (try simp only [List.setIfInBounds_toArray]); (repeat (first | simp only [List.set_cons_succ] | simp only [List.set_cons_zero])))
          refine wpAnyH_ready (rs := [11]) (by kernel_rfl) (by simp) ?_
          refine AllReadyH.cons rfl (fun K hK => ?_) AllReadyH.nil
          have hcl : wx.cell? ⟨w.heap.size, 7, none⟩ = some (.slice s.An s.nn s.cn) := HX.out.r1.cell 7
          have hfr := HX.out.r1.frozen 7
          go_simp
          have HE := Lib.hid (show Cpy w r (wx.setCell ⟨w.heap.size, 7, none⟩ (.slice A3 m3 c3)) from ⟨A2, m2, c2, A3, m3, c3, HX.out.set7 A3 m3 c3, DX.out.set HX.out 7 _, DY.out.set HX.out 7 _⟩)
          generalize wx.setCell ⟨w.heap.size, 7, none⟩ (.slice A3 m3 c3) = wy at *
          clear hcl hfr
          refine hK _ _ trivial (fun _ => ?_)
          clear hK K
          ((try simp only [Act.put]); (try simp only [List.setIfInBounds_toArray]); (repeat (first | simp only [List.set_cons_succ] | simp only [List.set_cons_zero])))
          refine wpAnyH_done (by kernel_rfl) ?_ _
          go_wp2_with fail
          go_meet
          exact HE.out
      · have hcl : w1.cell? ⟨w.heap.size, 7, none⟩ = some (.slice s.An s.nn s.cn) := H.out.r1.cell 7
        go_simp
        clear hcl
        refine hK _ _ trivial (fun _ => ?_)
        clear hK K
        ((try simp only [Act.put]); (try simp only [List.setIfInBounds_toArray]); (repeat (first | simp only [List.set_cons_succ] | simp only [List.set_cons_zero])))
        refine wpAnyH_ready (rs := [0, 4]) (by kernel_rfl) (by simp) ?_
        refine (AllReadyH.cons rfl (fun K hK => ?_) (AllReadyH.cons rfl (fun K hK => ?_) AllReadyH.nil))
        · go_simp
          have EO126 := Lib.hid (Em.new H.out)
          have H126 := Lib.hid H.out.alloc
          generalize w1.heap.size = gO at *
          generalize w1.alloc (.cells #[] 5) = w126 at *
          refine hK _ _ trivial (fun _ => ?_)
          clear hK K
          ((try simp only [Act.put]); (try simp only [List.setIfInBounds_toArray]); (repeat (first | simp only [List.set_cons_succ] | simp only [List.set_cons_zero])))
          refine wpAnyH_ready (rs := [3, 4]) (by kernel_rfl) (by simp) ?_
          refine (AllReadyH.cons rfl (fun K hK => ?_) (AllReadyH.cons rfl (fun K hK => ?_) AllReadyH.nil))
          · rw [if_pos (by rfl)]
            refine Cp.app H126.out EO126.out (.tmp 3) (.tmp 5) rfl i0 Try.underlying25 hi hz0 hz1 hz2 rfl rfl HA.out.lo HA.out.bo HA.out.ao hs.1 ?_
            intro A2 m2 c2 w127 hh127 hd127 hg127
            have H127 := Lib.hid hh127
            have DO127 := Lib.hid hd127
            clear hh127 hd127 hg127
            refine hK _ _ trivial (fun _ => ?_)
            clear hK K
            ((try simp only [Act.put]); (try simp only [List.setIfInBounds_toArray]); (repeat (first | simp only [List.set_cons_succ] | simp only [List.set_cons_zero])))
            refine wpAnyH_take (i := 8) (oi := ⟨some 11, _, _, _, _, _⟩) (v := ?v8e128) rfl (by kernel_rfl) (by kernel_rfl) (by kernel_rfl) (fun _ _ _ h => h) (Or.inl ⟨by rfl, ?y8e128⟩) trivial ?r8e128
            case y8e128 =>
              rintro w' hSw
              go_simp
              try with_reducible rfl
            ((try simp only [Act.put]); (try simp only [List.setIfInBounds_toArray]); (repeat (first | simp only [List.set_cons_succ] | simp only [List.set_cons_zero])))
            refine wpAnyH_ready (rs := [4]) (by kernel_rfl) (by simp) ?_
            refine (AllReadyH.cons rfl (fun K hK => ?_) AllReadyH.nil)
            go_simp
            have EN129 := Lib.hid (Em.new H127.out)
            have H129 := Lib.hid H127.out.alloc
            have DO129 := Lib.hid DO127.out.alloc
            generalize w127.heap.size = gN at *
            generalize w127.alloc (.cells #[] 5) = w129 at *
            refine hK _ _ trivial (fun _ => ?_)
            clear hK K
            ((try simp only [Act.put]); (try simp only [List.setIfInBounds_toArray]); (repeat (first | simp only [List.set_cons_succ] | simp only [List.set_cons_zero])))
            refine wpAnyH_ready (rs := [7]) (by kernel_rfl) (by simp) ?_
            refine (AllReadyH.cons rfl (fun K hK => ?_) AllReadyH.nil)
            rw [if_pos (by rfl)]
            refine Cp.app H129.out EN129.out (.tmp 7) (.tmp 9) rfl i0 Try.underlying25 hi hz0 hz1 hz2 rfl rfl HA.out.ln HA.out.bn HA.out.an hs.2 ?_
            intro A3 m3 c3 w130 hh130 hd130 hg130
            have H130 := Lib.hid hh130
            have DN130 := Lib.hid hd130
            have DO130 := Lib.hid (DO129.out.far EN129.out.1 (fun v hv => by cases hv) hg130)
            clear hh130 hd130 hg130
            refine hK _ _ trivial (fun _ => ?_)
            clear hK K
            ((try simp only [Act.put]); (try simp only [List.setIfInBounds_toArray]); (repeat (first | simp only [List.set_cons_succ] | simp only [List.set_cons_zero])))
            refine wpAnyH_ready (rs := [9]) (by kernel_rfl) (by simp) ?_
            refine AllReadyH.cons rfl (fun K hK => ?_) AllReadyH.nil
            have hcl : w130.cell? ⟨w.heap.size, 6, none⟩ = some (.slice s.Ao s.no s.co) := H130.out.r1.cell 6
            have hfr := H130.out.r1.frozen 6
            go_simp
            have HX := Lib.hid (H130.out.set6 A2 m2 c2)
            have DX := Lib.hid (DO130.out.set H130.out 6 (.slice A2 m2 c2))
            have DY := Lib.hid (DN130.out.set H130.out 6 (.slice A2 m2 c2))
            generalize w130.setCell ⟨w.heap.size, 6, none⟩ (.slice A2 m2 c2) = wx at *
            clear hcl hfr
            refine hK _ _ trivial (fun _ => ?_)
            clear hK K
            ((try simp only [Act.put]); (try simp only [List.setIfInBounds_toArray]); (repeat (first | simp only [List.set_cons_succ] | simp only [List.set_cons_zero])))
            refine wpAnyH_take (i := 10) (oi := ⟨some 12, _, _, _, _, _⟩) (v := ?v10g131) rfl (by kernel_rfl) (by kernel_rfl) (by kernel_rfl) (fun _ _ _ h => h) (Or.inl ⟨by rfl, ?y10g131⟩) trivial ?r10g131
            case y10g131 =>
              rintro w' hSw
              go_simp
              try with_reducible rfl
            ((try simp only [Act.put]); (try simp only [List.setIfInBounds_toArray]); (repeat (first | simp only [List.set_cons_succ] | simp only [List.set_cons_zero])))
            refine wpAnyH_ready (rs := [11]) (by kernel_rfl) (by simp) ?_
            refine AllReadyH.cons rfl (fun K hK => ?_) AllReadyH.nil
            have hcl : wx.cell? ⟨w.heap.size, 7, none⟩ = some (.slice s.An s.nn s.cn) := HX.out.r1.cell 7
            have hfr := HX.out.r1.frozen 7
            go_simp
            have HE := Lib.hid (show Cpy w r (wx.setCell ⟨w.heap.size, 7, none⟩ (.slice A3 m3 c3)) from ⟨A2, m2, c2, A3, m3, c3, HX.out.set7 A3 m3 c3, DX.out.set HX.out 7 _, DY.out.set HX.out 7 _⟩)
            generalize wx.setCell ⟨w.heap.size, 7, none⟩ (.slice A3 m3 c3) = wy at *
            clear hcl hfr
            refine hK _ _ trivial (fun _ => ?_)
            clear hK K
            ((try simp only [Act.put]); (try simp only [List.setIfInBounds_toArray]); (repeat (first | simp only [List.set_cons_succ] | simp only [List.set_cons_zero])))
            refine wpAnyH_done (by kernel_rfl) ?_ _
            go_wp2_with fail
            go_meet
            exact HE.out
          · go_simp
            have EN132 := Lib.hid (Em.new H126.out)
            have H132 := Lib.hid H126.out.alloc
            have EO132 := Lib.hid EO126.out.alloc
            have hne : gO ≠ w126.heap.size := EO126.out.ne.symm
            generalize w126.heap.size = gN at *
            generalize w126.alloc (.cells #[] 5) = w132 at *
            refine hK _ _ trivial (fun _ => ?_)
            clear hK K
            ((try simp only [Act.put]); (try simp only [List.setIfInBounds_toArray]); (repeat (first | simp only [List.set_cons_succ] | simp only [List.set_cons_zero])))
            refine wpAnyH_ready (rs := [3]) (by kernel_rfl) (by simp) ?_
            refine (AllReadyH.cons rfl (fun K hK => ?_) AllReadyH.nil)
            rw [if_pos (by rfl)]
            refine Cp.app H132.out EO132.out (.tmp 3) (.tmp 5) rfl i0 Try.underlying25 hi hz0 hz1 hz2 rfl rfl HA.out.lo HA.out.bo HA.out.ao hs.1 ?_
            intro A2 m2 c2 w133 hh133 hd133 hg133
            have H133 := Lib.hid hh133
            have DO133 := Lib.hid hd133
            have EN133 := Lib.hid (EN132.out.grown hg133 (Ne.symm hne))
            clear hh133 hd133 hg133
            refine hK _ _ trivial (fun _ => ?_)
            clear hK K
            ((try simp only [Act.put]); (try simp only [List.setIfInBounds_toArray]); (repeat (first | simp only [List.set_cons_succ] | simp only [List.set_cons_zero])))
            refine wpAnyH_take (i := 8) (oi := ⟨some 11, _, _, _, _, _⟩) (v := ?v8e134) rfl (by kernel_rfl) (by kernel_rfl) (by kernel_rfl) (fun _ _ _ h => h) (Or.inl ⟨by rfl, ?y8e134⟩) trivial ?r8e134
            case y8e134 =>
              rintro w' hSw
              go_simp
              try with_reducible rfl
            ((try simp only [Act.put]); (try simp only [List.setIfInBounds_toArray]); (repeat (first | simp only [List.set_cons_succ] | simp only [List.set_cons_zero])))
            refine wpAnyH_ready (rs := [7]) (by kernel_rfl) (by simp) ?_
            refine (AllReadyH.cons rfl (fun K hK => ?_) AllReadyH.nil)
            rw [if_pos (by rfl)]
            refine Cp.app H133.out EN133.out (.tmp 7) (.tmp 9) rfl i0 Try.underlying25 hi hz0 hz1 hz2 rfl rfl HA.out.ln HA.out.bn HA.out.an hs.2 ?_
            intro A3 m3 c3 w135 hh135 hd135 hg135
            have H135 := Lib.hid hh135
            have DN135 := Lib.hid hd135
            have DO135 := Lib.hid (DO133.out.far EN133.out.1 (fun v hv => by cases hv) hg135)
            clear hh135 hd135 hg135
            refine hK _ _ trivial (fun _ => ?_)
            clear hK K
            ((try simp only [Act.put]); (try simp only [List.setIfInBounds_toArray]); (repeat (first | simp only [List.set_cons_succ] | simp only [List.set_cons_zero])))
            refine wpAnyH_ready (rs := [9]) (by kernel_rfl) (by simp) ?_
            refine AllReadyH.cons rfl (fun K hK => ?_) AllReadyH.nil
            have hcl : w135.cell? ⟨w.heap.size, 6, none⟩ = some (.slice s.Ao s.no s.co) := H135.out.r1.cell 6
            have hfr := H135.out.r1.frozen 6
            go_simp
            have HX := Lib.hid (H135.out.set6 A2 m2 c2)
            have DX := Lib.hid (DO135.out.set H135.out 6 (.slice A2 m2 c2))
            have DY := Lib.hid (DN135.out.set H135.out 6 (.slice A2 m2 c2))
            generalize w135.setCell ⟨w.heap.size, 6, none⟩ (.slice A2 m2 c2) = wx at *
            clear hcl hfr
            refine hK _ _ trivial (fun _ => ?_)
            clear hK K
            ((try simp only [Act.put]); (try simp only [List.setIfInBounds_toArray]); (repeat (first | simp only [List.set_cons_succ] | simp only [List.set_cons_zero])))
            refine wpAnyH_take (i := 10) (oi := ⟨some 12, _, _, _, _, _⟩) (v := ?v10g136) rfl (by kernel_rfl) (by kernel_rfl) (by kernel_rfl) (fun _ _ _ h => h) (Or.inl ⟨by rfl, ?y10g136⟩) trivial ?r10g136
            case y10g136 =>
              rintro w' hSw
              go_simp
              try with_reducible rfl
            ((try simp only [Act.put]); (try simp only [List.setIfInBounds_toArray]); (repeat (first | simp only [List.set_cons_succ] | simp only [List.set_cons_zero])))
            refine wpAnyH_ready (rs := [11]) (by kernel_rfl) (by simp) ?_
            refine AllReadyH.cons rfl (fun K hK => ?_) AllReadyH.nil
            have hcl : wx.cell? ⟨w.heap.size, 7, none⟩ = some (.slice s.An s.nn s.cn) := HX.out.r1.cell 7
            have hfr := HX.out.r1.frozen 7
            go_simp
            have HE := Lib.hid (show Cpy w r (wx.setCell ⟨w.heap.size, 7, none⟩ (.slice A3 m3 c3)) from ⟨A2, m2, c2, A3, m3, c3, HX.out.set7 A3 m3 c3, DX.out.set HX.out 7 _, DY.out.set HX.out 7 _⟩)
            generalize wx.setCell ⟨w.heap.size, 7, none⟩ (.slice A3 m3 c3) = wy at *
            clear hcl hfr
            refine hK _ _ trivial (fun _ => ?_)
            clear hK K
            ((try simp only [Act.put]); (try simp only [List.setIfInBounds_toArray]); (repeat (first | simp only [List.set_cons_succ] | simp only [List.set_cons_zero])))
            refine wpAnyH_done (by kernel_rfl) ?_ _
            go_wp2_with fail
            go_meet
            exact HE.out
        · go_simp
          have EN137 := Lib.hid (Em.new H.out)
          have H137 := Lib.hid H.out.alloc
          generalize w1.heap.size = gN at *
          generalize w1.alloc (.cells #[] 5) = w137 at *
          refine hK _ _ trivial (fun _ => ?_)
          clear hK K
          ((try simp only [Act.put]); (try simp only [List.setIfInBounds_toArray]); (repeat (first | simp only [List.set_cons_succ] | simp only [List.set_cons_zero])))
          refine wpAnyH_ready (rs := [0]) (by kernel_rfl) (by simp) ?_
          refine (AllReadyH.cons rfl (fun K hK => ?_) AllReadyH.nil)
          go_simp
          have EO138 := Lib.hid (Em.new H137.out)
          have H138 := Lib.hid H137.out.alloc
          have EN138 := Lib.hid EN137.out.alloc
          have hne : w137.heap.size ≠ gN := EN137.out.ne
          generalize w137.heap.size = gO at *
          generalize w137.alloc (.cells #[] 5) = w138 at *
          refine hK _ _ trivial (fun _ => ?_)
          clear hK K
          ((try simp only [Act.put]); (try simp only [List.setIfInBounds_toArray]); (repeat (first | simp only [List.set_cons_succ] | simp only [List.set_cons_zero])))
          refine wpAnyH_ready (rs := [3]) (by kernel_rfl) (by simp) ?_
          refine (AllReadyH.cons rfl (fun K hK => ?_) AllReadyH.nil)
          rw [if_pos (by rfl)]
          refine Cp.app H138.out EO138.out (.tmp 3) (.tmp 5) rfl i0 Try.underlying25 hi hz0 hz1 hz2 rfl rfl HA.out.lo HA.out.bo HA.out.ao hs.1 ?_
          intro A2 m2 c2 w139 hh139 hd139 hg139
          have H139 := Lib.hid hh139
          have DO139 := Lib.hid hd139
          have EN139 := Lib.hid (EN138.out.grown hg139 (Ne.symm hne))
          clear hh139 hd139 hg139
          refine hK _ _ trivial (fun _ => ?_)
          clear hK K
          ((try simp only [Act.put]); (try simp only [List.setIfInBounds_toArray]); (repeat (first | simp only [List.set_cons_succ] | simp only [List.set_cons_zero])))
          refine wpAnyH_take (i := 8) (oi := ⟨some 11, _, _, _, _, _⟩) (v := ?v8e140) rfl (by kernel_rfl) (by kernel_rfl) (by kernel_rfl) (fun _ _ _ h => h) (Or.inl ⟨by rfl, ?y8e140⟩) trivial ?r8e140
          case y8e140 =>
            rintro w' hSw
            go_simp
            try with_reducible rfl
          ((try simp only [Act.put]); (try simp only [List.setIfInBounds_toArray]); (repeat (first | simp only [List.set_cons_succ] | simp only [List.set_cons_zero])))
          refine wpAnyH_ready (rs := [7]) (by kernel_rfl) (by simp) ?_
          refine (AllReadyH.cons rfl (fun K hK => ?_) AllReadyH.nil)
          rw [if_pos (by rfl)]
          refine Cp.app H139.out EN139.out (.tmp 7) (.tmp 9) rfl i0 Try.underlying25 hi hz0 hz1 hz2 rfl rfl HA.out.ln HA.out.bn HA.out.an hs.2 ?_
          intro A3 m3 c3 w141 hh141 hd141 hg141
          have H141 := Lib.hid hh141
          have DN141 := Lib.hid hd141
          have DO141 := Lib.hid (DO139.out.far EN139.out.1 (fun v hv => by cases hv) hg141)
          clear hh141 hd141 hg141
          refine hK _ _ trivial (fun _ => ?_)
          clear hK K
          ((try simp only [Act.put]); (try simp only [List.setIfInBounds_toArray]); (repeat (first | simp only [List.set_cons_succ] | simp only [List.set_cons_zero])))
          refine wpAnyH_ready (rs := [9]) (by kernel_rfl) (by simp) ?_
          refine AllReadyH.cons rfl (fun K hK => ?_) AllReadyH.nil
          have hcl : w141.cell? ⟨w.heap.size, 6, none⟩ = some (.slice s.Ao s.no s.co) := H141.out.r1.cell 6
          have hfr := H141.out.r1.frozen 6
          go_simp
          have HX := Lib.hid (H141.out.set6 A2 m2 c2)
          have DX := Lib.hid (DO141.out.set H141.out 6 (.slice A2 m2 c2))
          have DY := Lib.hid (DN141.out.set H141.out 6 (.slice A2 m2 c2))
          generalize w141.setCell ⟨w.heap.size, 6, none⟩ (.slice A2 m2 c2) = wx at *
          clear hcl hfr
          refine hK _ _ trivial (fun _ => ?_)
          clear hK K
          ((try simp only [Act.put]); (try simp only [List.setIfInBounds_toArray]); (repeat (first | simp only [List.set_cons_succ] | simp only [List.set_cons_zero])))
          refine wpAnyH_take (i := 10) (oi := ⟨some 12, _, _, _, _, _⟩) (v := ?v10g142) rfl (by kernel_rfl) (by kernel_rfl) (by kernel_rfl) (fun _ _ _ h => h) (Or.inl ⟨by rfl, ?y10g142⟩) trivial ?r10g142
          case y10g142 =>
            rintro w' hSw
            go_simp
            try with_reducible rfl
          ((try simp only [Act.put]); (try simp only [List.setIfInBounds_toArray]); (repeat (first | simp only [List.set_cons_succ] | simp only [List.set_cons_zero])))
          refine wpAnyH_ready (rs := [11]) (by kernel_rfl) (by simp) ?_
          refine AllReadyH.cons rfl (fun K hK => ?_) AllReadyH.nil
          have hcl : wx.cell? ⟨w.heap.size, 7, none⟩ = some (.slice s.An s.nn s.cn) := HX.out.r1.cell 7
          have hfr := HX.out.r1.frozen 7
          go_simp
          have HE := Lib.hid (show Cpy w r (wx.setCell ⟨w.heap.size, 7, none⟩ (.slice A3 m3 c3)) from ⟨A2, m2, c2, A3, m3, c3, HX.out.set7 A3 m3 c3, DX.out.set HX.out 7 _, DY.out.set HX.out 7 _⟩)
          generalize wx.setCell ⟨w.heap.size, 7, none⟩ (.slice A3 m3 c3) = wy at *
          clear hcl hfr
          refine hK _ _ trivial (fun _ => ?_)
          clear hK K
          ((try simp only [Act.put]); (try simp only [List.setIfInBounds_toArray]); (repeat (first | simp only [List.set_cons_succ] | simp only [List.set_cons_zero])))
          refine wpAnyH_done (by kernel_rfl) ?_ _
          go_wp2_with fail
          go_meet
          exact HE.out
    · go_simp
      have EN143 := Lib.hid (Em.new H.out)
      have H143 := Lib.hid H.out.alloc
      generalize w1.heap.size = gN at *
      generalize w1.alloc (.cells #[] 5) = w143 at *
      refine hK _ _ trivial (fun _ => ?_)
      clear hK K
      ((try simp only [Act.put]); (try simp only [List.setIfInBounds_toArray]); (repeat (first | simp only [List.set_cons_succ] | simp only [List.set_cons_zero])))
      refine wpAnyH_ready (rs := [0, 2, 6]) (by kernel_rfl) (by simp) ?_
      refine (AllReadyH.cons rfl (fun K hK => ?_) (AllReadyH.cons rfl (fun K hK => ?_) (AllReadyH.cons rfl (fun K hK => ?_) AllReadyH.nil)))
      · go_simp
        have EO144 := Lib.hid (Em.new H143.out)
        have H144 := Lib.hid H143.out.alloc
        have EN144 := Lib.hid EN143.out.alloc
        have hne : w143.heap.size ≠ gN := EN143.out.ne
        generalize w143.heap.size = gO at *
        generalize w143.alloc (.cells #[] 5) = w144 at *
        refine hK _ _ trivial (fun _ => ?_)
        clear hK K
        ((try simp only [Act.put]); (try simp only [List.setIfInBounds_toArray]); (repeat (first | simp only [List.set_cons_succ] | simp only [List.set_cons_zero])))
        refine wpAnyH_ready (rs := [2, 6]) (by kernel_rfl) (by simp) ?_
        refine (AllReadyH.cons rfl (fun K hK => ?_) (AllReadyH.cons rfl (fun K hK => ?_) AllReadyH.nil))
        · have hcl : w144.cell? ⟨w.heap.size, 6, none⟩ = some (.slice s.Ao s.no s.co) := H144.out.r1.cell 6
          go_simp
          clear hcl
          refine hK _ _ trivial (fun _ => ?_)
          clear hK K
          ((try simp only [Act.put]); (try simp only [List.setIfInBounds_toArray]); (repeat (first | simp only [List.set_cons_succ] | simp only [List.set_cons_zero])))
          refine wpAnyH_ready (rs := [3, 6]) (by kernel_rfl) (by simp) ?_
          refine (AllReadyH.cons rfl (fun K hK => ?_) (AllReadyH.cons rfl (fun K hK => ?_) AllReadyH.nil))
          · rw [if_pos (by rfl)]
            refine Cp.app H144.out EO144.out (.tmp 3) (.tmp 5) rfl i0 Try.underlying25 hi hz0 hz1 hz2 rfl rfl HA.out.lo HA.out.bo HA.out.ao hs.1 ?_
            intro A2 m2 c2 w146 hh146 hd146 hg146
            have H146 := Lib.hid hh146
            have DO146 := Lib.hid hd146
            have EN146 := Lib.hid (EN144.out.grown hg146 (Ne.symm hne))
            clear hh146 hd146 hg146
            refine hK _ _ trivial (fun _ => ?_)
            clear hK K
            ((try simp only [Act.put]); (try simp only [List.setIfInBounds_toArray]); (repeat (first | simp only [List.set_cons_succ] | simp only [List.set_cons_zero])))
            refine wpAnyH_ready (rs := [6]) (by kernel_rfl) (by simp) ?_
            refine (AllReadyH.cons rfl (fun K hK => ?_) AllReadyH.nil)
            have hcl : w146.cell? ⟨w.heap.size, 7, none⟩ = some (.slice s.An s.nn s.cn) := H146.out.r1.cell 7
            go_simp
            clear hcl
            refine hK _ _ trivial (fun _ => ?_)
            clear hK K
            ((try simp only [Act.put]); (try simp only [List.setIfInBounds_toArray]); (repeat (first | simp only [List.set_cons_succ] | simp only [List.set_cons_zero])))
            refine wpAnyH_take (i := 8) (oi := ⟨some 11, _, _, _, _, _⟩) (v := ?v8e148) rfl (by kernel_rfl) (by kernel_rfl) (by kernel_rfl) (fun _ _ _ h => h) (Or.inl ⟨by rfl, ?y8e148⟩) trivial ?r8e148
            case y8e148 =>
              rintro w' hSw
              go_simp
              try with_reducible rfl
            ((try simp only [Act.put]); (try simp only [List.setIfInBounds_toArray]); (repeat (first | simp only [List.set_cons_succ] | simp only [List.set_cons_zero])))
            refine wpAnyH_ready (rs := [7]) (by kernel_rfl) (by simp) ?_
            refine (AllReadyH.cons rfl (fun K hK => ?_) AllReadyH.nil)
            rw [if_pos (by rfl)]
            refine Cp.app H146.out EN146.out (.tmp 7) (.tmp 9) rfl i0 Try.underlying25 hi hz0 hz1 hz2 rfl rfl HA.out.ln HA.out.bn HA.out.an hs.2 ?_
            intro A3 m3 c3 w149 hh149 hd149 hg149
            have H149 := Lib.hid hh149
            have DN149 := Lib.hid hd149
            have DO149 := Lib.hid (DO146.out.far EN146.out.1 (fun v hv => by cases hv) hg149)
            clear hh149 hd149 hg149
            refine hK _ _ trivial (fun _ => ?_)
            clear hK K
            ((try simp only [Act.put]); (try simp only [List.setIfInBounds_toArray]); (repeat (first | simp only [List.set_cons_succ] | simp only [List.set_cons_zero])))
            refine wpAnyH_ready (rs := [9]) (by kernel_rfl) (by simp) ?_
            refine AllReadyH.cons rfl (fun K hK => ?_) AllReadyH.nil
            have hcl : w149.cell? ⟨w.heap.size, 6, none⟩ = some (.slice s.Ao s.no s.co) := H149.out.r1.cell 6
            have hfr := H149.out.r1.frozen 6
            go_simp
            have HX := Lib.hid (H149.out.set6 A2 m2 c2)
            have DX := Lib.hid (DO149.out.set H149.out 6 (.slice A2 m2 c2))
            have DY := Lib.hid (DN149.out.set H149.out 6 (.slice A2 m2 c2))
            generalize w149.setCell ⟨w.heap.size, 6, none⟩ (.slice A2 m2 c2) = wx at *
            clear hcl hfr
            refine hK _ _ trivial (fun _ => ?_)
            clear hK K
            ((try simp only [Act.put]); (try simp only [List.setIfInBounds_toArray]); (repeat (first | simp only [List.set_cons_succ] | simp only [List.set_cons_zero])))
            refine wpAnyH_take (i := 10) (oi := ⟨some 12, _, _, _, _, _⟩) (v := ?v10g150) rfl (by kernel_rfl) (by kernel_rfl) (by kernel_rfl) (fun _ _ _ h => h) (Or.inl ⟨by rfl, ?y10g150⟩) trivial ?r10g150
            case y10g150 =>
              rintro w' hSw
              go_simp
              try with_reducible rfl
            ((try simp only [Act.put]); (try simp only [List.setIfInBounds_toArray]); (repeat (first | simp only [List.set_cons_succ] | simp only [List.set_cons_zero])))
            refine wpAnyH_ready (rs := [11]) (by kernel_rfl) (by simp) ?_
            refine AllReadyH.cons rfl (fun K hK => ?_) AllReadyH.nil
            have hcl : wx.cell? ⟨w.heap.size, 7, none⟩ = some (.slice s.An s.nn s.cn) := HX.out.r1.cell 7
            have hfr := HX.out.r1.frozen 7
            go_simp
            have HE := Lib.hid (show Cpy w r (wx.setCell ⟨w.heap.size, 7, none⟩ (.slice A3 m3 c3)) from ⟨A2, m2, c2, A3, m3, c3, HX.out.set7 A3 m3 c3, DX.out.set HX.out 7 _, DY.out.set HX.out 7 _⟩)
            generalize wx.setCell ⟨w.heap.size, 7, none⟩ (.slice A3 m3 c3) = wy at *
            clear hcl hfr
            refine hK _ _ trivial (fun _ => ?_)
            clear hK K
            ((try simp only [Act.put]); (try simp only [List.setIfInBounds_toArray]); (repeat (first | simp only [List.set_cons_succ] | simp only [List.set_cons_zero])))
            refine wpAnyH_done (by kernel_rfl) ?_ _
            go_wp2_with fail
            go_meet
            exact HE.out
          · have hcl : w144.cell? ⟨w.heap.size, 7, none⟩ = some (.slice s.An s.nn s.cn) := H144.out.r1.cell 7
            go_simp
            clear hcl
            refine hK _ _ trivial (fun _ => ?_)
            clear hK K
            ((try simp only [Act.put]); (try simp only [List.setIfInBounds_toArray]); (repeat (first | simp only [List.set_cons_succ] | simp only [List.set_cons_zero])))
            refine wpAnyH_ready (rs := [3]) (by kernel_rfl) (by simp) ?_
            refine (AllReadyH.cons rfl (fun K hK => ?_) AllReadyH.nil)
            rw [if_pos (by rfl)]
            refine Cp.app H144.out EO144.out (.tmp 3) (.tmp 5) rfl i0 Try.underlying25 hi hz0 hz1 hz2 rfl rfl HA.out.lo HA.out.bo HA.out.ao hs.1 ?_
            intro A2 m2 c2 w152 hh152 hd152 hg152
            have H152 := Lib.hid hh152
            have DO152 := Lib.hid hd152
            have EN152 := Lib.hid (EN144.out.grown hg152 (Ne.symm hne))
            clear hh152 hd152 hg152
            refine hK _ _ trivial (fun _ => ?_)
            clear hK K
            ((try simp only [Act.put]); (try simp only [List.setIfInBounds_toArray]); (repeat (first | simp only [List.set_cons_succ] | simp only [List.set_cons_zero])))
            refine wpAnyH_take (i := 8) (oi := ⟨some 11, _, _, _, _, _⟩) (v := ?v8e153) rfl (by kernel_rfl) (by kernel_rfl) (by kernel_rfl) (fun _ _ _ h => h) (Or.inl ⟨by rfl, ?y8e153⟩) trivial ?r8e153
            case y8e153 =>
              rintro w' hSw
              go_simp
              try with_reducible rfl
            ((try simp only [Act.put]); (try simp only [List.setIfInBounds_toArray]); (repeat (first | simp only [List.set_cons_succ] | simp only [List.set_cons_zero])))
            refine wpAnyH_ready (rs := [7]) (by kernel_rfl) (by simp) ?_
            refine (AllReadyH.cons rfl (fun K hK => ?_) AllReadyH.nil)
            rw [if_pos (by rfl)]
            refine Cp.app H152.out EN152.out (.tmp 7) (.tmp 9) rfl i0 Try.underlying25 hi hz0 hz1 hz2 rfl rfl HA.out.ln HA.out.bn HA.out.an hs.2 ?_
            intro A3 m3 c3 w154 hh154 hd154 hg154
            have H154 := Lib.hid hh154
            have DN154 := Lib.hid hd154
            have DO154 := Lib.hid (DO152.out.far EN152.out.1 (fun v hv => by cases hv) hg154)
            clear hh154 hd154 hg154
            refine hK _ _ trivial (fun _ => ?_)
            clear hK K
            ((try simp only [Act.put]); (try simp only [List.setIfInBounds_toArray]); (repeat (first | simp only [List.set_cons_succ] | simp only [List.set_cons_zero])))
            refine wpAnyH_ready (rs := [9]) (by kernel_rfl) (by simp) ?_
            refine AllReadyH.cons rfl (fun K hK => ?_) AllReadyH.nil
            have hcl : w154.cell? ⟨w.heap.size, 6, none⟩ = some (.slice s.Ao s.no s.co) := H154.out.r1.cell 6
            have hfr := H154.out.r1.frozen 6
            go_simp
            have HX := Lib.hid (H154.out.set6 A2 m2 c2)
            have DX := Lib.hid (DO154.out.set H154.out 6 (.slice A2 m2 c2))
            have DY := Lib.hid (DN154.out.set H154.out 6 (.slice A2 m2 c2))
            generalize w154.setCell ⟨w.heap.size, 6, none⟩ (.slice A2 m2 c2) = wx at *
            clear hcl hfr
            refine hK _ _ trivial (fun _ => ?_)
            clear hK K
            ((try simp only [Act.put]); (try simp only [List.setIfInBounds_toArray]); (repeat (first | simp only [List.set_cons_succ] | simp only [List.set_cons_zero])))
            refine wpAnyH_take (i := 10) (oi := ⟨some 12, _, _, _, _, _⟩) (v := ?v10g155) rfl (by kernel_rfl) (by kernel_rfl) (by kernel_rfl) (fun _ _ _ h => h) (Or.inl ⟨by rfl, ?y10g155⟩) trivial ?r10g155
            case y10g155 =>
              rintro w' hSw
              go_simp
              try with_reducible rfl
            ((try simp only [Act.put]); (try simp only [List.setIfInBounds_toArray]); (repeat (first | simp only [List.set_cons_succ] | simp only [List.set_cons_zero])))
            refine wpAnyH_ready (rs := [11]) (by kernel_rfl) (by simp) ?_
            refine AllReadyH.cons rfl (fun K hK => ?_) AllReadyH.nil
            have hcl : wx.cell? ⟨w.heap.size, 7, none⟩ = some (.slice s.An s.nn s.cn) := HX.out.r1.cell 7
            have hfr := HX.out.r1.frozen 7
            go_simp
            have HE := Lib.hid (show Cpy w r (wx.setCell ⟨w.heap.size, 7, none⟩ (.slice A3 m3 c3)) from ⟨A2, m2, c2, A3, m3, c3, HX.out.set7 A3 m3 c3, DX.out.set HX.out 7 _, DY.out.set HX.out 7 _⟩)
            generalize wx.setCell ⟨w.heap.size, 7, none⟩ (.slice A3 m3 c3) = wy at *
            clear hcl hfr
            refine hK _ _ trivial (fun _ => ?_)
            clear hK K
            ((try simp only [Act.put]); (try simp only [List.setIfInBounds_toArray]); (repeat (first | simp only [List.set_cons_succ] | simp only [List.set_cons_zero])))
            refine wpAnyH_done (by kernel_rfl) ?_ _
            go_wp2_with fail
            go_meet
            exact HE.out
        · have hcl : w144.cell? ⟨w.heap.size, 7, none⟩ = some (.slice s.An s.nn s.cn) := H144.out.r1.cell 7
          go_simp
          clear hcl
          refine hK _ _ trivial (fun _ => ?_)
          clear hK K
          ((try simp only [Act.put]); (try simp only [List.setIfInBounds_toArray]); (repeat (first | simp only [List.set_cons_succ] | simp only [List.set_cons_zero])))
          refine wpAnyH_ready (rs := [2]) (by kernel_rfl) (by simp) ?_
          refine (AllReadyH.cons rfl (fun K hK => ?_) AllReadyH.nil)
          have hcl : w144.cell? ⟨w.heap.size, 6, none⟩ = some (.slice s.Ao s.no s.co) := H144.out.r1.cell 6
          go_simp
          clear hcl
          refine hK _ _ trivial (fun _ => ?_)
          clear hK K
          ((try simp only [Act.put]); (try simp only [List.setIfInBounds_toArray]); (repeat (first | simp only [List.set_cons_succ] | simp only [List.set_cons_zero])))
          refine wpAnyH_ready (rs := [3]) (by kernel_rfl) (by simp) ?_
          refine (AllReadyH.cons rfl (fun K hK => ?_) AllReadyH.nil)
          rw [if_pos (by rfl)]
          refine Cp.app H144.out EO144.out (.tmp 3) (.tmp 5) rfl i0 Try.underlying25 hi hz0 hz1 hz2 rfl rfl HA.out.lo HA.out.bo HA.out.ao hs.1 ?_
          intro A2 m2 c2 w158 hh158 hd158 hg158
          have H158 := Lib.hid hh158
          have DO158 := Lib.hid hd158
          have EN158 := Lib.hid (EN144.out.grown hg158 (Ne.symm hne))
          clear hh158 hd158 hg158
          refine hK _ _ trivial (fun _ => ?_)
          clear hK K
          ((try simp only [Act.put]); (try simp only [List.setIfInBounds_toArray]); (repeat (first | simp only [List.set_cons_succ] | simp only [List.set_cons_zero])))
          refine wpAnyH_take (i := 8) (oi := ⟨some 11, _, _, _, _, _⟩) (v := ?v8e159) rfl (by kernel_rfl) (by kernel_rfl) (by kernel_rfl) (fun _ _ _ h => h) (Or.inl ⟨by rfl, ?y8e159⟩) trivial ?r8e159
          case y8e159 =>
            rintro w' hSw
            go_simp
            try with_reducible rfl
          ((try simp only [Act.put]); (try simp only [List.setIfInBounds_toArray]); (repeat (first | simp only [List.set_cons_succ] | simp only [List.set_cons_zero])))
          refine wpAnyH_ready (rs := [7]) (by kernel_rfl) (by simp) ?_
          refine (AllReadyH.cons rfl (fun K hK => ?_) AllReadyH.nil)
          rw [if_pos (by rfl)]
          refine Cp.app H158.out EN158.out (.tmp 7) (.tmp 9) rfl i0 Try.underlying25 hi hz0 hz1 hz2 rfl rfl HA.out.ln HA.out.bn HA.out.an hs.2 ?_
          intro A3 m3 c3 w160 hh160 hd160 hg160
          have H160 := Lib.hid hh160
          have DN160 := Lib.hid hd160
          have DO160 := Lib.hid (DO158.out.far EN158.out.1 (fun v hv => by cases hv) hg160)
          clear hh160 hd160 hg160
          refine hK _ _ trivial (fun _ => ?_)
          clear hK K
          ((try simp only [Act.put]); (try simp only [List.setIfInBounds_toArray]); (repeat (first | simp only [List.set_cons_succ] | simp only [List.set_cons_zero])))
          refine wpAnyH_ready (rs := [9]) (by kernel_rfl) (by simp) ?_
          refine AllReadyH.cons rfl (fun K hK => ?_) AllReadyH.nil
          have hcl : w160.cell? ⟨w.heap.size, 6, none⟩ = some (.slice s.Ao s.no s.co) := H160.out.r1.cell 6
          have hfr := H160.out.r1.frozen 6
          go_simp
          have HX := Lib.hid (H160.out.set6 A2 m2 c2)
          have DX := Lib.hid (DO160.out.set H160.out 6 (.slice A2 m2 c2))
          have DY := Lib.hid (DN160.out.set H160.out 6 (.slice A2 m2 c2))
          generalize w160.setCell ⟨w.heap.size, 6, none⟩ (.slice A2 m2 c2) = wx at *
          clear hcl hfr
          refine hK _ _ trivial (fun _ => ?_)
          clear hK K
          ((try simp only [Act.put]); (try simp only [List.setIfInBounds_toArray]); (repeat (first | simp only [List.set_cons_succ] | simp only [List.set_cons_zero])))
          refine wpAnyH_take (i := 10) (oi := ⟨some 12, _, _, _, _, _⟩) (v := ?v10g161) rfl (by kernel_rfl) (by kernel_rfl) (by kernel_rfl) (fun _ _ _ h => h) (Or.inl ⟨by rfl, ?y10g161⟩) trivial ?r10g161
          case y10g161 =>
            rintro w' hSw
            go_simp
            try with_reducible rfl
          ((try simp only [Act.put]); (try simp only [List.setIfInBounds_toArray]); (repeat (first | simp only [List.set_cons_succ] | simp only [List.set_cons_zero])))
          refine wpAnyH_ready (rs := [11]) (by kernel_rfl) (by simp) ?_
          refine AllReadyH.cons rfl (fun K hK => ?_) AllReadyH.nil
          have hcl : wx.cell? ⟨w.heap.size, 7, none⟩ = some (.slice s.An s.nn s.cn) := HX.out.r1.cell 7
          have hfr := HX.out.r1.frozen 7
          go_simp
          have HE := Lib.hid (show Cpy w r (wx.setCell ⟨w.heap.size, 7, none⟩ (.slice A3 m3 c3)) from ⟨A2, m2, c2, A3, m3, c3, HX.out.set7 A3 m3 c3, DX.out.set HX.out 7 _, DY.out.set HX.out 7 _⟩)
          generalize wx.setCell ⟨w.heap.size, 7, none⟩ (.slice A3 m3 c3) = wy at *
          clear hcl hfr
          refine hK _ _ trivial (fun _ => ?_)
          clear hK K
          ((try simp only [Act.put]); (try simp only [List.setIfInBounds_toArray]); (repeat (first | simp only [List.set_cons_succ] | simp only [List.set_cons_zero])))
          refine wpAnyH_done (by kernel_rfl) ?_ _
          go_wp2_with fail
          go_meet
          exact HE.out
      · have hcl : w143.cell? ⟨w.heap.size, 6, none⟩ = some (.slice s.Ao s.no s.co) := H143.out.r1.cell 6
        go_simp
        clear hcl
        refine hK _ _ trivial (fun _ => ?_)
        clear hK K
        ((try simp only [Act.put]); (try simp only [List.setIfInBounds_toArray]); (repeat (first | simp only [List.set_cons_succ] | simp only [List.set_cons_zero])))
        refine wpAnyH_ready (rs := [0, 6]) (by kernel_rfl) (by simp) ?_
        refine (AllReadyH.cons rfl (fun K hK => ?_) (AllReadyH.cons rfl (fun K hK => ?_) AllReadyH.nil))
        · go_simp
          have EO163 := Lib.hid (Em.new H143.out)
          have H163 := Lib.hid H143.out.alloc
          have EN163 := Lib.hid EN143.out.alloc
          have hne : w143.heap.size ≠ gN := EN143.out.ne
          generalize w143.heap.size = gO at *
          generalize w143.alloc (.cells #[] 5) = w163 at *
          refine hK _ _ trivial (fun _ => ?_)
          clear hK K
          ((try simp only [Act.put]); (try simp only [List.setIfInBounds_toArray]); (repeat (first | simp only [List.set_cons_succ] | simp only [List.set_cons_zero])))
          refine wpAnyH_ready (rs := [3, 6]) (by kernel_rfl) (by simp) ?_
          refine (AllReadyH.cons rfl (fun K hK => ?_) (AllReadyH.cons rfl (fun K hK => ?_) AllReadyH.nil))
          · rw [if_pos (by rfl)]
            refine Cp.app H163.out EO163.out (.tmp 3) (.tmp 5) rfl i0 Try.underlying25 hi hz0 hz1 hz2 rfl rfl HA.out.lo HA.out.bo HA.out.ao hs.1 ?_
            intro A2 m2 c2 w164 hh164 hd164 hg164
            have H164 := Lib.hid hh164
            have DO164 := Lib.hid hd164
            have EN164 := Lib.hid (EN163.out.grown hg164 (Ne.symm hne))
            clear hh164 hd164 hg164
            refine hK _ _ trivial (fun _ => ?_)
            clear hK K
            ((try simp only [Act.put]); (try simp only [List.setIfInBounds_toArray]); (repeat (first | simp only [List.set_cons_succ] | simp only [List.set_cons_zero])))
            refine wpAnyH_ready (rs := [6]) (by kernel_rfl) (by simp) ?_
            refine (AllReadyH.cons rfl (fun K hK => ?_) AllReadyH.nil)
            have hcl : w164.cell? ⟨w.heap.size, 7, none⟩ = some (.slice s.An s.nn s.cn) := H164.out.r1.cell 7
            go_simp
            clear hcl
            refine hK _ _ trivial (fun _ => ?_)
            clear hK K
            ((try simp only [Act.put]); (try simp only [List.setIfInBounds_toArray]); (repeat (first | simp only [List.set_cons_succ] | simp only [List.set_cons_zero])))
            refine wpAnyH_take (i := 8) (oi := ⟨some 11, _, _, _, _, _⟩) (v := ?v8e166) rfl (by kernel_rfl) (by kernel_rfl) (by kernel_rfl) (fun _ _ _ h => h) (Or.inl ⟨by rfl, ?y8e166⟩) trivial ?r8e166
            case y8e166 =>
              rintro w' hSw
              go_simp
              try with_reducible rfl
            ((try simp only [Act.put]); (try simp only [List.setIfInBounds_toArray]); (repeat (first | simp only [List.set_cons_succ] | simp only [List.set_cons_zero])))
            refine wpAnyH_ready (rs := [7]) (by kernel_rfl) (by simp) ?_
            refine (AllReadyH.cons rfl (fun K hK => ?_) AllReadyH.nil)
            rw [if_pos (by rfl)]
            refine Cp.app H164.out EN164.out (.tmp 7) (.tmp 9) rfl i0 Try.underlying25 hi hz0 hz1 hz2 rfl rfl HA.out.ln HA.out.bn HA.out.an hs.2 ?_
            intro A3 m3 c3 w167 hh167 hd167 hg167
            have H167 := Lib.hid hh167
            have DN167 := Lib.hid hd167
            have DO167 := Lib.hid (DO164.out.far EN164.out.1 (fun v hv => by cases hv) hg167)
            clear hh167 hd167 hg167
            refine hK _ _ trivial (fun _ => ?_)
            clear hK K
            ((try simp only [Act.put]); (try simp only [List.setIfInBounds_toArray]); (repeat (first | simp only [List.set_cons_succ] | simp only [List.set_cons_zero])))
            refine wpAnyH_ready (rs := [9]) (by kernel_rfl) (by simp) ?_
            refine AllReadyH.cons rfl (fun K hK => ?_) AllReadyH.nil
            have hcl : w167.cell? ⟨w.heap.size, 6, none⟩ = some (.slice s.Ao s.no s.co) := H167.out.r1.cell 6
            have hfr := H167.out.r1.frozen 6
            go_simp
            have HX := Lib.hid (H167.out.set6 A2 m2 c2)
            have DX := Lib.hid (DO167.out.set H167.out 6 (.slice A2 m2 c2))
            have DY := Lib.hid (DN167.out.set H167.out 6 (.slice A2 m2 c2))
            generalize w167.setCell ⟨w.heap.size, 6, none⟩ (.slice A2 m2 c2) = wx at *
            clear hcl hfr
            refine hK _ _ trivial (fun _ => ?_)
            clear hK K
            ((try simp only [Act.put]); (try simp only [List.setIfInBounds_toArray]); (repeat (first | simp only [List.set_cons_succ] | simp only [List.set_cons_zero])))
            refine wpAnyH_take (i := 10) (oi := ⟨some 12, _, _, _, _, _⟩) (v := ?v10g168) rfl (by kernel_rfl) (by kernel_rfl) (by kernel_rfl) (fun _ _ _ h => h) (Or.inl ⟨by rfl, ?y10g168⟩) trivial ?r10g168
            case y10g168 =>
              rintro w' hSw
              go_simp
              try with_reducible rfl
            ((try simp only [Act.put]); (try simp only [List.setIfInBounds_toArray]); (repeat (first | simp only [List.set_cons_succ] | simp only [List.set_cons_zero])))
            refine wpAnyH_ready (rs := [11]) (by kernel_rfl) (by simp) ?_
            refine AllReadyH.cons rfl (fun K hK => ?_) AllReadyH.nil
            have hcl : wx.cell? ⟨w.heap.size, 7, none⟩ = some (.slice s.An s.nn s.cn) := HX.out.r1.cell 7
            have hfr := HX.out.r1.frozen 7
            go_simp
            have HE := Lib.hid (show Cpy w r (wx.setCell ⟨w.heap.size, 7, none⟩ (.slice A3 m3 c3)) from ⟨A2, m2, c2, A3, m3, c3, HX.out.set7 A3 m3 c3, DX.out.set HX.out 7 _, DY.out.set HX.out 7 _⟩)
            generalize wx.setCell ⟨w.heap.size, 7, none⟩ (.slice A3 m3 c3) = wy at *
            clear hcl hfr
            refine hK _ _ trivial (fun _ => ?_)
            clear hK K
            ((try simp only [Act.put]); (try simp only [List.setIfInBounds_toArray]); (repeat (first | simp only [List.set_cons_succ] | simp only [List.set_cons_zero])))
            refine wpAnyH_done (by kernel_rfl) ?_ _
            go_wp2_with fail
            go_meet
            exact HE.out
          · have hcl : w163.cell? ⟨w.heap.size, 7, none⟩ = some (.slice s.An s.nn s.cn) := H163.out.r1.cell 7
            go_simp
            clear hcl
            refine hK _ _ trivial (fun _ => ?_)
            clear hK K
            ((try simp only [Act.put]); (try simp only [List.setIfInBounds_toArray]); (repeat (first | simp only [List.set_cons_succ] | simp only [List.set_cons_zero])))
            refine wpAnyH_ready (rs := [3]) (by kernel_rfl) (by simp) ?_
            refine (AllReadyH.cons rfl (fun K hK => ?_) AllReadyH.nil)
            rw [if_pos (by rfl)]
            refine Cp.app H163.out EO163.out (.tmp 3) (.tmp 5) rfl i0 Try.underlying25 hi hz0 hz1 hz2 rfl rfl HA.out.lo HA.out.bo HA.out.ao hs.1 ?_
            intro A2 m2 c2 w170 hh170 hd170 hg170
            have H170 := Lib.hid hh170
            have DO170 := Lib.hid hd170
            have EN170 := Lib.hid (EN163.out.grown hg170 (Ne.symm hne))
            clear hh170 hd170 hg170
            refine hK _ _ trivial (fun _ => ?_)
            clear hK K
            ((try simp only [Act.put]); (try simp only [List.setIfInBounds_toArray]); (repeat (first | simp only [List.set_cons_succ] | simp only [List.set_cons_zero])))
            refine wpAnyH_take (i := 8) (oi := ⟨some 11, _, _, _, _, _⟩) (v := ?v8e171) rfl (by kernel_rfl) (by kernel_rfl) (by kernel_rfl) (fun _ _ _ h => h) (Or.inl ⟨by rfl, ?y8e171⟩) trivial ?r8e171
            case y8e171 =>
              rintro w' hSw
              go_simp
              try with_reducible rfl
            ((try simp only [Act.put]); (try simp only [List.setIfInBounds_toArray]); (repeat (first | simp only [List.set_cons_succ] | simp only [List.set_cons_zero])))
            refine wpAnyH_ready (rs := [7]) (by kernel_rfl) (by simp) ?_
            refine (AllReadyH.cons rfl (fun K hK => ?_) AllReadyH.nil)
            rw [if_pos (by rfl)]
            refine Cp.app H170.out EN170.out (.tmp 7) (.tmp 9) rfl i0 Try.underlying25 hi hz0 hz1 hz2 rfl rfl HA.out.ln HA.out.bn HA.out.an hs.2 ?_
            intro A3 m3 c3 w172 hh172 hd172 hg172
            have H172 := Lib.hid hh172
            have DN172 := Lib.hid hd172
            have DO172 := Lib.hid (DO170.out.far EN170.out.1 (fun v hv => by cases hv) hg172)
            clear hh172 hd172 hg172
            refine hK _ _ trivial (fun _ => ?_)
            clear hK K
            ((try simp only [Act.put]); (try simp only [List.setIfInBounds_toArray]); (repeat (first | simp only [List.set_cons_succ] | simp only [List.set_cons_zero])))
            refine wpAnyH_ready (rs := [9]) (by kernel_rfl) (by simp) ?_
            refine AllReadyH.cons rfl (fun K hK => ?_) AllReadyH.nil
            have hcl : w172.cell? ⟨w.heap.size, 6, none⟩ = some (.slice s.Ao s.no s.co) := H172.out.r1.cell 6
            have hfr := H172.out.r1.frozen 6
            go_simp
            have HX := Lib.hid (H172.out.set6 A2 m2 c2)
            have DX := Lib.hid (DO172.out.set H172.out 6 (.slice A2 m2 c2))
            have DY := Lib.hid (DN172.out.set H172.out 6 (.slice A2 m2 c2))
            generalize w172.setCell ⟨w.heap.size, 6, none⟩ (.slice A2 m2 c2) = wx at *
            clear hcl hfr
            refine hK _ _ trivial (fun _ => ?_)
            clear hK K
            ((try simp only [Act.put]); (try simp only [List.setIfInBounds_toArray]); (repeat (first | simp only [List.set_cons_succ] | simp only [List.set_cons_zero])))
            refine wpAnyH_take (i := 10) (oi := ⟨some 12, _, _, _, _, _⟩) (v := ?v10g173) rfl (by kernel_rfl) (by kernel_rfl) (by kernel_rfl) (fun _ _ _ h => h) (Or.inl ⟨by rfl, ?y10g173⟩) trivial ?r10g173
            case y10g173 =>
              rintro w' hSw
              go_simp
              try with_reducible rfl
            ((try simp only [Act.put]); (try simp only [List.setIfInBounds_toArray]); (repeat (first | simp only [List.set_cons_succ] | simp only [List.set_cons_zero])))
            refine wpAnyH_ready (rs := [11]) (by kernel_rfl) (by simp) ?_
            refine AllReadyH.cons rfl (fun K hK => ?_) AllReadyH.nil
            have hcl : wx.cell? ⟨w.heap.size, 7, none⟩ = some (.slice s.An s.nn s.cn) := HX.out.r1.cell 7
            have hfr := HX.out.r1.frozen 7
            go_simp
            have HE := Lib.hid (show Cpy w r (wx.setCell ⟨w.heap.size, 7, none⟩ (.slice A3 m3 c3)) from ⟨A2, m2, c2, A3, m3, c3, HX.out.set7 A3 m3 c3, DX.out.set HX.out 7 _, DY.out.set HX.out 7 _⟩)
            generalize wx.setCell ⟨w.heap.size, 7, none⟩ (.slice A3 m3 c3) = wy at *
            clear hcl hfr
            refine hK _ _ trivial (fun _ => ?_)
            clear hK K
            ((try simp only [Act.put]); (try simp only [List.setIfInBounds_toArray]); (repeat (first | simp only [List.set_cons_succ] | simp only [List.set_cons_zero])))
            refine wpAnyH_done (by kernel_rfl) ?_ _
            go_wp2_with fail
            go_meet
            exact HE.out
        · have hcl : w143.cell? ⟨w.heap.size, 7, none⟩ = some (.slice s.An s.nn s.cn) := H143.out.r1.cell 7
          go_simp
          clear hcl
          refine hK _ _ trivial (fun _ => ?_)
          clear hK K
          ((try simp only [Act.put]); (try simp only [List.setIfInBounds_toArray]); (repeat (first | simp only [List.set_cons_succ] | simp only [List.set_cons_zero])))
          refine wpAnyH_ready (rs := [0]) (by kernel_rfl) (by simp) ?_
          refine (AllReadyH.cons rfl (fun K hK => ?_) AllReadyH.nil)
          go_simp
          have EO175 := Lib.hid (Em.new H143.out)
          have H175 := Lib.hid H143.out.alloc
          have EN175 := Lib.hid EN143.out.alloc
          have hne : w143.heap.size ≠ gN := EN143.out.ne
          generalize w143.heap.size = gO at *
          generalize w143.alloc (.cells #[] 5) = w175 at *
          refine hK _ _ trivial (fun _ => ?_)
          clear hK K
          ((try simp only [Act.put]); (try simp only [List.setIfInBounds_toArray]); (repeat (first | simp only [List.set_cons_succ] | simp only [List.set_cons_zero])))
          refine wpAnyH_ready (rs := [3]) (by kernel_rfl) (by simp) ?_
          refine (AllReadyH.cons rfl (fun K hK => ?_) AllReadyH.nil)
          rw [if_pos (by rfl)]
          refine Cp.app H175.out EO175.out (.tmp 3) (.tmp 5) rfl i0 Try.underlying25 hi hz0 hz1 hz2 rfl rfl HA.out.lo HA.out.bo HA.out.ao hs.1 ?_
          intro A2 m2 c2 w176 hh176 hd176 hg176
          have H176 := Lib.hid hh176
          have DO176 := Lib.hid hd176
          have EN176 := Lib.hid (EN175.out.grown hg176 (Ne.symm hne))
          clear hh176 hd176 hg176
          refine hK _ _ trivial (fun _ => ?_)
          clear hK K
          ((try simp only [Act.put]); (try simp only [List.setIfInBounds_toArray]); (repeat (first | simp only [List.set_cons_succ] | simp only [List.set_cons_zero])))
          refine wpAnyH_take (i := 8) (oi := ⟨some 11, _, _, _, _, _⟩) (v := ?v8e177) rfl (by kernel_rfl) (by kernel_rfl) (by kernel_rfl) (fun _ _ _ h => h) (Or.inl ⟨by rfl, ?y8e177⟩) trivial ?r8e177
          case y8e177 =>
            rintro w' hSw
            go_simp
            try with_reducible rfl
          ((try simp only [Act.put]); (try simp only [List.setIfInBounds_toArray]); (repeat (first | simp only [List.set_cons_succ] | simp only [List.set_cons_zero])))
          refine wpAnyH_ready (rs := [7]) (by kernel_rfl) (by simp) ?_
          refine (AllReadyH.cons rfl (fun K hK => ?_) AllReadyH.nil)
          rw [if_pos (by rfl)]
          refine Cp.app H176.out EN176.out (.tmp 7) (.tmp 9) rfl i0 Try.underlying25 hi hz0 hz1 hz2 rfl rfl HA.out.ln HA.out.bn HA.out.an hs.2 ?_
          intro A3 m3 c3 w178 hh178 hd178 hg178
          have H178 := Lib.hid hh178
          have DN178 := Lib.hid hd178
          have DO178 := Lib.hid (DO176.out.far EN176.out.1 (fun v hv => by cases hv) hg178)
          clear hh178 hd178 hg178
          refine hK _ _ trivial (fun _ => ?_)
          clear hK K
          ((try simp only [Act.put]); (try simp only [List.setIfInBounds_toArray]); (repeat (first | simp only [List.set_cons_succ] | simp only [List.set_cons_zero])))
          refine wpAnyH_ready (rs := [9]) (by kernel_rfl) (by simp) ?_
          refine AllReadyH.cons rfl (fun K hK => ?_) AllReadyH.nil
          have hcl : w178.cell? ⟨w.heap.size, 6, none⟩ = some (.slice s.Ao s.no s.co) := H178.out.r1.cell 6
          have hfr := H178.out.r1.frozen 6
          go_simp
          have HX := Lib.hid (H178.out.set6 A2 m2 c2)
          have DX := Lib.hid (DO178.out.set H178.out 6 (.slice A2 m2 c2))
          have DY := Lib.hid (DN178.out.set H178.out 6 (.slice A2 m2 c2))
          generalize w178.setCell ⟨w.heap.size, 6, none⟩ (.slice A2 m2 c2) = wx at *
          clear hcl hfr
          refine hK _ _ trivial (fun _ => ?_)
          clear hK K
          ((try simp only [Act.put]); (try simp only [List.setIfInBounds_toArray]); (repeat (first | simp only [List.set_cons_succ] | simp only [List.set_cons_zero])))
          refine wpAnyH_take (i := 10) (oi := ⟨some 12, _, _, _, _, _⟩) (v := ?v10g179) rfl (by kernel_rfl) (by kernel_rfl) (by kernel_rfl) (fun _ _ _ h => h) (Or.inl ⟨by rfl, ?y10g179⟩) trivial ?r10g179
          case y10g179 =>
            rintro w' hSw
            go_simp
            try with_reducible rfl
          ((try simp only [Act.put]); (try simp only [List.setIfInBounds_toArray]); (repeat (first | simp only [List.set_cons_succ] | simp only [List.set_cons_zero])))
          refine wpAnyH_ready (rs := [11]) (by kernel_rfl) (by simp) ?_
          refine AllReadyH.cons rfl (fun K hK => ?_) AllReadyH.nil
          have hcl : wx.cell? ⟨w.heap.size, 7, none⟩ = some (.slice s.An s.nn s.cn) := HX.out.r1.cell 7
          have hfr := HX.out.r1.frozen 7
          go_simp
          have HE := Lib.hid (show Cpy w r (wx.setCell ⟨w.heap.size, 7, none⟩ (.slice A3 m3 c3)) from ⟨A2, m2, c2, A3, m3, c3, HX.out.set7 A3 m3 c3, DX.out.set HX.out 7 _, DY.out.set HX.out 7 _⟩)
          generalize wx.setCell ⟨w.heap.size, 7, none⟩ (.slice A3 m3 c3) = wy at *
          clear hcl hfr
          refine hK _ _ trivial (fun _ => ?_)
          clear hK K
          ((try simp only [Act.put]); (try simp only [List.setIfInBounds_toArray]); (repeat (first | simp only [List.set_cons_succ] | simp only [List.set_cons_zero])))
          refine wpAnyH_done (by kernel_rfl) ?_ _
          go_wp2_with fail
          go_meet
          exact HE.out
      · have hcl : w143.cell? ⟨w.heap.size, 7, none⟩ = some (.slice s.An s.nn s.cn) := H143.out.r1.cell 7
        go_simp
        clear hcl
        refine hK _ _ trivial (fun _ => ?_)
        clear hK K
        ((try simp only [Act.put]); (try simp only [List.setIfInBounds_toArray]); (repeat (first | simp only [List.set_cons_succ] | simp only [List.set_cons_zero])))
        refine wpAnyH_ready (rs := [0, 2]) (by kernel_rfl) (by simp) ?_
        refine (AllReadyH.cons rfl (fun K hK => ?_) (AllReadyH.cons rfl (fun K hK => ?_) AllReadyH.nil))
        · go_simp
          have EO181 := Lib.hid (Em.new H143.out)
          have H181 := Lib.hid H143.out.alloc
          have EN181 := Lib.hid EN143.out.alloc
          have hne : w143.heap.size ≠ gN := EN143.out.ne
          generalize w143.heap.size = gO at *
          generalize w143.alloc (.cells #[] 5) = w181 at *
          refine hK _ _ trivial (fun _ => ?_)
          clear hK K
          ((try simp only [Act.put]); (try simp only [List.setIfInBounds_toArray]); (repeat (first | simp only [List.set_cons_succ] | simp only [List.set_cons_zero])))
          refine wpAnyH_ready (rs := [2]) (by kernel_rfl) (by simp) ?_
          refine (AllReadyH.cons rfl (fun K hK => ?_) AllReadyH.nil)
          have hcl : w181.cell? ⟨w.heap.size, 6, none⟩ = some (.slice s.Ao s.no s.co) := H181.out.r1.cell 6
          go_simp
          clear hcl
          refine hK _ _ trivial (fun _ => ?_)
          clear hK K
          ((try simp only [Act.put]); (try simp only [List.setIfInBounds_toArray]); (repeat (first | simp only [List.set_cons_succ] | simp only [List.set_cons_zero])))
          refine wpAnyH_ready (rs := [3]) (by kernel_rfl) (by simp) ?_
          refine (AllReadyH.cons rfl (fun K hK => ?_) AllReadyH.nil)
          rw [if_pos (by rfl)]
          refine Cp.app H181.out EO181.out (.tmp 3) (.tmp 5) rfl i0 Try.underlying25 hi hz0 hz1 hz2 rfl rfl HA.out.lo HA.out.bo HA.out.ao hs.1 ?_
          intro A2 m2 c2 w183 hh183 hd183 hg183
          have H183 := Lib.hid hh183
          have DO183 := Lib.hid hd183
          have EN183 := Lib.hid (EN181.out.grown hg183 (Ne.symm hne))
          clear hh183 hd183 hg183
          refine hK _ _ trivial (fun _ => ?_)
          clear hK K
          ((try simp only [Act.put]); (try simp only [List.setIfInBounds_toArray]); (repeat (first | simp only [List.set_cons_succ] | simp only [List.set_cons_zero])))
          refine wpAnyH_take (i := 8) (oi := ⟨some 11, _, _, _, _, _⟩) (v := ?v8e184) rfl (by kernel_rfl) (by kernel_rfl) (by kernel_rfl) (fun _ _ _ h => h) (Or.inl ⟨by rfl, ?y8e184⟩) trivial ?r8e184
          case y8e184 =>
            rintro w' hSw
            go_simp
            try with_reducible rfl
          ((try simp only [Act.put]); (try simp only [List.setIfInBounds_toArray]); (repeat (first | simp only [List.set_cons_succ] | simp only [List.set_cons_zero])))
          refine wpAnyH_ready (rs := [7]) (by kernel_rfl) (by simp) ?_
          refine (AllReadyH.cons rfl (fun K hK => ?_) AllReadyH.nil)
          rw [if_pos (by rfl)]
          refine Cp.app H183.out EN183.out (.tmp 7) (.tmp 9) rfl i0 Try.underlying25 hi hz0 hz1 hz2 rfl rfl HA.out.ln HA.out.bn HA.out.an hs.2 ?_
          intro A3 m3 c3 w185 hh185 hd185 hg185
          have H185 := Lib.hid hh185
          have DN185 := Lib.hid hd185
          have DO185 := Lib.hid (DO183.out.far EN183.out.1 (fun v hv => by cases hv) hg185)
          clear hh185 hd185 hg185
          refine hK _ _ trivial (fun _ => ?_)
          clear hK K
          ((try simp only [Act.put]); (try simp only [List.setIfInBounds_toArray]); (repeat (first | simp only [List.set_cons_succ] | simp only [List.set_cons_zero])))
          refine wpAnyH_ready (rs := [9]) (by kernel_rfl) (by simp) ?_
          refine AllReadyH.cons rfl (fun K hK => ?_) AllReadyH.nil
          have hcl : w185.cell? ⟨w.heap.size, 6, none⟩ = some (.slice s.Ao s.no s.co) := H185.out.r1.cell 6
          have hfr := H185.out.r1.frozen 6
          go_simp
          have HX := Lib.hid (H185.out.set6 A2 m2 c2)
          have DX := Lib.hid (DO185.out.set H185.out 6 (.slice A2 m2 c2))
          have DY := Lib.hid (DN185.out.set H185.out 6 (.slice A2 m2 c2))
          generalize w185.setCell ⟨w.heap.size, 6, none⟩ (.slice A2 m2 c2) = wx at *
          clear hcl hfr
          refine hK _ _ trivial (fun _ => ?_)
          clear hK K
          ((try simp only [Act.put]); (try simp only [List.setIfInBounds_toArray]); (repeat (first | simp only [List.set_cons_succ] | simp only [List.set_cons_zero])))
          refine wpAnyH_take (i := 10) (oi := ⟨some 12, _, _, _, _, _⟩) (v := ?v10g186) rfl (by kernel_rfl) (by kernel_rfl) (by kernel_rfl) (fun _ _ _ h => h) (Or.inl ⟨by rfl, ?y10g186⟩) trivial ?r10g186
          case y10g186 =>
            rintro w' hSw
            go_simp
            try with_reducible rfl
          ((try simp only [Act.put]); (try simp only [List.setIfInBounds_toArray]); (repeat (first | simp only [List.set_cons_succ] | simp only [List.set_cons_zero])))
          refine wpAnyH_ready (rs := [11]) (by kernel_rfl) (by simp) ?_
          refine AllReadyH.cons rfl (fun K hK => ?_) AllReadyH.nil
          have hcl : wx.cell? ⟨w.heap.size, 7, none⟩ = some (.slice s.An s.nn s.cn) := HX.out.r1.cell 7
          have hfr := HX.out.r1.frozen 7
          go_simp
          have HE := Lib.hid (show Cpy w r (wx.setCell ⟨w.heap.size, 7, none⟩ (.slice A3 m3 c3)) from ⟨A2, m2, c2, A3, m3, c3, HX.out.set7 A3 m3 c3, DX.out.set HX.out 7 _, DY.out.set HX.out 7 _⟩)
          generalize wx.setCell ⟨w.heap.size, 7, none⟩ (.slice A3 m3 c3) = wy at *
          clear hcl hfr
          refine hK _ _ trivial (fun _ => ?_)
          clear hK K
          ((try simp only [Act.put]); (try simp only [List.setIfInBounds_toArray]); (repeat (first | simp only [List.set_cons_succ] | simp only [List.set_cons_zero])))
          refine wpAnyH_done (by kernel_rfl) ?_ _
          go_wp2_with fail
          go_meet
          exact HE.out
        · have hcl : w143.cell? ⟨w.heap.size, 6, none⟩ = some (.slice s.Ao s.no s.co) := H143.out.r1.cell 6
          go_simp
          clear hcl
          refine hK _ _ trivial (fun _ => ?_)
          clear hK K
          ((try simp only [Act.put]); (try simp only [List.setIfInBounds_toArray]); (repeat (first | simp only [List.set_cons_succ] | simp only [List.set_cons_zero])))
          refine wpAnyH_ready (rs := [0]) (by kernel_rfl) (by simp) ?_
          refine (AllReadyH.cons rfl (fun K hK => ?_) AllReadyH.nil)
          go_simp
          have EO188 := Lib.hid (Em.new H143.out)
          have H188 := Lib.hid H143.out.alloc
          have EN188 := Lib.hid EN143.out.alloc
          have hne : w143.heap.size ≠ gN := EN143.out.ne
          generalize w143.heap.size = gO at *
          generalize w143.alloc (.cells #[] 5) = w188 at *
          refine hK _ _ trivial (fun _ => ?_)
          clear hK K
          ((try simp only [Act.put]); (try simp only [List.setIfInBounds_toArray]); (repeat (first | simp only [List.set_cons_succ] | simp only [List.set_cons_zero])))
          refine wpAnyH_ready (rs := [3]) (by kernel_rfl) (by simp) ?_
          refine (AllReadyH.cons rfl (fun K hK => ?_) AllReadyH.nil)
          rw [if_pos (by rfl)]
          refine Cp.app H188.out EO188.out (.tmp 3) (.tmp 5) rfl i0 Try.underlying25 hi hz0 hz1 hz2 rfl rfl HA.out.lo HA.out.bo HA.out.ao hs.1 ?_
          intro A2 m2 c2 w189 hh189 hd189 hg189
          have H189 := Lib.hid hh189
          have DO189 := Lib.hid hd189
          have EN189 := Lib.hid (EN188.out.grown hg189 (Ne.symm hne))
          clear hh189 hd189 hg189
          refine hK _ _ trivial (fun _ => ?_)
          clear hK K
          ((try simp only [Act.put]); (try simp only [List.setIfInBounds_toArray]); (repeat (first | simp only [List.set_cons_succ] | simp only [List.set_cons_zero])))
          refine wpAnyH_take (i := 8) (oi := ⟨some 11, _, _, _, _, _⟩) (v := ?v8e190) rfl (by kernel_rfl) (by kernel_rfl) (by kernel_rfl) (fun _ _ _ h => h) (Or.inl ⟨by rfl, ?y8e190⟩) trivial ?r8e190
          case y8e190 =>
            rintro w' hSw
            go_simp
            try with_reducible rfl
          ((try simp only [Act.put]); (try simp only [List.setIfInBounds_toArray]); (repeat (first | simp only [List.set_cons_succ] | simp only [List.set_cons_zero])))
          refine wpAnyH_ready (rs := [7]) (by kernel_rfl) (by simp) ?_
          refine (AllReadyH.cons rfl (fun K hK => ?_) AllReadyH.nil)
          rw [if_pos (by rfl)]
          refine Cp.app H189.out EN189.out (.tmp 7) (.tmp 9) rfl i0 Try.underlying25 hi hz0 hz1 hz2 rfl rfl HA.out.ln HA.out.bn HA.out.an hs.2 ?_
          intro A3 m3 c3 w191 hh191 hd191 hg191
          have H191 := Lib.hid hh191
          have DN191 := Lib.hid hd191
          have DO191 := Lib.hid (DO189.out.far EN189.out.1 (fun v hv => by cases hv) hg191)
          clear hh191 hd191 hg191
          refine hK _ _ trivial (fun _ => ?_)
          clear hK K
          ((try simp only [Act.put]); (try simp only [List.setIfInBounds_toArray]); (repeat (first | simp only [List.set_cons_succ] | simp only [List.set_cons_zero])))
          refine wpAnyH_ready (rs := [9]) (by kernel_rfl) (by simp) ?_
          refine AllReadyH.cons rfl (fun K hK => ?_) AllReadyH.nil
          have hcl : w191.cell? ⟨w.heap.size, 6, none⟩ = some (.slice s.Ao s.no s.co) := H191.out.r1.cell 6
          have hfr := H191.out.r1.frozen 6
          go_simp
          have HX := Lib.hid (H191.out.set6 A2 m2 c2)
          have DX := Lib.hid (DO191.out.set H191.out 6 (.slice A2 m2 c2))
          have DY := Lib.hid (DN191.out.set H191.out 6 (.slice A2 m2 c2))
          generalize w191.setCell ⟨w.heap.size, 6, none⟩ (.slice A2 m2 c2) = wx at *
          clear hcl hfr
          refine hK _ _ trivial (fun _ => ?_)
          clear hK K
          ((try simp only [Act.put]); (try simp only [List.setIfInBounds_toArray]); (repeat (first | simp only [List.set_cons_succ] | simp only [List.set_cons_zero])))
          refine wpAnyH_take (i := 10) (oi := ⟨some 12, _, _, _, _, _⟩) (v := ?v10g192) rfl (by kernel_rfl) (by kernel_rfl) (by kernel_rfl) (fun _ _ _ h => h) (Or.inl ⟨by rfl, ?y10g192⟩) trivial ?r10g192
          case y10g192 =>
            rintro w' hSw
            go_simp
            try with_reducible rfl
          ((try simp only [Act.put]); (try simp only [List.setIfInBounds_toArray]); (repeat (first | simp only [List.set_cons_succ] | simp only [List.set_cons_zero])))
          refine wpAnyH_ready (rs := [11]) (by kernel_rfl) (by simp) ?_
          refine AllReadyH.cons rfl (fun K hK => ?_) AllReadyH.nil
          have hcl : wx.cell? ⟨w.heap.size, 7, none⟩ = some (.slice s.An s.nn s.cn) := HX.out.r1.cell 7
          have hfr := HX.out.r1.frozen 7
          go_simp
          have HE := Lib.hid (show Cpy w r (wx.setCell ⟨w.heap.size, 7, none⟩ (.slice A3 m3 c3)) from ⟨A2, m2, c2, A3, m3, c3, HX.out.set7 A3 m3 c3, DX.out.set HX.out 7 _, DY.out.set HX.out 7 _⟩)
          generalize wx.setCell ⟨w.heap.size, 7, none⟩ (.slice A3 m3 c3) = wy at *
          clear hcl hfr
          refine hK _ _ trivial (fun _ => ?_)
          clear hK K
          ((try simp only [Act.put]); (try simp only [List.setIfInBounds_toArray]); (repeat (first | simp only [List.set_cons_succ] | simp only [List.set_cons_zero])))
          refine wpAnyH_done (by kernel_rfl) ?_ _
          go_wp2_with fail
          go_meet
          exact HE.out
    · have hcl : w1.cell? ⟨w.heap.size, 7, none⟩ = some (.slice s.An s.nn s.cn) := H.out.r1.cell 7
      go_simp
      clear hcl
      refine hK _ _ trivial (fun _ => ?_)
      clear hK K
      ((try simp only [Act.put]); (try simp only [List.setIfInBounds_toArray]); (repeat (first | simp only [List.set_cons_succ] | simp only [List.set_cons_zero])))
      refine wpAnyH_ready (rs := [0, 2, 4]) (by kernel_rfl) (by simp) ?_
      refine (AllReadyH.cons rfl (fun K hK => ?_) (AllReadyH.cons rfl (fun K hK => ?_) (AllReadyH.cons rfl (fun K hK => ?_) AllReadyH.nil)))
      · go_simp
        have EO194 := Lib.hid (Em.new H.out)
        have H194 := Lib.hid H.out.alloc
        generalize w1.heap.size = gO at *
        generalize w1.alloc (.cells #[] 5) = w194 at *
        refine hK _ _ trivial (fun _ => ?_)
        clear hK K
        ((try simp only [Act.put]); (try simp only [List.setIfInBounds_toArray]); (repeat (first | simp only [List.set_cons_succ] | simp only [List.set_cons_zero])))
        refine wpAnyH_ready (rs := [2, 4]) (by kernel_rfl) (by simp) ?_
        refine (AllReadyH.cons rfl (fun K hK => ?_) (AllReadyH.cons rfl (fun K hK => ?_) AllReadyH.nil))
        · have hcl : w194.cell? ⟨w.heap.size, 6, none⟩ = some (.slice s.Ao s.no s.co) := H194.out.r1.cell 6
          go_simp
          clear hcl
          refine hK _ _ trivial (fun _ => ?_)
          clear hK K
          ((try simp only [Act.put]); (try simp only [List.setIfInBounds_toArray]); (repeat (first | simp only [List.set_cons_succ] | simp only [List.set_cons_zero])))
          refine wpAnyH_ready (rs := [3, 4]) (by kernel_rfl) (by simp) ?_
          refine (AllReadyH.cons rfl (fun K hK => ?_) (AllReadyH.cons rfl (fun K hK => ?_) AllReadyH.nil))
          · rw [if_pos (by rfl)]
            refine Cp.app H194.out EO194.out (.tmp 3) (.tmp 5) rfl i0 Try.underlying25 hi hz0 hz1 hz2 rfl rfl HA.out.lo HA.out.bo HA.out.ao hs.1 ?_
            intro A2 m2 c2 w196 hh196 hd196 hg196
            have H196 := Lib.hid hh196
            have DO196 := Lib.hid hd196
            clear hh196 hd196 hg196
            refine hK _ _ trivial (fun _ => ?_)
            clear hK K
            ((try simp only [Act.put]); (try simp only [List.setIfInBounds_toArray]); (repeat (first | simp only [List.set_cons_succ] | simp only [List.set_cons_zero])))
            refine wpAnyH_take (i := 8) (oi := ⟨some 11, _, _, _, _, _⟩) (v := ?v8e197) rfl (by kernel_rfl) (by kernel_rfl) (by kernel_rfl) (fun _ _ _ h => h) (Or.inl ⟨by rfl, ?y8e197⟩) trivial ?r8e197
            case y8e197 =>
              rintro w' hSw
              go_simp
              try with_reducible rfl
            ((try simp only [Act.put]); (try simp only [List.setIfInBounds_toArray]); (repeat (first | simp only [List.set_cons_succ] | simp only [List.set_cons_zero])))
            refine wpAnyH_ready (rs := [4]) (by kernel_rfl) (by simp) ?_
            refine (AllReadyH.cons rfl (fun K hK => ?_) AllReadyH.nil)
            go_simp
            have EN198 := Lib.hid (Em.new H196.out)
            have H198 := Lib.hid H196.out.alloc
            have DO198 := Lib.hid DO196.out.alloc
            generalize w196.heap.size = gN at *
            generalize w196.alloc (.cells #[] 5) = w198 at *
            refine hK _ _ trivial (fun _ => ?_)
            clear hK K
            ((try simp only [Act.put]); (try simp only [List.setIfInBounds_toArray]); (repeat (first | simp only [List.set_cons_succ] | simp only [List.set_cons_zero])))
            refine wpAnyH_ready (rs := [7]) (by kernel_rfl) (by simp) ?_
            refine (AllReadyH.cons rfl (fun K hK => ?_) AllReadyH.nil)
            rw [if_pos (by rfl)]
            refine Cp.app H198.out EN198.out (.tmp 7) (.tmp 9) rfl i0 Try.underlying25 hi hz0 hz1 hz2 rfl rfl HA.out.ln HA.out.bn HA.out.an hs.2 ?_
            intro A3 m3 c3 w199 hh199 hd199 hg199
            have H199 := Lib.hid hh199
            have DN199 := Lib.hid hd199
            have DO199 := Lib.hid (DO198.out.far EN198.out.1 (fun v hv => by cases hv) hg199)
            clear hh199 hd199 hg199
            refine hK _ _ trivial (fun _ => ?_)
            clear hK K
            ((try simp only [Act.put]); (try simp only [List.setIfInBounds_toArray]); (repeat (first | simp only [List.set_cons_succ] | simp only [List.set_cons_zero])))
            refine wpAnyH_ready (rs := [9]) (by kernel_rfl) (by simp) ?_
            refine AllReadyH.cons rfl (fun K hK => ?_) AllReadyH.nil
            have hcl : w199.cell? ⟨w.heap.size, 6, none⟩ = some (.slice s.Ao s.no s.co) := H199.out.r1.cell 6
            have hfr := H199.out.r1.frozen 6
            go_simp
            have HX := Lib.hid (H199.out.set6 A2 m2 c2)
            have DX := Lib.hid (DO199.out.set H199.out 6 (.slice A2 m2 c2))
            have DY := Lib.hid (DN199.out.set H199.out 6 (.slice A2 m2 c2))
            generalize w199.setCell ⟨w.heap.size, 6, none⟩ (.slice A2 m2 c2) = wx at *
            clear hcl hfr
            refine hK _ _ trivial (fun _ => ?_)
            clear hK K
            ((try simp only [Act.put]); (try simp only [List.setIfInBounds_toArray]); (repeat (first | simp only [List.set_cons_succ] | simp only [List.set_cons_zero])))
            refine wpAnyH_take (i := 10) (oi := ⟨some 12, _, _, _, _, _⟩) (v := ?v10g200) rfl (by kernel_rfl) (by kernel_rfl) (by kernel_rfl) (fun _ _ _ h => h) (Or.inl ⟨by rfl, ?y10g200⟩) trivial ?r10g200
            case y10g200 =>
              rintro w' hSw
              go_simp
              try with_reducible rfl
            ((try simp only [Act.put]); (try simp only [List.setIfInBounds_toArray]); (repeat (first | simp only [List.set_cons_succ] | simp only [List.set_cons_zero])))
            refine wpAnyH_ready (rs := [11]) (by kernel_rfl) (by simp) ?_
            refine AllReadyH.cons rfl (fun K hK => ?_) AllReadyH.nil
            have hcl : wx.cell? ⟨w.heap.size, 7, none⟩ = some (.slice s.An s.nn s.cn) := HX.out.r1.cell 7
            have hfr := HX.out.r1.frozen 7
            go_simp
            have HE := Lib.hid (show Cpy w r (wx.setCell ⟨w.heap.size, 7, none⟩ (.slice A3 m3 c3)) from ⟨A2, m2, c2, A3, m3, c3, HX.out.set7 A3 m3 c3, DX.out.set HX.out 7 _, DY.out.set HX.out 7 _⟩)
            generalize wx.setCell ⟨w.heap.size, 7, none⟩ (.slice A3 m3 c3) = wy at *
            clear hcl hfr
            refine hK _ _ trivial (fun _ => ?_)
            clear hK K
            ((try simp only [Act.put]); (try simp only [List.setIfInBounds_toArray]); (repeat (first | simp only [List.set_cons_succ] | simp only [List.set_cons_zero])))
            refine wpAnyH_done (by kernel_rfl) ?_ _
            go_wp2_with fail
            go_meet
            exact HE.out
          · go_simp
            have EN201 := Lib.hid (Em.new H194.out)
            have H201 := Lib.hid H194.out.alloc
            have EO201 := Lib.hid EO194.out.alloc
            have hne : gO ≠ w194.heap.size := EO194.out.ne.symm
            generalize w194.heap.size = gN at *
            generalize w194.alloc (.cells #[] 5) = w201 at *
            refine hK _ _ trivial (fun _ => ?_)
            clear hK K
            ((try simp only [Act.put]); (try simp only [List.setIfInBounds_toArray]); (repeat (first | simp only [List.set_cons_succ] | simp only [List.set_cons_zero])))
            refine wpAnyH_ready (rs := [3]) (by kernel_rfl) (by simp) ?_
            refine (AllReadyH.cons rfl (fun K hK => ?_) AllReadyH.nil)
            rw [if_pos (by rfl)]
            refine Cp.app H201.out EO201.out (.tmp 3) (.tmp 5) rfl i0 Try.underlying25 hi hz0 hz1 hz2 rfl rfl HA.out.lo HA.out.bo HA.out.ao hs.1 ?_
            intro A2 m2 c2 w202 hh202 hd202 hg202
            have H202 := Lib.hid hh202
            have DO202 := Lib.hid hd202
            have EN202 := Lib.hid (EN201.out.grown hg202 (Ne.symm hne))
            clear hh202 hd202 hg202
            refine hK _ _ trivial (fun _ => ?_)
            clear hK K
            ((try simp only [Act.put]); (try simp only [List.setIfInBounds_toArray]); (repeat (first | simp only [List.set_cons_succ] | simp only [List.set_cons_zero])))
            refine wpAnyH_take (i := 8) (oi := ⟨some 11, _, _, _, _, _⟩) (v := ?v8e203) rfl (by kernel_rfl) (by kernel_rfl) (by kernel_rfl) (fun _ _ _ h => h) (Or.inl ⟨by rfl, ?y8e203⟩) trivial ?r8e203
            case y8e203 =>
              rintro w' hSw
              go_simp
              try with_reducible rfl
            ((try simp only [Act.put]); (try simp only [List.setIfInBounds_toArray]); (repeat (first | simp only [List.set_cons_succ] | simp only [List.set_cons_zero])))
            refine wpAnyH_ready (rs := [7]) (by kernel_rfl) (by simp) ?_
            refine (AllReadyH.cons rfl (fun K hK => ?_) AllReadyH.nil)
            rw [if_pos (by rfl)]
            refine Cp.app H202.out EN202.out (.tmp 7) (.tmp 9) rfl i0 Try.underlying25 hi hz0 hz1 hz2 rfl rfl HA.out.ln HA.out.bn HA.out.an hs.2 ?_
            intro A3 m3 c3 w204 hh204 hd204 hg204
            have H204 := Lib.hid hh204
            have DN204 := Lib.hid hd204
            have DO204 := Lib.hid (DO202.out.far EN202.out.1 (fun v hv => by cases hv) hg204)
            clear hh204 hd204 hg204
            refine hK _ _ trivial (fun _ => ?_)
            clear hK K
            ((try simp only [Act.put]); (try simp only [List.setIfInBounds_toArray]); (repeat (first | simp only [List.set_cons_succ] | simp only [List.set_cons_zero])))
            refine wpAnyH_ready (rs := [9]) (by kernel_rfl) (by simp) ?_
            refine AllReadyH.cons rfl (fun K hK => ?_) AllReadyH.nil
            have hcl : w204.cell? ⟨w.heap.size, 6, none⟩ = some (.slice s.Ao s.no s.co) := H204.out.r1.cell 6
            have hfr := H204.out.r1.frozen 6
            go_simp
            have HX := Lib.hid (H204.out.set6 A2 m2 c2)
            have DX := Lib.hid (DO204.out.set H204.out 6 (.slice A2 m2 c2))
            have DY := Lib.hid (DN204.out.set H204.out 6 (.slice A2 m2 c2))
            generalize w204.setCell ⟨w.heap.size, 6, none⟩ (.slice A2 m2 c2) = wx at *
            clear hcl hfr
            refine hK _ _ trivial (fun _ => ?_)
            clear hK K
            ((try simp only [Act.put]); (try simp only [List.setIfInBounds_toArray]); (repeat (first | simp only [List.set_cons_succ] | simp only [List.set_cons_zero])))
            refine wpAnyH_take (i := 10) (oi := ⟨some 12, _, _, _, _, _⟩) (v := ?v10g205) rfl (by kernel_rfl) (by kernel_rfl) (by kernel_rfl) (fun _ _ _ h => h) (Or.inl ⟨by rfl, ?y10g205⟩) trivial ?r10g205
            case y10g205 =>
              rintro w' hSw
              go_simp
              try with_reducible rfl
            ((try simp only [Act.put]); (try simp only [List.setIfInBounds_toArray]); (repeat (first | simp only [List.set_cons_succ] | simp only [List.set_cons_zero])))
            refine wpAnyH_ready (rs := [11]) (by kernel_rfl) (by simp) ?_
            refine AllReadyH.cons rfl (fun K hK => ?_) AllReadyH.nil
            have hcl : wx.cell? ⟨w.heap.size, 7, none⟩ = some (.slice s.An s.nn s.cn) := HX.out.r1.cell 7
            have hfr := HX.out.r1.frozen 7
            go_simp
            have HE := Lib.hid (show Cpy w r (wx.setCell ⟨w.heap.size, 7, none⟩ (.slice A3 m3 c3)) from ⟨A2, m2, c2, A3, m3, c3, HX.out.set7 A3 m3 c3, DX.out.set HX.out 7 _, DY.out.set HX.out 7 _⟩)
            generalize wx.setCell ⟨w.heap.size, 7, none⟩ (.slice A3 m3 c3) = wy at *
            clear hcl hfr
            refine hK _ _ trivial (fun _ => ?_)
            clear hK K
            ((try simp only [Act.put]); (try simp only [List.setIfInBounds_toArray]); (repeat (first | simp only [List.set_cons_succ] | simp only [List.set_cons_zero])))
            refine wpAnyH_done (by kernel_rfl) ?_ _
            go_wp2_with fail
            go_meet
            exact HE.out
        · go_simp
          have EN206 := Lib.hid (Em.new H194.out)
          have H206 := Lib.hid H194.out.alloc
          have EO206 := Lib.hid EO194.out.alloc
          have hne : gO ≠ w194.heap.size := EO194.out.ne.symm
          generalize w194.heap.size = gN at *
          generalize w194.alloc (.cells #[] 5) = w206 at *
          refine hK _ _ trivial (fun _ => ?_)
          clear hK K
          ((try simp only [Act.put]); (try simp only [List.setIfInBounds_toArray]); (repeat (first | simp only [List.set_cons_succ] | simp only [List.set_cons_zero])))
          refine wpAnyH_ready (rs := [2]) (by kernel_rfl) (by simp) ?_
          refine (AllReadyH.cons rfl (fun K hK => ?_) AllReadyH.nil)
          have hcl : w206.cell? ⟨w.heap.size, 6, none⟩ = some (.slice s.Ao s.no s.co) := H206.out.r1.cell 6
          go_simp
          clear hcl
          refine hK _ _ trivial (fun _ => ?_)
          clear hK K
          ((try simp only [Act.put]); (try simp only [List.setIfInBounds_toArray]); (repeat (first | simp only [List.set_cons_succ] | simp only [List.set_cons_zero])))
          refine wpAnyH_ready (rs := [3]) (by kernel_rfl) (by simp) ?_
          refine (AllReadyH.cons rfl (fun K hK => ?_) AllReadyH.nil)
          rw [if_pos (by rfl)]
          refine Cp.app H206.out EO206.out (.tmp 3) (.tmp 5) rfl i0 Try.underlying25 hi hz0 hz1 hz2 rfl rfl HA.out.lo HA.out.bo HA.out.ao hs.1 ?_
          intro A2 m2 c2 w208 hh208 hd208 hg208
          have H208 := Lib.hid hh208
          have DO208 := Lib.hid hd208
          have EN208 := Lib.hid (EN206.out.grown hg208 (Ne.symm hne))
          clear hh208 hd208 hg208
          refine hK _ _ trivial (fun _ => ?_)
          clear hK K
          ((try simp only [Act.put]); (try simp only [List.setIfInBounds_toArray]); (repeat (first | simp only [List.set_cons_succ] | simp only [List.set_cons_zero])))
          refine wpAnyH_take (i := 8) (oi := ⟨some 11, _, _, _, _, _⟩) (v := ?v8e209) rfl (by kernel_rfl) (by kernel_rfl) (by kernel_rfl) (fun _ _ _ h => h) (Or.inl ⟨by rfl, ?y8e209⟩) trivial ?r8e209
          case y8e209 =>
            rintro w' hSw
            go_simp
            try with_reducible rfl
          ((try simp only [Act.put]); (try simp only [List.setIfInBounds_toArray]); (repeat (first | simp only [List.set_cons_succ] | simp only [List.set_cons_zero])))
          refine wpAnyH_ready (rs := [7]) (by kernel_rfl) (by simp) ?_
          refine (AllReadyH.cons rfl (fun K hK => ?_) AllReadyH.nil)
          rw [if_pos (by rfl)]
          refine Cp.app H208.out EN208.out (.tmp 7) (.tmp 9) rfl i0 Try.underlying25 hi hz0 hz1 hz2 rfl rfl HA.out.ln HA.out.bn HA.out.an hs.2 ?_
          intro A3 m3 c3 w210 hh210 hd210 hg210
          have H210 := Lib.hid hh210
          have DN210 := Lib.hid hd210
          have DO210 := Lib.hid (DO208.out.far EN208.out.1 (fun v hv => by cases hv) hg210)
          clear hh210 hd210 hg210
          refine hK _ _ trivial (fun _ => ?_)
          clear hK K
          ((try simp only [Act.put]); (try simp only [List.setIfInBounds_toArray]); (repeat (first | simp only [List.set_cons_succ] | simp only [List.set_cons_zero])))
          refine wpAnyH_ready (rs := [9]) (by kernel_rfl) (by simp) ?_
          refine AllReadyH.cons rfl (fun K hK => ?_) AllReadyH.nil
          have hcl : w210.cell? ⟨w.heap.size, 6, none⟩ = some (.slice s.Ao s.no s.co) := H210.out.r1.cell 6
          have hfr := H210.out.r1.frozen 6
          go_simp
          have HX := Lib.hid (H210.out.set6 A2 m2 c2)
          have DX := Lib.hid (DO210.out.set H210.out 6 (.slice A2 m2 c2))
          have DY := Lib.hid (DN210.out.set H210.out 6 (.slice A2 m2 c2))
          generalize w210.setCell ⟨w.heap.size, 6, none⟩ (.slice A2 m2 c2) = wx at *
          clear hcl hfr
          refine hK _ _ trivial (fun _ => ?_)
          clear hK K
          ((try simp only [Act.put]); (try simp only [List.setIfInBounds_toArray]); (repeat (first | simp only [List.set_cons_succ] | simp only [List.set_cons_zero])))
          refine wpAnyH_take (i := 10) (oi := ⟨some 12, _, _, _, _, _⟩) (v := ?v10g211) rfl (by kernel_rfl) (by kernel_rfl) (by kernel_rfl) (fun _ _ _ h => h) (Or.inl ⟨by rfl, ?y10g211⟩) trivial ?r10g211
          case y10g211 =>
            rintro w' hSw
            go_simp
            try with_reducible rfl
          ((try simp only [Act.put]); (try simp only [List.setIfInBounds_toArray]); (repeat (first | simp only [List.set_cons_succ] | simp only [List.set_cons_zero])))
          refine wpAnyH_ready (rs := [11]) (by kernel_rfl) (by simp) ?_
          refine AllReadyH.cons rfl (fun K hK => ?_) AllReadyH.nil
          have hcl : wx.cell? ⟨w.heap.size, 7, none⟩ = some (.slice s.An s.nn s.cn) := HX.out.r1.cell 7
          have hfr := HX.out.r1.frozen 7
          go_simp
          have HE := Lib.hid (show Cpy w r (wx.setCell ⟨w.heap.size, 7, none⟩ (.slice A3 m3 c3)) from ⟨A2, m2, c2, A3, m3, c3, HX.out.set7 A3 m3 c3, DX.out.set HX.out 7 _, DY.out.set HX.out 7 _⟩)
          generalize wx.setCell ⟨w.heap.size, 7, none⟩ (.slice A3 m3 c3) = wy at *
          clear hcl hfr
          refine hK _ _ trivial (fun _ => ?_)
          clear hK K
          ((try simp only [Act.put]); (try simp only [List.setIfInBounds_toArray]); (repeat (first | simp only [List.set_cons_succ] | simp only [List.set_cons_zero])))
          refine wpAnyH_done (by kernel_rfl) ?_ _
          go_wp2_with fail
          go_meet
          exact HE.out
      · have hcl : w1.cell? ⟨w.heap.size, 6, none⟩ = some (.slice s.Ao s.no s.co) := H.out.r1.cell 6
        go_simp
        clear hcl
        refine hK _ _ trivial (fun _ => ?_)
        clear hK K
        ((try simp only [Act.put]); (try simp only [List.setIfInBounds_toArray]); (repeat (first | simp only [List.set_cons_succ] | simp only [List.set_cons_zero])))
        refine wpAnyH_ready (rs := [0, 4]) (by kernel_rfl) (by simp) ?_
        refine (AllReadyH.cons rfl (fun K hK => ?_) (AllReadyH.cons rfl (fun K hK => ?_) AllReadyH.nil))
        · go_simp
          have EO213 := Lib.hid (Em.new H.out)
          have H213 := Lib.hid H.out.alloc
          generalize w1.heap.size = gO at *
          generalize w1.alloc (.cells #[] 5) = w213 at *
          refine hK _ _ trivial (fun _ => ?_)
          clear hK K
          ((try simp only [Act.put]); (try simp only [List.setIfInBounds_toArray]); (repeat (first | simp only [List.set_cons_succ] | simp only [List.set_cons_zero])))
          refine wpAnyH_ready (rs := [3, 4]) (by kernel_rfl) (by simp) ?_
          refine (AllReadyH.cons rfl (fun K hK => ?_) (AllReadyH.cons rfl (fun K hK => ?_) AllReadyH.nil))
          · rw [if_pos (by rfl)]
            refine Cp.app H213.out EO213.out (.tmp 3) (.tmp 5) rfl i0 Try.underlying25 hi hz0 hz1 hz2 rfl rfl HA.out.lo HA.out.bo HA.out.ao hs.1 ?_
            intro A2 m2 c2 w214 hh214 hd214 hg214
            have H214 := Lib.hid hh214
            have DO214 := Lib.hid hd214
            clear hh214 hd214 hg214
            refine hK _ _ trivial (fun _ => ?_)
            clear hK K
            ((try simp only [Act.put]); (try simp only [List.setIfInBounds_toArray]); (repeat (first | simp only [List.set_cons_succ] | simp only [List.set_cons_zero])))
            refine wpAnyH_take (i := 8) (oi := ⟨some 11, _, _, _, _, _⟩) (v := ?v8e215) rfl (by kernel_rfl) (by kernel_rfl) (by kernel_rfl) (fun _ _ _ h => h) (Or.inl ⟨by rfl, ?y8e215⟩) trivial ?r8e215
            case y8e215 =>
              rintro w' hSw
              go_simp
              try with_reducible rfl
            ((try simp only [Act.put]); (try simp only [List.setIfInBounds_toArray]); (repeat (first | simp only [List.set_cons_succ] | simp only [List.set_cons_zero])))
            refine wpAnyH_ready (rs := [4]) (by kernel_rfl) (by simp) ?_
            refine (AllReadyH.cons rfl (fun K hK => ?_) AllReadyH.nil)
            go_simp
            have EN216 := Lib.hid (Em.new H214.out)
            have H216 := Lib.hid H214.out.alloc
            have DO216 := Lib.hid DO214.out.alloc
            generalize w214.heap.size = gN at *
            generalize w214.alloc (.cells #[] 5) = w216 at *
            refine hK _ _ trivial (fun _ => ?_)
            clear hK K
            ((try simp only [Act.put]); (try simp only [List.setIfInBounds_toArray]); (repeat (first | simp only [List.set_cons_succ] | simp only [List.set_cons_zero])))
            refine wpAnyH_ready (rs := [7]) (by kernel_rfl) (by simp) ?_
            refine (AllReadyH.cons rfl (fun K hK => ?_) AllReadyH.nil)
            rw [if_pos (by rfl)]
            refine Cp.app H216.out EN216.out (.tmp 7) (.tmp 9) rfl i0 Try.underlying25 hi hz0 hz1 hz2 rfl rfl HA.out.ln HA.out.bn HA.out.an hs.2 ?_
            intro A3 m3 c3 w217 hh217 hd217 hg217
            have H217 := Lib.hid hh217
            have DN217 := Lib.hid hd217
            have DO217 := Lib.hid (DO216.out.far EN216.out.1 (fun v hv => by cases hv) hg217)
            clear hh217 hd217 hg217
            refine hK _ _ trivial (fun _ => ?_)
            clear hK K
            ((try simp only [Act.put]); (try simp only [List.setIfInBounds_toArray]); (repeat (first | simp only [List.set_cons_succ] | simp only [List.set_cons_zero])))
            refine wpAnyH_ready (rs := [9]) (by kernel_rfl) (by simp) ?_
            refine AllReadyH.cons rfl (fun K hK => ?_) AllReadyH.nil
            have hcl : w217.cell? ⟨w.heap.size, 6, none⟩ = some (.slice s.Ao s.no s.co) := H217.out.r1.cell 6
            have hfr := H217.out.r1.frozen 6
            go_simp
            have HX := Lib.hid (H217.out.set6 A2 m2 c2)
            have DX := Lib.hid (DO217.out.set H217.out 6 (.slice A2 m2 c2))
            have DY := Lib.hid (DN217.out.set H217.out 6 (.slice A2 m2 c2))
            generalize w217.setCell ⟨w.heap.size, 6, none⟩ (.slice A2 m2 c2) = wx at *
            clear hcl hfr
            refine hK _ _ trivial (fun _ => ?_)
            clear hK K
            ((try simp only [Act.put]); (try simp only [List.setIfInBounds_toArray]); (repeat (first | simp only [List.set_cons_succ] | simp only [List.set_cons_zero])))
            refine wpAnyH_take (i := 10) (oi := ⟨some 12, _, _, _, _, _⟩) (v := ?v10g218) rfl (by kernel_rfl) (by kernel_rfl) (by kernel_rfl) (fun _ _ _ h => h) (Or.inl ⟨by rfl, ?y10g218⟩) trivial ?r10g218
            case y10g218 =>
              rintro w' hSw
              go_simp
              try with_reducible rfl
            ((try simp only [Act.put]); (try simp only [List.setIfInBounds_toArray]); (repeat (first | simp only [List.set_cons_succ] | simp only [List.set_cons_zero])))
            refine wpAnyH_ready (rs := [11]) (by kernel_rfl) (by simp) ?_
            refine AllReadyH.cons rfl (fun K hK => ?_) AllReadyH.nil
            have hcl : wx.cell? ⟨w.heap.size, 7, none⟩ = some (.slice s.An s.nn s.cn) := HX.out.r1.cell 7
            have hfr := HX.out.r1.frozen 7
            go_simp
            have HE := Lib.hid (show Cpy w r (wx.setCell ⟨w.heap.size, 7, none⟩ (.slice A3 m3 c3)) from ⟨A2, m2, c2, A3, m3, c3, HX.out.set7 A3 m3 c3, DX.out.set HX.out 7 _, DY.out.set HX.out 7 _⟩)
            generalize wx.setCell ⟨w.heap.size, 7, none⟩ (.slice A3 m3 c3) = wy at *
            clear hcl hfr
            refine hK _ _ trivial (fun _ => ?_)
            clear hK K
            ((try simp only [Act.put]); (try simp only [List.setIfInBounds_toArray]); (repeat (first | simp only [List.set_cons_succ] | simp only [List.set_cons_zero])))
            refine wpAnyH_done (by kernel_rfl) ?_ _
            go_wp2_with fail
            go_meet
            exact HE.out
          · go_simp
            have EN219 := Lib.hid (Em.new H213.out)
            have H219 := Lib.hid H213.out.alloc
            have EO219 := Lib.hid EO213.out.alloc
            have hne : gO ≠ w213.heap.size := EO213.out.ne.symm
            generalize w213.heap.size = gN at *
            generalize w213.alloc (.cells #[] 5) = w219 at *
            refine hK _ _ trivial (fun _ => ?_)
            clear hK K
            ((try simp only [Act.put]); (try simp only [List.setIfInBounds_toArray]); (repeat (first | simp only [List.set_cons_succ] | simp only [List.set_cons_zero])))
            refine wpAnyH_ready (rs := [3]) (by kernel_rfl) (by simp) ?_
            refine (AllReadyH.cons rfl (fun K hK => ?_) AllReadyH.nil)
            rw [if_pos (by rfl)]
            refine Cp.app H219.out EO219.out (.tmp 3) (.tmp 5) rfl i0 Try.underlying25 hi hz0 hz1 hz2 rfl rfl HA.out.lo HA.out.bo HA.out.ao hs.1 ?_
            intro A2 m2 c2 w220 hh220 hd220 hg220
            have H220 := Lib.hid hh220
            have DO220 := Lib.hid hd220
            have EN220 := Lib.hid (EN219.out.grown hg220 (Ne.symm hne))
            clear hh220 hd220 hg220
            refine hK _ _ trivial (fun _ => ?_)
            clear hK K
            ((try simp only [Act.put]); (try simp only [List.setIfInBounds_toArray]); (repeat (first | simp only [List.set_cons_succ] | simp only [List.set_cons_zero])))
            refine wpAnyH_take (i := 8) (oi := ⟨some 11, _, _, _, _, _⟩) (v := ?v8e221) rfl (by kernel_rfl) (by kernel_rfl) (by kernel_rfl) (fun _ _ _ h => h) (Or.inl ⟨by rfl, ?y8e221⟩) trivial ?r8e221
            case y8e221 =>
              rintro w' hSw
              go_simp
              try with_reducible rfl
            ((try simp only [Act.put]); (try simp only [List.setIfInBounds_toArray]); (repeat (first | simp only [List.set_cons_succ] | simp only [List.set_cons_zero])))
            refine wpAnyH_ready (rs := [7]) (by kernel_rfl) (by simp) ?_
            refine (AllReadyH.cons rfl (fun K hK => ?_) AllReadyH.nil)
            rw [if_pos (by rfl)]
            refine Cp.app H220.out EN220.out (.tmp 7) (.tmp 9) rfl i0 Try.underlying25 hi hz0 hz1 hz2 rfl rfl HA.out.ln HA.out.bn HA.out.an hs.2 ?_
            intro A3 m3 c3 w222 hh222 hd222 hg222
            have H222 := Lib.hid hh222
            have DN222 := Lib.hid hd222
            have DO222 := Lib.hid (DO220.out.far EN220.out.1 (fun v hv => by cases hv) hg222)
            clear hh222 hd222 hg222
            refine hK _ _ trivial (fun _ => ?_)
            clear hK K
            ((try simp only [Act.put]); (try simp only [List.setIfInBounds_toArray]); (repeat (first | simp only [List.set_cons_succ] | simp only [List.set_cons_zero])))
            refine wpAnyH_ready (rs := [9]) (by kernel_rfl) (by simp) ?_
            refine AllReadyH.cons rfl (fun K hK => ?_) AllReadyH.nil
            have hcl : w222.cell? ⟨w.heap.size, 6, none⟩ = some (.slice s.Ao s.no s.co) := H222.out.r1.cell 6
            have hfr := H222.out.r1.frozen 6
            go_simp
            have HX := Lib.hid (H222.out.set6 A2 m2 c2)
            have DX := Lib.hid (DO222.out.set H222.out 6 (.slice A2 m2 c2))
            have DY := Lib.hid (DN222.out.set H222.out 6 (.slice A2 m2 c2))
            generalize w222.setCell ⟨w.heap.size, 6, none⟩ (.slice A2 m2 c2) = wx at *
            clear hcl hfr
            refine hK _ _ trivial (fun _ => ?_)
            clear hK K
            ((try simp only [Act.put]); (try simp only [List.setIfInBounds_toArray]); (repeat (first | simp only [List.set_cons_succ] | simp only [List.set_cons_zero])))
            refine wpAnyH_take (i := 10) (oi := ⟨some 12, _, _, _, _, _⟩) (v := ?v10g223) rfl (by kernel_rfl) (by kernel_rfl) (by kernel_rfl) (fun _ _ _ h => h) (Or.inl ⟨by rfl, ?y10g223⟩) trivial ?r10g223
            case y10g223 =>
              rintro w' hSw
              go_simp
              try with_reducible rfl
            ((try simp only [Act.put]); (try simp only [List.setIfInBounds_toArray]); (repeat (first | simp only [List.set_cons_succ] | simp only [List.set_cons_zero])))
            refine wpAnyH_ready (rs := [11]) (by kernel_rfl) (by simp) ?_
            refine AllReadyH.cons rfl (fun K hK => ?_) AllReadyH.nil
            have hcl : wx.cell? ⟨w.heap.size, 7, none⟩ = some (.slice s.An s.nn s.cn) := HX.out.r1.cell 7
            have hfr := HX.out.r1.frozen 7
            go_simp
            have HE := Lib.hid (show Cpy w r (wx.setCell ⟨w.heap.size, 7, none⟩ (.slice A3 m3 c3)) from ⟨A2, m2, c2, A3, m3, c3, HX.out.set7 A3 m3 c3, DX.out.set HX.out 7 _, DY.out.set HX.out 7 _⟩)
            generalize wx.setCell ⟨w.heap.size, 7, none⟩ (.slice A3 m3 c3) = wy at *
            clear hcl hfr
            refine hK _ _ trivial (fun _ => ?_)
            clear hK K
            ((try simp only [Act.put]); (try simp only [List.setIfInBounds_toArray]); (repeat (first | simp only [List.set_cons_succ] | simp only [List.set_cons_zero])))
            refine wpAnyH_done (by kernel_rfl) ?_ _
            go_wp2_with fail
            go_meet
            exact HE.out
        · go_simp
          have EN224 := Lib.hid (Em.new H.out)
          have H224 := Lib.hid H.out.alloc
          generalize w1.heap.size = gN at *
          generalize w1.alloc (.cells #[] 5) = w224 at *
          refine hK _ _ trivial (fun _ => ?_)
          clear hK K
          ((try simp only [Act.put]); (try simp only [List.setIfInBounds_toArray]); (repeat (first | simp only [List.set_cons_succ] | simp only [List.set_cons_zero])))
          refine wpAnyH_ready (rs := [0]) (by kernel_rfl) (by simp) ?_
          refine (AllReadyH.cons rfl (fun K hK => ?_) AllReadyH.nil)
          go_simp
          have EO225 := Lib.hid (Em.new H224.out)
          have H225 := Lib.hid H224.out.alloc
          have EN225 := Lib.hid EN224.out.alloc
          have hne : w224.heap.size ≠ gN := EN224.out.ne
          generalize w224.heap.size = gO at *
          generalize w224.alloc (.cells #[] 5) = w225 at *
          refine hK _ _ trivial (fun _ => ?_)
          clear hK K
          ((try simp only [Act.put]); (try simp only [List.setIfInBounds_toArray]); (repeat (first | simp only [List.set_cons_succ] | simp only [List.set_cons_zero])))
          refine wpAnyH_ready (rs := [3]) (by kernel_rfl) (by simp) ?_
          refine (AllReadyH.cons rfl (fun K hK => ?_) AllReadyH.nil)
          rw [if_pos (by rfl)]
          refine Cp.app H225.out EO225.out (.tmp 3) (.tmp 5) rfl i0 Try.underlying25 hi hz0 hz1 hz2 rfl rfl HA.out.lo HA.out.bo HA.out.ao hs.1 ?_
          intro A2 m2 c2 w226 hh226 hd226 hg226
          have H226 := Lib.hid hh226
          have DO226 := Lib.hid hd226
          have EN226 := Lib.hid (EN225.out.grown hg226 (Ne.symm hne))
          clear hh226 hd226 hg226
          refine hK _ _ trivial (fun _ => ?_)
          clear hK K
          ((try simp only [Act.put]); (try simp only [List.setIfInBounds_toArray]); (repeat (first | simp only [List.set_cons_succ] | simp only [List.set_cons_zero])))
          refine wpAnyH_take (i := 8) (oi := ⟨some 11, _, _, _, _, _⟩) (v := ?v8e227) rfl (by kernel_rfl) (by kernel_rfl) (by kernel_rfl) (fun _ _ _ h => h) (Or.inl ⟨by rfl, ?y8e227⟩) trivial ?r8e227
          case y8e227 =>
            rintro w' hSw
            go_simp
            try with_reducible rfl
          ((try simp only [Act.put]); (try simp only [List.setIfInBounds_toArray]); (repeat (first | simp only [List.set_cons_succ] | simp only [List.set_cons_zero])))
          refine wpAnyH_ready (rs := [7]) (by kernel_rfl) (by simp) ?_
          refine (AllReadyH.cons rfl (fun K hK => ?_) AllReadyH.nil)
          rw [if_pos (by rfl)]
          refine Cp.app H226.out EN226.out (.tmp 7) (.tmp 9) rfl i0 Try.underlying25 hi hz0 hz1 hz2 rfl rfl HA.out.ln HA.out.bn HA.out.an hs.2 ?_
          intro A3 m3 c3 w228 hh228 hd228 hg228
          have H228 := Lib.hid hh228
          have DN228 := Lib.hid hd228
          have DO228 := Lib.hid (DO226.out.far EN226.out.1 (fun v hv => by cases hv) hg228)
          clear hh228 hd228 hg228
          refine hK _ _ trivial (fun _ => ?_)
          clear hK K
          ((try simp only [Act.put]); (try simp only [List.setIfInBounds_toArray]); (repeat (first | simp only [List.set_cons_succ] | simp only [List.set_cons_zero])))
          refine wpAnyH_ready (rs := [9]) (by kernel_rfl) (by simp) ?_
          refine AllReadyH.cons rfl (fun K hK => ?_) AllReadyH.nil
          have hcl : w228.cell? ⟨w.heap.size, 6, none⟩ = some (.slice s.Ao s.no s.co) := H228.out.r1.cell 6
          have hfr := H228.out.r1.frozen 6
          go_simp
          have HX := Lib.hid (H228.out.set6 A2 m2 c2)
          have DX := Lib.hid (DO228.out.set H228.out 6 (.slice A2 m2 c2))
          have DY := Lib.hid (DN228.out.set H228.out 6 (.slice A2 m2 c2))
          generalize w228.setCell ⟨w.heap.size, 6, none⟩ (.slice A2 m2 c2) = wx at *
          clear hcl hfr
          refine hK _ _ trivial (fun _ => ?_)
          clear hK K
          ((try simp only [Act.put]); (try simp only [List.setIfInBounds_toArray]); (repeat (first | simp only [List.set_cons_succ] | simp only [List.set_cons_zero])))
          refine wpAnyH_take (i := 10) (oi := ⟨some 12, _, _, _, _, _⟩) (v := ?v10g229) rfl (by kernel_rfl) (by kernel_rfl) (by kernel_rfl) (fun _ _ _ h => h) (Or.inl ⟨by rfl, ?y10g229⟩) trivial ?r10g229
          case y10g229 =>
            rintro w' hSw
            go_simp
            try with_reducible rfl
          ((try simp only [Act.put]); (try simp only [List.setIfInBounds_toArray]); (repeat (first | simp only [List.set_cons_succ] | simp only [List.set_cons_zero])))
          refine wpAnyH_ready (rs := [11]) (by kernel_rfl) (by simp) ?_
          refine AllReadyH.cons rfl (fun K hK => ?_) AllReadyH.nil
          have hcl : wx.cell? ⟨w.heap.size, 7, none⟩ = some (.slice s.An s.nn s.cn) := HX.out.r1.cell 7
          have hfr := HX.out.r1.frozen 7
          go_simp
          have HE := Lib.hid (show Cpy w r (wx.setCell ⟨w.heap.size, 7, none⟩ (.slice A3 m3 c3)) from ⟨A2, m2, c2, A3, m3, c3, HX.out.set7 A3 m3 c3, DX.out.set HX.out 7 _, DY.out.set HX.out 7 _⟩)
          generalize wx.setCell ⟨w.heap.size, 7, none⟩ (.slice A3 m3 c3) = wy at *
          clear hcl hfr
          refine hK _ _ trivial (fun _ => ?_)
          clear hK K
          ((try simp only [Act.put]); (try simp only [List.setIfInBounds_toArray]); (repeat (first | simp only [List.set_cons_succ] | simp only [List.set_cons_zero])))
          refine wpAnyH_done (by kernel_rfl) ?_ _
          go_wp2_with fail
          go_meet
          exact HE.out
      · go_simp
        have EN230 := Lib.hid (Em.new H.out)
        have H230 := Lib.hid H.out.alloc
        generalize w1.heap.size = gN at *
        generalize w1.alloc (.cells #[] 5) = w230 at *
        refine hK _ _ trivial (fun _ => ?_)
        clear hK K
        ((try simp only [Act.put]); (try simp only [List.setIfInBounds_toArray]); (repeat (first | simp only [List.set_cons_succ] | simp only [List.set_cons_zero])))
        refine wpAnyH_ready (rs := [0, 2]) (by kernel_rfl) (by simp) ?_
        refine (AllReadyH.cons rfl (fun K hK => ?_) (AllReadyH.cons rfl (fun K hK => ?_) AllReadyH.nil))
        · go_simp
          have EO231 := Lib.hid (Em.new H230.out)
          have H231 := Lib.hid H230.out.alloc
          have EN231 := Lib.hid EN230.out.alloc
          have hne : w230.heap.size ≠ gN := EN230.out.ne
          generalize w230.heap.size = gO at *
          generalize w230.alloc (.cells #[] 5) = w231 at *
          refine hK _ _ trivial (fun _ => ?_)
          clear hK K
          ((try simp only [Act.put]); (try simp only [List.setIfInBounds_toArray]); (repeat (first | simp only [List.set_cons_succ] | simp only [List.set_cons_zero])))
          refine wpAnyH_ready (rs := [2]) (by kernel_rfl) (by simp) ?_
          refine (AllReadyH.cons rfl (fun K hK => ?_) AllReadyH.nil)
          have hcl : w231.cell? ⟨w.heap.size, 6, none⟩ = some (.slice s.Ao s.no s.co) := H231.out.r1.cell 6
          go_simp
          clear hcl
          refine hK _ _ trivial (fun _ => ?_)
          clear hK K
          ((try simp only [Act.put]); (try simp only [List.setIfInBounds_toArray]); (repeat (first | simp only [List.set_cons_succ] | simp only [List.set_cons_zero])))
          refine wpAnyH_ready (rs := [3]) (by kernel_rfl) (by simp) ?_
          refine (AllReadyH.cons rfl (fun K hK => ?_) AllReadyH.nil)
          rw [if_pos (by rfl)]
          refine Cp.app H231.out EO231.out (.tmp 3) (.tmp 5) rfl i0 Try.underlying25 hi hz0 hz1 hz2 rfl rfl HA.out.lo HA.out.bo HA.out.ao hs.1 ?_
          intro A2 m2 c2 w233 hh233 hd233 hg233
          have H233 := Lib.hid hh233
          have DO233 := Lib.hid hd233
          have EN233 := Lib.hid (EN231.out.grown hg233 (Ne.symm hne))
          clear hh233 hd233 hg233
          refine hK _ _ trivial (fun _ => ?_)
          clear hK K
          ((try simp only [Act.put]); (try simp only [List.setIfInBounds_toArray]); (repeat (first | simp only [List.set_cons_succ] | simp only [List.set_cons_zero])))
          refine wpAnyH_take (i := 8) (oi := ⟨some 11, _, _, _, _, _⟩) (v := ?v8e234) rfl (by kernel_rfl) (by kernel_rfl) (by kernel_rfl) (fun _ _ _ h => h) (Or.inl ⟨by rfl, ?y8e234⟩) trivial ?r8e234
          case y8e234 =>
            rintro w' hSw
            go_simp
            try with_reducible rfl
          ((try simp only [Act.put]); (try simp only [List.setIfInBounds_toArray]); (repeat (first | simp only [List.set_cons_succ] | simp only [List.set_cons_zero])))
          refine wpAnyH_ready (rs := [7]) (by kernel_rfl) (by simp) ?_
          refine (AllReadyH.cons rfl (fun K hK => ?_) AllReadyH.nil)
          rw [if_pos (by rfl)]
          refine Cp.app H233.out EN233.out (.tmp 7) (.tmp 9) rfl i0 Try.underlying25 hi hz0 hz1 hz2 rfl rfl HA.out.ln HA.out.bn HA.out.an hs.2 ?_
          intro A3 m3 c3 w235 hh235 hd235 hg235
          have H235 := Lib.hid hh235
          have DN235 := Lib.hid hd235
          have DO235 := Lib.hid (DO233.out.far EN233.out.1 (fun v hv => by cases hv) hg235)
          clear hh235 hd235 hg235
          refine hK _ _ trivial (fun _ => ?_)
          clear hK K
          ((try simp only [Act.put]); (try simp only [List.setIfInBounds_toArray]); (repeat (first | simp only [List.set_cons_succ] | simp only [List.set_cons_zero])))
          refine wpAnyH_ready (rs := [9]) (by kernel_rfl) (by simp) ?_
          refine AllReadyH.cons rfl (fun K hK => ?_) AllReadyH.nil
          have hcl : w235.cell? ⟨w.heap.size, 6, none⟩ = some (.slice s.Ao s.no s.co) := H235.out.r1.cell 6
          have hfr := H235.out.r1.frozen 6
          go_simp
          have HX := Lib.hid (H235.out.set6 A2 m2 c2)
          have DX := Lib.hid (DO235.out.set H235.out 6 (.slice A2 m2 c2))
          have DY := Lib.hid (DN235.out.set H235.out 6 (.slice A2 m2 c2))
          generalize w235.setCell ⟨w.heap.size, 6, none⟩ (.slice A2 m2 c2) = wx at *
          clear hcl hfr
          refine hK _ _ trivial (fun _ => ?_)
          clear hK K
          ((try simp only [Act.put]); (try simp only [List.setIfInBounds_toArray]); (repeat (first | simp only [List.set_cons_succ] | simp only [List.set_cons_zero])))
          refine wpAnyH_take (i := 10) (oi := ⟨some 12, _, _, _, _, _⟩) (v := ?v10g236) rfl (by kernel_rfl) (by kernel_rfl) (by kernel_rfl) (fun _ _ _ h => h) (Or.inl ⟨by rfl, ?y10g236⟩) trivial ?r10g236
          case y10g236 =>
            rintro w' hSw
            go_simp
            try with_reducible rfl
          ((try simp only [Act.put]); (try simp only [List.setIfInBounds_toArray]); (repeat (first | simp only [List.set_cons_succ] | simp only [List.set_cons_zero])))
          refine wpAnyH_ready (rs := [11]) (by kernel_rfl) (by simp) ?_
          refine AllReadyH.cons rfl (fun K hK => ?_) AllReadyH.nil
          have hcl : wx.cell? ⟨w.heap.size, 7, none⟩ = some (.slice s.An s.nn s.cn) := HX.out.r1.cell 7
          have hfr := HX.out.r1.frozen 7
          go_simp
          have HE := Lib.hid (show Cpy w r (wx.setCell ⟨w.heap.size, 7, none⟩ (.slice A3 m3 c3)) from ⟨A2, m2, c2, A3, m3, c3, HX.out.set7 A3 m3 c3, DX.out.set HX.out 7 _, DY.out.set HX.out 7 _⟩)
          generalize wx.setCell ⟨w.heap.size, 7, none⟩ (.slice A3 m3 c3) = wy at *
          clear hcl hfr
          refine hK _ _ trivial (fun _ => ?_)
          clear hK K
          ((try simp only [Act.put]); (try simp only [List.setIfInBounds_toArray]); (repeat (first | simp only [List.set_cons_succ] | simp only [List.set_cons_zero])))
          refine wpAnyH_done (by kernel_rfl) ?_ _
          go_wp2_with fail
          go_meet
          exact HE.out
        · have hcl : w230.cell? ⟨w.heap.size, 6, none⟩ = some (.slice s.Ao s.no s.co) := H230.out.r1.cell 6
          go_simp
          clear hcl
          refine hK _ _ trivial (fun _ => ?_)
          clear hK K
          ((try simp only [Act.put]); (try simp only [List.setIfInBounds_toArray]); (repeat (first | simp only [List.set_cons_succ] | simp only [List.set_cons_zero])))
          refine wpAnyH_ready (rs := [0]) (by kernel_rfl) (by simp) ?_
          refine (AllReadyH.cons rfl (fun K hK => ?_) AllReadyH.nil)
          go_simp
          have EO238 := Lib.hid (Em.new H230.out)
          have H238 := Lib.hid H230.out.alloc
          have EN238 := Lib.hid EN230.out.alloc
          have hne : w230.heap.size ≠ gN := EN230.out.ne
          generalize w230.heap.size = gO at *
          generalize w230.alloc (.cells #[] 5) = w238 at *
          refine hK _ _ trivial (fun _ => ?_)
          clear hK K
          ((try simp only [Act.put]); (try simp only [List.setIfInBounds_toArray]); (repeat (first | simp only [List.set_cons_succ] | simp only [List.set_cons_zero])))
          refine wpAnyH_ready (rs := [3]) (by kernel_rfl) (by simp) ?_
          refine (AllReadyH.cons rfl (fun K hK => ?_) AllReadyH.nil)
          rw [if_pos (by rfl)]
          refine Cp.app H238.out EO238.out (.tmp 3) (.tmp 5) rfl i0 Try.underlying25 hi hz0 hz1 hz2 rfl rfl HA.out.lo HA.out.bo HA.out.ao hs.1 ?_
          intro A2 m2 c2 w239 hh239 hd239 hg239
          have H239 := Lib.hid hh239
          have DO239 := Lib.hid hd239
          have EN239 := Lib.hid (EN238.out.grown hg239 (Ne.symm hne))
          clear hh239 hd239 hg239
          refine hK _ _ trivial (fun _ => ?_)
          clear hK K
          ((try simp only [Act.put]); (try simp only [List.setIfInBounds_toArray]); (repeat (first | simp only [List.set_cons_succ] | simp only [List.set_cons_zero])))
          refine wpAnyH_take (i := 8) (oi := ⟨some 11, _, _, _, _, _⟩) (v := ?v8e240) rfl (by kernel_rfl) (by kernel_rfl) (by kernel_rfl) (fun _ _ _ h => h) (Or.inl ⟨by rfl, ?y8e240⟩) trivial ?r8e240
          case y8e240 =>
            rintro w' hSw
            go_simp
            try with_reducible rfl
          ((try simp only [Act.put]); (try simp only [List.setIfInBounds_toArray]); (repeat (first | simp only [List.set_cons_succ] | simp only [List.set_cons_zero])))
          refine wpAnyH_ready (rs := [7]) (by kernel_rfl) (by simp) ?_
          refine (AllReadyH.cons rfl (fun K hK => ?_) AllReadyH.nil)
          rw [if_pos (by rfl)]
          refine Cp.app H239.out EN239.out (.tmp 7) (.tmp 9) rfl i0 Try.underlying25 hi hz0 hz1 hz2 rfl rfl HA.out.ln HA.out.bn HA.out.an hs.2 ?_
          intro A3 m3 c3 w241 hh241 hd241 hg241
          have H241 := Lib.hid hh241
          have DN241 := Lib.hid hd241
          have DO241 := Lib.hid (DO239.out.far EN239.out.1 (fun v hv => by cases hv) hg241)
          clear hh241 hd241 hg241
          refine hK _ _ trivial (fun _ => ?_)
          clear hK K
          ((try simp only [Act.put]); (try simp only [List.setIfInBounds_toArray]); (repeat (first | simp only [List.set_cons_succ] | simp only [List.set_cons_zero])))
          refine wpAnyH_ready (rs := [9]) (by kernel_rfl) (by simp) ?_
          refine AllReadyH.cons rfl (fun K hK => ?_) AllReadyH.nil
          have hcl : w241.cell? ⟨w.heap.size, 6, none⟩ = some (.slice s.Ao s.no s.co) := H241.out.r1.cell 6
          have hfr := H241.out.r1.frozen 6
          go_simp
          have HX := Lib.hid (H241.out.set6 A2 m2 c2)
          have DX := Lib.hid (DO241.out.set H241.out 6 (.slice A2 m2 c2))
          have DY := Lib.hid (DN241.out.set H241.out 6 (.slice A2 m2 c2))
          generalize w241.setCell ⟨w.heap.size, 6, none⟩ (.slice A2 m2 c2) = wx at *
          clear hcl hfr
          refine hK _ _ trivial (fun _ => ?_)
          clear hK K
          ((try simp only [Act.put]); (try simp only [List.setIfInBounds_toArray]); (repeat (first | simp only [List.set_cons_succ] | simp only [List.set_cons_zero])))
          refine wpAnyH_take (i := 10) (oi := ⟨some 12, _, _, _, _, _⟩) (v := ?v10g242) rfl (by kernel_rfl) (by kernel_rfl) (by kernel_rfl) (fun _ _ _ h => h) (Or.inl ⟨by rfl, ?y10g242⟩) trivial ?r10g242
          case y10g242 =>
            rintro w' hSw
            go_simp
            try with_reducible rfl
          ((try simp only [Act.put]); (try simp only [List.setIfInBounds_toArray]); (repeat (first | simp only [List.set_cons_succ] | simp only [List.set_cons_zero])))
          refine wpAnyH_ready (rs := [11]) (by kernel_rfl) (by simp) ?_
          refine AllReadyH.cons rfl (fun K hK => ?_) AllReadyH.nil
          have hcl : wx.cell? ⟨w.heap.size, 7, none⟩ = some (.slice s.An s.nn s.cn) := HX.out.r1.cell 7
          have hfr := HX.out.r1.frozen 7
          go_simp
          have HE := Lib.hid (show Cpy w r (wx.setCell ⟨w.heap.size, 7, none⟩ (.slice A3 m3 c3)) from ⟨A2, m2, c2, A3, m3, c3, HX.out.set7 A3 m3 c3, DX.out.set HX.out 7 _, DY.out.set HX.out 7 _⟩)
          generalize wx.setCell ⟨w.heap.size, 7, none⟩ (.slice A3 m3 c3) = wy at *
          clear hcl hfr
          refine hK _ _ trivial (fun _ => ?_)
          clear hK K
          ((try simp only [Act.put]); (try simp only [List.setIfInBounds_toArray]); (repeat (first | simp only [List.set_cons_succ] | simp only [List.set_cons_zero])))
          refine wpAnyH_done (by kernel_rfl) ?_ _
          go_wp2_with fail
          go_meet
          exact HE.out
  case rest =>
    obtain ⟨A2, m2, c2, A3, m3, c3, hcp, hdo, hdn⟩ := hcut
    have hrec : RecAt wc wc.heap.size r ⟨A2, m2, c2, A3, m3, c3⟩ := ⟨hdo.1, hdn.1, by show m2 ≤ _; have := hdo.1; have := HA.out.lo; omega, by show m3 ≤ _; have := hdn.1; have := HA.out.ln; omega, hdo.2.2, hdn.2.2, hdo.2.1, hdn.2.1⟩
    generalize (⟨A2, m2, c2, A3, m3, c3⟩ : RS) = s2 at hcp hrec
    have HR1 := Lib.hid hcp.r1
    have HR2 := Lib.hid hcp.r2
    have HREC := Lib.hid hrec
    have HBB := Lib.hid hcp.hb
    clear hcp hdo hdn hrec HA h0
    have HI := Lib.hid (show (Try.prog.info? 34).map (·.size) = some (rcs r s2).length from rec_info)
    have HLE := Lib.hid (show (rcs r s2).length = (rcs zeroR zeroS).length from rfl)
    have HONE : Hid (∀ v ∈ (rcs r s2), v.oneCell' = true) := rcs_one
    go_wp2_with (first
      | (with_reducible refine wpList_load_row (op := ⟨some 13, _, _, _, _, _⟩) ?_ 34 (.tmp 1) ?_ w.heap.size 0 ?_ (rcs r s2) _ (Row.all HR1.out) Try.underlying34 ?_ HI.out ?_)
      | (with_reducible refine wpList_store_whole (op := ⟨none, _, _, _, _, _⟩) ?_ 34 (.tmp 2) (.tmp 13) ?_ (w.heap.size + 1) (rcs r s2) ?_ ?_ 34 (rcs zeroR zeroS) HR2.out HLE.out HONE.out HI.out ?_))
    all_goals try (first | rfl | (simp; done))
    intro w8 hr8 hg8
    have HRES := Lib.hid (run_loadVar_mid (P := Try.prog) w8 (w.heap.size + 1) 0 34 (rcs r s2) _ (Row.all hr8) Try.underlying34 rfl HI.out)
    have HRC := Lib.hid ((RecAt.far (r0 := zeroR) (s0 := zeroS) HREC.out (Nat.le_refl _) HR2.out (w' := w8) (fun j hj hlt => hg8.block j hlt (fun e => hj (Option.some.inj e)))).more hg8.size)
    have HB8 : Hid (Below w.heap.size w w8) := ⟨hg8.os.trans HBB.out.os, hg8.tape.trans HBB.out.tape, hg8.output.trans HBB.out.output, Nat.le_trans HBB.out.size hg8.size, fun j hj => (hg8.block j (Nat.lt_of_lt_of_le hj HBB.out.size) (fun e => by have := Option.some.inj e; omega)).trans (HBB.out.block j hj)⟩
    clear hr8 hg8
    go_wp2
    exact bodyPost_ret (v := .agg (rcs r s2).toArray) (results_cell (p := 2) (ty := 34) rfl _ _ ⟨w.heap.size + 1, 0, none⟩ _ rfl HRES.out) rfl ⟨s2, rfl, HRC.out, HB8.out⟩
end Go.Proofs.Ytnljhopikjkflaa.Rec
