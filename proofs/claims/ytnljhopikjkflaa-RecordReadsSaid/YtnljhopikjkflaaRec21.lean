/-
  DecodeRow.
-/
import Derived.Test.YtnljhopikjkflaaRec20
import Derived.Deep.Cut
import Derived.Deep.CutRange
namespace Go.Proofs.Ytnljhopikjkflaa.Rec
set_option maxRecDepth 100000
attribute [local go_sem] Go.Oper.semAt_some
open Go.RowKit Go.Proofs.Ytnljhopikjkflaa.Wd Go.Proofs.Ytnljhopikjkflaa.Oct Go.Proofs.Ytnljhopikjkflaa.Dsk

theorem rn8_lt (l : List UInt8) (p : Nat × Int) : InU64 (rn 8 l p).1 := by
  have : num (Oct.step l p.1 p.2 ((8 : Nat) : Int)).1 < 256 ^ 8 := step_num_lt l p.1 p.2 8
  simpa [InU64, rn] using this
theorem nx_lt (J : Bool) (l : List UInt8) (p : Nat × Int) : InU64 (nx J l p).1 := by
  unfold nx
  split
  · exact rn8_lt l p
  · simp [InU64]
theorem recM_u4 {l : List UInt8} {p : Nat} (h : (recM l p).1 = 0) : U4 (recM l p).2.1 := by
  unfold recM at h ⊢
  simp only at h ⊢
  split at h
  · cases h
  · split at h
    · rename_i h2
      exact absurd h h2
    · rename_i h1 h2
      rw [if_neg h1, if_neg h2]
      split at h
      · rename_i h3
        rw [if_pos h3]
        exact ⟨rn8_lt _ _, rn8_lt _ _, rn8_lt _ _, nx_lt _ _ _⟩
      · cases h
theorem rdE_u4 {l : List UInt8} : ∀ {i p : Nat} {rs : List RM}, rdE l i = (0, p, rs) → ∀ r ∈ rs, U4 r
  | 0, p, rs, h, r, hr => by cases h; cases hr
  | i + 1, p, rs, h, r, hr => by
    have h' : (if (rdE l i).1 ≠ 0 then rdE l i else if (recM l (rdE l i).2.1).1 = 0 then (0, (recM l (rdE l i).2.1).2.2.1, (rdE l i).2.2 ++ [(recM l (rdE l i).2.1).2.1]) else ((recM l (rdE l i).2.1).1, (rdE l i).2.1, [])) = (0, p, rs) := h
    obtain ⟨S, hS⟩ : ∃ S, S = rdE l i := ⟨_, rfl⟩
    rw [← hS] at h'
    obtain ⟨s1, s2, s3⟩ := S
    dsimp only at h'
    by_cases h0 : s1 = 0
    · subst h0
      rw [if_neg (by simp)] at h'
      by_cases hz : (recM l s2).1 = 0
      · rw [if_pos hz] at h'
        cases h'
        rcases List.mem_append.1 hr with hr | hr
        · exact rdE_u4 hS.symm r hr
        · rw [List.mem_singleton] at hr
          rw [hr]
          exact recM_u4 hz
      · rw [if_neg hz] at h'
        injection h' with e1 _
        exact absurd e1 hz
    · rw [if_pos h0] at h'
      cases h'
      exact absurd rfl h0
/-- what bytes are a row -/
def decRowM (l : List UInt8) : Int × List RM :=
  if l.length < 2 then (7, []) else if 64 < num (l.take 2) then (3, []) else if (rdE l (num (l.take 2))).1 ≠ 0 then ((rdE l (num (l.take 2))).1, [])
  else if (rdE l (num (l.take 2))).2.1 < l.length ∨ rowM (rdE l (num (l.take 2))).2.2 = false then (150, []) else (0, (rdE l (num (l.take 2))).2.2)
theorem cell_not {W : World} {b o : Nat} {v : Value} (h : W.cell? ⟨b, o, none⟩ = some v) {k : Nat} {ob : Obj} (hl : W.heap[k]? = some ob) (hc : ob.isCells = false) : b ≠ k := by
  rintro rfl
  unfold World.cell? at h
  simp only [hl] at h
  cases ob <;> simp_all [Obj.isCells]
theorem Bs.put {W : World} {B : Nat} {A : Option Addr} {l : List UInt8} (h : Bs W B A l) {k : Nat} {ob ob' : Obj} (hl : W.heap[k]? = some ob) (hc : ob.isCells = false) : Bs (W.putObj k ob') B A l := fun hp => by
  obtain ⟨b, o, e, hlt, h1⟩ := h hp
  have h0 := h1 0 hp
  have hne := cell_not h0 hl hc
  exact ⟨b, o, e, hlt, fun i hi => (World.cell?_of_block (w := W) (a := ⟨b, o + i, none⟩) (World.putObj_heap_other hne)).trans (h1 i hi)⟩
theorem RecAt.put {W : World} {B : Nat} {r : RM} {s : RS} (h : RecAt W B r s) {k : Nat} {ob ob' : Obj} (hl : W.heap[k]? = some ob) (hc : ob.isCells = false) : RecAt (W.putObj k ob') B r s :=
  ⟨h.lo, h.ln, h.mo, h.mn, Bs.put h.bo hl hc, Bs.put h.bn hl hc, h.ao, h.an⟩
theorem row_put {W : World} {b : Nat} {t : TypeId} {cs : List Value} (h : Row W b t cs) {k : Nat} {ob ob' : Obj} (hl : W.heap[k]? = some ob) (hc : ob.isCells = false) : Row (W.putObj k ob') b t cs := by
  have hne : b ≠ k := by
    rintro rfl
    have h' : W.heap[b]? = some (.cells cs.toArray t (0, 0)) := h
    rw [hl] at h'
    cases h'
    cases hc
  exact (World.putObj_heap_other hne).trans h
theorem own_not {W : World} {base n size : Nat} {t : TypeId} {v : Value} {xs : List Value} (h : W.ownsRow base t size v n xs) {k : Nat} {ob : Obj} (hl : W.heap[k]? = some ob) (hc : ob.isCells = false) : v.ownBlock = none ∨ v.ownBlock ≠ some k := by
  rcases h.2 with ⟨rfl, _⟩ | ⟨g, cap, cur, rfl, _, hg, _⟩
  · exact .inl rfl
  · refine .inr fun e => ?_
    obtain rfl : g = k := Option.some.inj e
    rw [hl] at hg
    cases hg
    cases hc
theorem Rs.put {W : World} {base : Nat} {v : Value} {ys : List (RM × RS)} (h : Rs W base v ys) {k : Nat} {ob ob' : Obj} (hl : W.heap[k]? = some ob) (hc : ob.isCells = false) : Rs (W.putObj k ob') base v ys :=
  ⟨World.ownsRow.kept h.own (grownBy_putObj' W k ob') (own_not h.own hl hc), fun y hy => ((h.at_ y hy).put hl hc).more (grownBy_putObj' W k ob').size, h.no8.kept (grownBy_putObj' W k ob') (own_not h.own hl hc)⟩
/-- a record's bytes do not lie in a block that has no byte -/
theorem RecAt.far_row {w w' : World} {B a : Nat} {r : RM} {s : RS} {t : TypeId} {cs : List Value} (h : RecAt w B r s) (hB : B ≤ w.heap.size) (hr : Row w a t cs) (hcs : ∀ v ∈ cs, ∀ z, v ≠ .int .u8 z) (hg : w.grownBy w' (some a)) : RecAt w' B r s :=
  ⟨h.lo, h.ln, h.mo, h.mn, Bs.far h.bo hB hr hcs (fun k hk hlt => hg.block k hlt (fun e => hk (Option.some.inj e))), Bs.far h.bn hB hr hcs (fun k hk hlt => hg.block k hlt (fun e => hk (Option.some.inj e))), h.ao, h.an⟩
theorem Rs.far_row {w w' : World} {base a : Nat} {t : TypeId} {cs : List Value} {v : Value} {ys : List (RM × RS)} (h : Rs w base v ys) (hr : Row w a t cs) (hcs : ∀ v ∈ cs, ∀ z, v ≠ .int .u8 z) (hg : w.grownBy w' (some a)) (ha : a < base) : Rs w' base v ys := by
  have hne : v.ownBlock = none ∨ v.ownBlock ≠ some a := .inr fun e => by have := (World.ownsRow.lt h.own a e).1; omega
  exact ⟨World.ownsRow.kept h.own hg hne, fun y hy => ((h.at_ y hy).far_row (Nat.le_refl _) hr hcs hg).more hg.size, h.no8.kept hg hne⟩
theorem wp_append_rec {w : World} {o : Oper} {a : Act} {K : Act → World → Prop} {Q : Exit → Act → World → Prop} (s x : Operand)
    (ho : o.op = .call { callee := .builtin .append, args := #[s, x], argTypes := #[22, 22] })
    (base : Nat) (v : Value) (ys : List (RM × RS)) (hs : a.eval s = v) (h : Rs w base v ys) (ad : Addr) (c : Nat) (r : RM) (t : RS) (hx : a.eval x = .slice (some ad) 1 c) (hcs : ∀ j u, (rcs r t)[j]? = some u → w.cell? (ad.add j) = some u) (hr : RecAt w w.heap.size r t)
    (hn : ys.length ≤ 100000) (hbase : base ≤ w.heap.size)
    (hK : ∀ v' w', Rs w' base v' (ys ++ [(r, t)]) → w.grownBy w' v.ownBlock → Below base w w' → K (a.put o.dst v') w') : o.wp Try.prog a w K Q := by
  obtain ⟨i, hi, hz, hz1, hz2⟩ := info_parts info_rec
  refine wp_append_p N8 s x 22 ho base 34 i _ 9 104 Try.underlying22 hi hz hz1 hz2 rfl (by omega) v ys.length (fl ys) hs h.own ad 1 c (rcs r t) hx rfl hcs rcs_one (by unfold maxLen; omega) (by omega) hbase (by omega) ?_ (fun u hu => rcs_no8 u hu) h.no8 ?_
  · intro c hc
    exact rcs_no8 (r := zeroR) (s := zeroS) c (by simpa [Value.cells] using hc)
  · intro v' w' h2 h3 h4 h5
    exact hK v' w' (h.push hr h2 h3 h5) h3 (below_own h3 (fun k hk => (World.ownsRow.lt h.own k hk).1) hbase)
theorem wpListIn_append_rec {w : World} {l n : Nat} {ops : Array Oper} {rest : List Oper} {o : Oper} {a : Act} {Q : Exit → Act → World → Prop} (hgd : o.guard = none) (s x : Operand)
    (ho : o.op = .call { callee := .builtin .append, args := #[s, x], argTypes := #[22, 22] })
    (base : Nat) (v : Value) (ys : List (RM × RS)) (hs : a.eval s = v) (h : Rs w base v ys) (ad : Addr) (c : Nat) (r : RM) (t : RS) (hx : a.eval x = .slice (some ad) 1 c) (hcs : ∀ j u, (rcs r t)[j]? = some u → w.cell? (ad.add j) = some u) (hr : RecAt w w.heap.size r t)
    (hn : ys.length ≤ 100000) (hbase : base ≤ w.heap.size)
    (hK : ∀ v' w', Rs w' base v' (ys ++ [(r, t)]) → w.grownBy w' v.ownBlock → Below base w w' → wpListIn (Fence.wide.inRound l) n Try.prog ops Q rest (a.put o.dst v') w') : wpListIn (Fence.wide.inRound l) n Try.prog ops Q (o :: rest) a w :=
  wpListIn_plain hgd fun K hK' => op_in2 (fun c e => by rw [ho] at e; cases e) (wp_append_rec s x ho base v ys hs h ad c r t hx hcs hr hn hbase fun v' w' h1 h2 h3 => hK' _ _ (hK v' w' h1 h2 h3))
theorem wpListIn_build1 {P : Program} {l n : Nat} {ops : Array Oper} {rest : List Oper} {o : Oper} {a : Act} {w : World} {Q : Exit → Act → World → Prop} (hgd : o.guard = none) (t e : TypeId) (x : Operand) (ho : o.op = .buildSlice t 1 #[(0, x)])
    (vs zs : List Value) (ie : TypeInfo) (hx : a.eval x = .agg vs.toArray) (hu : P.underlying t = some (.slice e)) (hie : P.info? e = some ie) (hz : ie.zero = some (.agg zs.toArray)) (hs : ie.size = zs.length) (hl : vs.length = zs.length) (hpos : 0 < zs.length) (hn : zs.length ≤ 1000)
    (h : wpListIn (Fence.wide.inRound l) n P ops Q rest (a.put o.dst (.slice (some ⟨w.heap.size, 0, none⟩) 1 1)) (w.alloc (.cells vs.toArray e))) : wpListIn (Fence.wide.inRound l) n P ops Q (o :: rest) a w :=
  wpListIn_plain hgd fun _ hK => op_in2 (fun c e => by rw [ho] at e; cases e) (wp_buildOne t e x ho vs zs ie hx hu hie hz hs hl hpos hn (hK _ _ h))
theorem res_cells2 {P : Program} {fn : Func} {p q : Tmp} {t1 t2 : TypeId} (h : fn.results = #[.cell p t1, .cell q t2]) (tmps : Array Value) (w : World) (a b : Addr) (v u : Value) (hp : tmps.getD p undef = .pointer (some a)) (hq : tmps.getD q undef = .pointer (some b))
    (hl : (loadVar t1 a).run P w = .ok v w) (hm : (loadVar t2 b).run P w = .ok u w) : (results fn tmps).run P w = .ok (.tuple #[v, u]) w := by
  simp only [results, h]
  simp only [Array.getD_eq_getD_getElem?] at *
  simp [Sem.run_bind, Result.andThen]
  rw [hp, hq, show (asAddr (.pointer (some a))).run P w = .ok a w from rfl]
  simp only []
  simp only [hl, show (asAddr (.pointer (some b))).run P w = .ok b w from rfl, hm]
theorem records_any (g m : Nat) (w : World) : Calls Try.prog 41 #[.agg #[.pointer (some ⟨g, 0, none⟩)], .int .i64 (m : Int)] w fun e w' =>
    e = .returned (.func (.func 64) #[] #[.pointer (some ⟨w.heap.size + 1, 0, none⟩), .pointer (some ⟨w.heap.size, 0, none⟩)]) ∧ w' = (w.alloc (.cells #[.pointer (some ⟨g, 0, none⟩)] 69)).alloc (.cells #[.int .i64 (m : Int)] 3) := by
  have hmf : ∀ (fn : Fn) (first cap : Array Value) (w : World), (Instr.makeFunc fn first cap).run Try.prog w = .ok (.func fn first cap) w := fun _ _ _ _ => rfl
  go_enter Try.func41, Try.ntmps41
  go_wp2
  go_ret
  exact ⟨rfl, rfl⟩
/-- DecodeRow's variables -/
structure D0 (w : World) (g R4 : Nat) (W : World) : Prop where
  r2 : Row W w.heap.size 22 [.slice none 0 0]
  r3 : Row W (w.heap.size + 1) 26 [.int .i64 0]
  r4 : Row W R4 69 [.pointer (some ⟨g, 0, none⟩)]
  hb : Below w.heap.size w W
  lg : w.heap.size + 1 < g
  l4 : g < R4
theorem D0.grown {w W W' : World} {g R4 : Nat} {r : Option Nat} (h : D0 w g R4 W) (hg : W.grownBy W' r) (hr : ∀ q, r = some q → w.heap.size + 1 < q ∧ q ≠ R4) : D0 w g R4 W' :=
  ⟨h.r2.grown hg (fun e => by have := hr _ e.symm; omega), h.r3.grown hg (fun e => by have := hr _ e.symm; omega), h.r4.grown hg (fun e => (hr _ e.symm).2 rfl), h.hb.grown hg h.hb.size (fun k hk => by have := hr _ hk; omega), h.lg, h.l4⟩
theorem D0.below {w W W' : World} {g R4 : Nat} (h : D0 w g R4 W) (hb : Below W.heap.size W W') : D0 w g R4 W' :=
  h.grown (r := none) ⟨hb.os, hb.tape, hb.output, hb.size, fun k hk _ => hb.block k hk⟩ (fun q e => by cases e)
theorem D0.ends {w W : World} {g R4 : Nat} (h : D0 w g R4 W) (v : Value) (E : Int) : Row ((W.setCell ⟨w.heap.size, 0, none⟩ v).setCell ⟨w.heap.size + 1, 0, none⟩ (.int .i64 E)) w.heap.size 22 [v] ∧ Row ((W.setCell ⟨w.heap.size, 0, none⟩ v).setCell ⟨w.heap.size + 1, 0, none⟩ (.int .i64 E)) (w.heap.size + 1) 26 [.int .i64 E] ∧
    Below w.heap.size w ((W.setCell ⟨w.heap.size, 0, none⟩ v).setCell ⟨w.heap.size + 1, 0, none⟩ (.int .i64 E)) :=
  ⟨(h.r2.store 0 v).far (by simp) _, (h.r3.far (by simp) v).store 0 _, (h.hb.setCell (p := ⟨w.heap.size, 0, none⟩) (Nat.le_refl _) _).setCell (p := ⟨w.heap.size + 1, 0, none⟩) (by simp) _⟩
theorem load_slice {W : World} {b : Nat} {v : Value} (h : Row W b 22 [v]) (hv : v.oneCell' = true) : (loadVar 22 ⟨b, 0, none⟩).run Try.prog W = .ok v W := by
  have hc : W.cell? ⟨b, 0, none⟩ = some v := h.cell 0
  go_simp
theorem load_errno {W : World} {b : Nat} {E : Int} (h : Row W b 26 [.int .i64 E]) : (loadVar 26 ⟨b, 0, none⟩).run Try.prog W = .ok (.int .i64 E) W := by
  have hc : W.cell? ⟨b, 0, none⟩ = some (.int .i64 E) := h.cell 0
  go_simp
/-- what the rounds hold -/
structure DI (w : World) (g R4 R6 B : Nat) (pre : List (Int × RM × RS)) (W : World) : Prop where
  d : D0 w g R4 W
  v : ∃ v ys, Row W R6 22 [v] ∧ Rs W B v ys ∧ ys.map (·.1) = pre.map (·.2.1)
  sz : B ≤ W.heap.size
/-- what a return out of a round leaves -/
def DX (w : World) (DM : Int × List RM) (_ : List (Int × RM × RS)) (W : World) : Prop := ∃ E, DM = (E, []) ∧ Row W w.heap.size 22 [.slice none 0 0] ∧ Row W (w.heap.size + 1) 26 [.int .i64 E] ∧ Below w.heap.size w W
def DecR (w : World) (l : List UInt8) (e : Ending) (w' : World) : Prop := ∃ v ys, e = .returned (.tuple #[v, .int .i64 (decRowM l).1]) ∧ Rs w' w.heap.size v ys ∧ ys.map (·.1) = (decRowM l).2 ∧ Below w.heap.size w w'

set_option maxHeartbeats 8000000 in
theorem decodeRow_any (A : Option Addr) (n c : Nat) (l : List UInt8) (w : World) (hl : l.length = n) (hn : n ≤ 100000) (hb : Bs w w.heap.size A l) (hA : A = none → c = 0) :
    Calls Try.prog 18 #[.slice A n c] w (DecR w l) := by
  obtain ⟨iR, hiR, hzR, hsR, hbR⟩ := info_parts info_rec
  have HL := Lib.hid hl
  have HB := Lib.hid hb
  have HA := Lib.hid hA
  clear hl hb hA
  unfold DecR
  obtain ⟨DM, hDM⟩ : ∃ DM, DM = decRowM l := ⟨_, rfl⟩
  rw [← hDM]
  have HDE := Lib.hid hDM
  clear hDM
  refine (callsIn_wide (n := 9)).1 ?_
  refine callsIn_of_wp_marks Try.func18 rfl trivial ?_ rfl
  refine wpIn_wide.2 ?_
  simp only [Try.ntmps18, List.size_toArray, List.length_cons, List.length_nil, Nat.reduceAdd, Nat.reduceSub, Array.replicate_succ, Array.replicate_zero, List.push_toArray, List.append_toArray, List.nil_append, List.cons_append]
  go_upto_region 1 with fail
  have hw2 : Below w.heap.size w ((w.alloc (.cells #[.slice none 0 0] 22)).alloc (.cells #[.int .i64 0] 26)) := ((Below.refl _ _).alloc (Nat.le_refl _) _).alloc (by simp) _
  have hr2 : Row ((w.alloc (.cells #[.slice none 0 0] 22)).alloc (.cells #[.int .i64 0] 26)) w.heap.size 22 [.slice none 0 0] := (Row.new w _ _).alloc _
  have hr3 : Row ((w.alloc (.cells #[.slice none 0 0] 22)).alloc (.cells #[.int .i64 0] 26)) (w.heap.size + 1) 26 [.int .i64 0] := by
    have := Row.new (w.alloc (.cells #[.slice none 0 0] 22)) 26 [.int .i64 0]
    rwa [World.size_alloc] at this
  have hs2 : ((w.alloc (.cells #[.slice none 0 0] 22)).alloc (.cells #[.int .i64 0] 26)).heap.size = w.heap.size + 2 := by simp
  generalize (w.alloc (.cells #[.slice none 0 0] 22)).alloc (.cells #[.int .i64 0] 26) = w2 at hw2 hr2 hr3 hs2 ⊢
  have HRR := Lib.hid (read_rec A l n c w2 HL.out (by omega) w.heap.size (HB.out.below hw2) hw2.size HA.out)
  have H2 := Lib.hid (show _ ∧ _ ∧ _ ∧ _ from ⟨hw2, hr2, hr3, hs2⟩)
  clear hw2 hr2 hr3 hs2
  go_wp2_with fail
  refine HRR.out.mono ?_
  rintro e w3 ⟨g, rfl, hg2, hrd, hb3⟩
  have HG3 : Hid (w.heap.size + 1 < g) := (show _ < _ by have := H2.out.2.2.2; omega)
  have HRD3 := Lib.hid hrd
  have H3 : Hid (Row w3 w.heap.size 22 [.slice none 0 0] ∧ Row w3 (w.heap.size + 1) 26 [.int .i64 0] ∧ Below w.heap.size w w3) := ⟨H2.out.2.1.below hb3 H2.out.2.1.lt, H2.out.2.2.1.below hb3 H2.out.2.2.1.lt, H2.out.1.trans (hb3.mono H2.out.1.size)⟩
  clear hg2 hrd hb3 H2 HRR
  go_upto_region 2 with fail
  have hwa : Below w3.heap.size w3 (w3.alloc (.cells #[.pointer (some ⟨g, 0, none⟩)] 69)) := (Below.refl _ _).alloc (Nat.le_refl _) _
  have H4 : Hid (D0 w g w3.heap.size (w3.alloc (.cells #[.pointer (some ⟨g, 0, none⟩)] 69))) := ⟨H3.out.1.alloc _, H3.out.2.1.alloc _, Row.new w3 _ _, H3.out.2.2.trans (hwa.mono H3.out.2.2.size), HG3.out, HRD3.out.lt⟩
  have HRD4 := Lib.hid (HRD3.out.below hwa HRD3.out.lt)
  generalize w3.alloc (.cells #[.pointer (some ⟨g, 0, none⟩)] 69) = w4 at H4 HRD4 ⊢
  generalize w3.heap.size = R4 at H4 ⊢
  clear hwa H3 HRD3 HG3
  have HU := Lib.hid (u16_any g l 0 0 w4 HRD4.out)
  obtain ⟨Z, hZ⟩ : ∃ Z, Z = Oct.step l 0 0 2 := ⟨_, rfl⟩
  rw [← hZ] at HU
  have HZ := Lib.hid hZ
  obtain ⟨m, hm⟩ : ∃ m, m = num Z.1 := ⟨_, rfl⟩
  rw [← hm] at HU
  have HM := Lib.hid hm
  have hm16 : m < 65536 := by
    rw [hm, hZ]
    exact step_num_lt l 0 0 2
  have hwm : IntKind.i64.wrap (m : Int) = (m : Int) := by simp [IntKind.wrap, IntKind.signed, IntKind.bits]; omega
  clear hZ hm
  have hc4 : w4.cell? ⟨R4, 0, none⟩ = some (.pointer (some ⟨g, 0, none⟩)) := H4.out.r4.cell 0
  go_wp2_with fail
  refine HU.out.mono ?_
  rintro e w5 ⟨rfl, hrd, hgr⟩
  have HRD5 := Lib.hid hrd
  have H5 : Hid (D0 w g R4 w5) := H4.out.grown hgr (fun q e => by have := Option.some.inj e; have := H4.out.lg; have := H4.out.l4; omega)
  clear hrd hgr HU H4 HRD4 hc4
  by_cases h2 : n < 2
  case pos =>
    have HZ2 : Hid (Z = ([], 0, 7)) := (show _ = _ by rw [HZ.out]; unfold Oct.step; rw [if_neg (by simp), if_neg (by omega), if_pos (by rw [HL.out]; omega)])
    rw [HZ2.out] at HRD5
    dsimp only at HRD5
    have HDM : Hid (DM = (7, [])) := (show _ = _ by rw [HDE.out]; unfold decRowM; rw [if_pos (by rw [HL.out]; exact h2)])
    have HER := Lib.hid (err_any g l 0 7 w5 HRD5.out)
    have hc5 : w5.cell? ⟨R4, 0, none⟩ = some (.pointer (some ⟨g, 0, none⟩)) := H5.out.r4.cell 0
    go_wp2_with fail
    refine HER.out.mono ?_
    rintro e w6 ⟨rfl, rfl⟩
    go_wp2_with fail
    refine HER.out.mono ?_
    rintro e w7 ⟨rfl, rfl⟩
    have hf2 := H5.out.r2.frozen 0
    have hd2 : w5.cell? ⟨w.heap.size, 0, none⟩ = some (.slice none 0 0) := H5.out.r2.cell 0
    have hd3 : w5.cell? ⟨w.heap.size + 1, 0, none⟩ = some (.int .i64 0) := H5.out.r3.cell 0
    have hf3 := H5.out.r3.frozen 0
    go_wp2_with fail
    obtain ⟨he2, he3, heb⟩ := H5.out.ends (.slice none 0 0) (7)
    generalize (w5.setCell ⟨w.heap.size, 0, none⟩ (.slice none 0 0)).setCell ⟨w.heap.size + 1, 0, none⟩ (.int .i64 (7)) = wz at he2 he3 heb ⊢
    exact ⟨.tuple #[.slice none 0 0, .int .i64 (7)], res_cells2 rfl _ _ ⟨w.heap.size, 0, none⟩ ⟨w.heap.size + 1, 0, none⟩ _ _ rfl rfl (load_slice he2 rfl) (load_errno he3), _, [], by rw [HDM.out], Rs.nil _ _, by rw [HDM.out]; rfl, heb⟩
  have HZ2 : Hid (Z = (l.take 2, 2, 0)) := (show _ = _ by rw [HZ.out]; unfold Oct.step; rw [if_neg (by simp), if_neg (by omega), if_neg (by rw [HL.out]; omega)]; rfl)
  rw [HZ2.out] at HRD5 HM
  dsimp only at HRD5 HM
  have HER := Lib.hid (err_any g l 2 0 w5 HRD5.out)
  have hc5 : w5.cell? ⟨R4, 0, none⟩ = some (.pointer (some ⟨g, 0, none⟩)) := H5.out.r4.cell 0
  have HN2 : Hid (¬ l.length < 2) := (show ¬ _ by rw [HL.out]; exact h2)
  clear HZ
  by_cases h64 : 64 < m
  case pos =>
    have h64i : (64 : Int) < (m : Int) := by omega
    have HDM : Hid (DM = (3, [])) := (show _ = _ by rw [HDE.out]; unfold decRowM; rw [if_neg HN2.out, if_pos (by rw [← HM.out]; exact h64)])
    go_wp2_with fail
    refine HER.out.mono ?_
    rintro e w6 ⟨rfl, rfl⟩
    have hf2 := H5.out.r2.frozen 0
    have hd2 : w5.cell? ⟨w.heap.size, 0, none⟩ = some (.slice none 0 0) := H5.out.r2.cell 0
    have hd3 : w5.cell? ⟨w.heap.size + 1, 0, none⟩ = some (.int .i64 0) := H5.out.r3.cell 0
    have hf3 := H5.out.r3.frozen 0
    go_wp2_with fail
    obtain ⟨he2, he3, heb⟩ := H5.out.ends (.slice none 0 0) (3)
    generalize (w5.setCell ⟨w.heap.size, 0, none⟩ (.slice none 0 0)).setCell ⟨w.heap.size + 1, 0, none⟩ (.int .i64 (3)) = wz at he2 he3 heb ⊢
    exact ⟨.tuple #[.slice none 0 0, .int .i64 (3)], res_cells2 rfl _ _ ⟨w.heap.size, 0, none⟩ ⟨w.heap.size + 1, 0, none⟩ _ _ rfl rfl (load_slice he2 rfl) (load_errno he3), _, [], by rw [HDM.out], Rs.nil _ _, by rw [HDM.out]; rfl, heb⟩
  have h64i : ¬ (64 : Int) < (m : Int) := by omega
  go_wp2_with fail
  refine HER.out.mono ?_
  rintro e w6 ⟨rfl, rfl⟩
  clear HER hc5
  go_upto_region 8 with fail
  have hwa : Below w5.heap.size w5 (w5.alloc (.cells #[.slice none 0 0] 22)) := (Below.refl _ _).alloc (Nat.le_refl _) _
  have H6 := Lib.hid (H5.out.below hwa)
  have HRD6 := Lib.hid (HRD5.out.below hwa HRD5.out.lt)
  have HR6 : Hid (Row (w5.alloc (.cells #[.slice none 0 0] 22)) w5.heap.size 22 [.slice none 0 0]) := Row.new w5 _ _
  have HS6 : Hid (R4 < w5.heap.size) := H5.out.r4.lt
  generalize w5.alloc (.cells #[.slice none 0 0] 22) = w6 at H6 HRD6 HR6 hwa ⊢
  generalize w5.heap.size = R6 at HR6 HS6 hwa ⊢
  clear hwa H5 HRD5
  have hc6 : w6.cell? ⟨R4, 0, none⟩ = some (.pointer (some ⟨g, 0, none⟩)) := H6.out.r4.cell 0
  go_wp2_with fail
  refine (records_any g m w6).mono ?_
  rintro e w7 ⟨rfl, hw7⟩
  have hb7 : Below w6.heap.size w6 w7 := by rw [hw7]; exact ((Below.refl _ _).alloc (Nat.le_refl _) _).alloc (by simp) _
  have H7 := Lib.hid (H6.out.below hb7)
  have HRD7 := Lib.hid (HRD6.out.below hb7 HRD6.out.lt)
  have HR7 := Lib.hid (HR6.out.below hb7 HR6.out.lt)
  have HBr : Hid (w7.cell? ⟨w6.heap.size, 0, none⟩ = some (.pointer (some ⟨g, 0, none⟩))) := (show _ = _ by
    have := (Row.new w6 69 [.pointer (some ⟨g, 0, none⟩)]).alloc (.cells #[.int .i64 (m : Int)] 3)
    rw [hw7]; exact this.cell 0)
  have HBn : Hid (w7.cell? ⟨w6.heap.size + 1, 0, none⟩ = some (.int .i64 (m : Int))) := (show _ = _ by
    have := Row.new (w6.alloc (.cells #[.pointer (some ⟨g, 0, none⟩)] 69)) 3 [.int .i64 (m : Int)]
    rw [World.size_alloc] at this
    rw [hw7]; exact this.cell 0)
  have HS7 : Hid (w7.heap.size = w6.heap.size + 2) := (show _ = _ by rw [hw7]; simp)
  have HS67 : Hid (R6 < w6.heap.size) := HR6.out.lt
  generalize w6.heap.size = Br at HBr HBn HS7 HS67 ⊢
  clear hw7 hb7 H6 HRD6 HR6 hc6
  go_wp2_with fail
  refine (wpIn_wide (n := 9)).1 ?_
  obtain ⟨B, hB⟩ : ∃ B, B = w7.heap.size := ⟨_, rfl⟩
  have HLG : Hid (w.heap.size + 1 < g ∧ g < R4 ∧ R4 < R6 ∧ R6 < Br ∧ B = Br + 2) := ⟨H7.out.lg, H7.out.l4, HS6.out, HS67.out, by rw [hB]; exact HS7.out⟩
  have hn3 : ∀ v ∈ [Value.pointer (some (⟨g, 0, none⟩ : Addr))], ∀ z, v ≠ .int .u8 z := by simp
  refine range_feeds (n := 9) (by omega) (gf := 64) (lb := #[.pointer (some ⟨Br + 1, 0, none⟩), .pointer (some ⟨Br, 0, none⟩)]) rfl (enters_of Try.func64 (by kernel_rfl) rfl)
    (encs := encR) (G := StR g l) (T := TR l m) (Ok := fun x => x.1 = 0) (Kp := KpR g (Br + 1) Br) (S := SR g l m) (Sp := fun _ _ => True) ?feeds (fun h k => h.trans k) ?hKb (fun _ => rfl)
    (DI w g R4 R6 B) (DX w DM) ?hG ?hIa ?hI ?hIx ?hIp ?hIxp ?h0 (fun pre x a' W => ∃ P7, a' = { tmps := #[.slice A n c, undef, .pointer (some ⟨w.heap.size, 0, none⟩), .pointer (some ⟨w.heap.size + 1, 0, none⟩), .pointer (some ⟨R4, 0, none⟩), .int .i64 (m : Int), .pointer (some ⟨R6, 0, none⟩), .pointer (some ⟨P7, 0, none⟩), .int .i64 x.1, .slice A n c, .agg #[.pointer (some ⟨g, 0, none⟩)], .pointer (some ⟨R4, 0, none⟩), .pointer (some ⟨g, 0, none⟩), .int .u16 (m : Int), .int .i64 (m : Int), .bool false, .pointer (some ⟨R4, 0, none⟩), .pointer (some ⟨g, 0, none⟩), .int .i64 0, .bool false, undef, undef, undef, .bool (decide (64 < (m : Int))), .int .i64 (m : Int), .bool (decide (64 < (m : Int))), .agg #[.pointer (some ⟨g, 0, none⟩)], .int .i64 (m : Int), .func (.func 64) #[] #[.pointer (some ⟨Br + 1, 0, none⟩), .pointer (some ⟨Br, 0, none⟩)], .agg (rcs x.2.1 x.2.2).toArray, .int .i64 x.1, undef, undef, undef, undef, undef, undef, undef, undef, undef, undef, undef, undef, undef, undef, undef, undef, undef], defers := [] } ∧ Row W P7 34 (rcs x.2.1 x.2.2) ∧ RecAt W W.heap.size x.2.1 x.2.2 ∧ B ≤ P7 ∧ pre.length < m ∧ ∃ p, rdE l pre.length = (0, p, pre.map (·.2.1)) ∧ x.1 = (recM l p).1 ∧ x.2.1 = (recM l p).2.1) ?hAx ?assign ?body ?done ?stop
  case feeds =>
    refine records_in g (Br + 1) Br l m 8 w7 (by rw [HL.out]; omega) (by omega) (by omega) (by have := HLG.out; omega) (by have := HLG.out; omega) HBn.out HBr.out (by rw [HS7.out]; omega) (by rw [HS7.out]; omega) 2 rfl HRD7.out
  case hKb =>
    intro W k o o' hk hl hc j hj
    refine World.putObj_heap_other ?_
    have := HLG.out
    omega
  case hG =>
    rintro A' B' k o ⟨hg, -, -⟩ hk ho hc
    exact (hg.block k (Array.getElem?_eq_some_iff.1 ho).1 (fun e => by have := Option.some.inj e; have := HLG.out; omega)).trans ho
  case hIa =>
    rintro pre W o ⟨hd, ⟨v, ys, h1, h2, h3⟩, hs⟩
    have hb : Below W.heap.size W (W.alloc o) := (Below.refl _ _).alloc (Nat.le_refl _) _
    exact ⟨hd.below hb, ⟨v, ys, h1.alloc _, h2.below hb, h3⟩, Nat.le_trans hs hb.size⟩
  case hI =>
    rintro pre A' B' ⟨hd, ⟨v, ys, h1, h2, h3⟩, hs⟩ ⟨hg, ⟨p, e, hra⟩, -⟩
    obtain ⟨_, _, _, hrow, _⟩ := hra
    have := HLG.out
    exact ⟨hd.grown hg (fun q e => by have := Option.some.inj e; omega), ⟨v, ys, h1.grown hg (fun e => by have := Option.some.inj e; omega), h2.far_row hrow (by simp) hg (by omega), h3⟩, Nat.le_trans hs hg.size⟩
  case hIx =>
    rintro pre A' B' ⟨E, h1, h2, h3, h4⟩ ⟨hg, -, -⟩
    have := HLG.out
    exact ⟨E, h1, h2.grown hg (fun e => by have := Option.some.inj e; omega), h3.grown hg (fun e => by have := Option.some.inj e; omega), h4.grown hg h4.size (fun k hk => by have := Option.some.inj hk; omega)⟩
  case hIp =>
    rintro pre W k o o' hk hl hc ⟨hd, ⟨v, ys, h1, h2, h3⟩, hs⟩
    have hg := grownBy_putObj' W k o'
    have := HLG.out
    have := hd.r4.lt
    exact ⟨hd.grown hg (fun q e => by have := Option.some.inj e; omega), ⟨v, ys, row_put h1 hl hc, h2.put hl hc, h3⟩, Nat.le_trans hs hg.size⟩
  case hIxp =>
    rintro pre W k o o' hk hl hc ⟨E, h1, h2, h3, h4⟩
    have := HLG.out
    exact ⟨E, h1, row_put h2 hl hc, row_put h3 hl hc, h4.grown (grownBy_putObj' W k o') h4.size (fun q e => by have := Option.some.inj e; omega)⟩
  case h0 => exact ⟨H7.out, ⟨_, [], HR7.out, Rs.nil _ _, rfl⟩, by rw [hB]; exact Nat.le_refl _⟩
  case hAx =>
    rintro pre x a' _ W k o o' hk hl hc ⟨P7, e, h1, h2, h3⟩
    exact ⟨P7, e, row_put h1 hl hc, (h2.put hl hc).more (grownBy_putObj' W k o').size, h3⟩
  case assign =>
    intro yl pre x W K ht hI hK
    obtain ⟨x1, xr, xs⟩ := x
    have HT := Lib.hid ht
    have HI := Lib.hid hI
    have HK := Lib.hid hK
    clear ht hI hK
    unfold encR rcs
    gi_wp2
    have hb : Below W.heap.size W (W.alloc (.cells #[.int .u64 (xr.lsn : Int), .int .i64 xr.kind, .int .u64 (xr.txn : Int), .int .u64 (xr.back : Int), .int .i64 xr.page, .int .i64 xr.slot, .slice xs.Ao xs.no xs.co, .slice xs.An xs.nn xs.cn, .int .u64 (xr.next : Int)] 34)) := (Below.refl _ _).alloc (Nat.le_refl _) _
    exact HK.out _ _ (KeepsFrom.of_grownBy (World.grownBy_alloc W _ none) (fun j e => by cases e)) (fun k hk => hb.block k (by have := HLG.out; have := HI.out.sz; omega))
      ⟨HI.out.d.below hb, by obtain ⟨v, ys, h1, h2, h3⟩ := HI.out.v; exact ⟨v, ys, h1.alloc _, h2.below hb, h3⟩, Nat.le_trans HI.out.sz hb.size⟩
      ⟨W.heap.size, rfl, Row.new W _ _, (HT.out.rec_.below hb).more hb.size, HI.out.sz, HT.out.lt, HT.out.at_⟩
  case body =>
    rintro yl pre ⟨x1, xr, xs⟩ a' W hyl ⟨r, hr⟩ hI ⟨P7, rfl, hrow, hrec, hP7, hlt, hat⟩
    dsimp only at hrow hrec hat ⊢
    have HI := Lib.hid hI
    have HROW := Lib.hid hrow
    have HREC := Lib.hid hrec
    have HAT := Lib.hid hat
    have HP7 := Lib.hid hP7
    clear hI hrow hrec hat hP7 hr HBr HBn HR7 HRD7 H7
    unfold rcs
    by_cases hx : x1 = 0
    case neg =>
      have hne : (x1 != 0) = true := by simp [hx]
      have HDM : Hid (DM = (x1, [])) := (show _ = _ by
        obtain ⟨p, h1, h2, h3⟩ := HAT.out
        have hf := rdE_fail h1 (by rw [← h2]; exact hx)
        have hst := rdE_stays (l := l) (i := pre.length + 1) (by rw [hf, ← h2]; exact hx) m (by omega)
        rw [HDE.out]
        unfold decRowM
        rw [if_neg HN2.out, ← HM.out, if_neg h64, hst, hf, ← h2, if_pos hx])
      have hf2 := HI.out.d.r2.frozen 0
      have hd2 : W.cell? ⟨w.heap.size, 0, none⟩ = some (.slice none 0 0) := HI.out.d.r2.cell 0
      have hd3 : W.cell? ⟨w.heap.size + 1, 0, none⟩ = some (.int .i64 0) := HI.out.d.r3.cell 0
      have hf3 := HI.out.d.r3.frozen 0
      clear hx
      gi_wp2
      obtain ⟨he2, he3, heb⟩ := HI.out.d.ends (.slice none 0 0) x1
      have hlg := HLG.out
      exact ⟨(KeepsFrom.of_grownBy (grownBy_setCell' W w.heap.size _) (fun j e => by cases e; omega)).trans (KeepsFrom.of_grownBy (grownBy_setCell' _ (w.heap.size + 1) _) (fun j e => by cases e; omega)), x1, HDM.out, he2, he3, heb⟩
    subst hx
    obtain ⟨v, ys, hv1, hv2, hv3⟩ := HI.out.v
    obtain ⟨Av, cv, rfl, -, -, -, -⟩ := hv2.rl
    have HD := Lib.hid HI.out.d
    have HSZ := Lib.hid HI.out.sz
    have HYL : Hid (ys.length ≤ 100000) := (show _ ≤ _ from by
      have := congrArg List.length hv3
      rw [List.length_map, List.length_map] at this
      omega)
    have hwa : Below W.heap.size W (W.alloc (.cells #[.int .u64 (xr.lsn : Int), .int .i64 xr.kind, .int .u64 (xr.txn : Int), .int .u64 (xr.back : Int), .int .i64 xr.page, .int .i64 xr.slot, .slice xs.Ao xs.no xs.co, .slice xs.An xs.nn xs.cn, .int .u64 (xr.next : Int)] 34)) := (Below.refl _ _).alloc (Nat.le_refl _) _
    have HV1 := Lib.hid hv1
    have HV2 := Lib.hid (hv2.below hwa)
    have HV3 := Lib.hid hv3
    have HR10 := Lib.hid ((HREC.out.below hwa).more hwa.size)
    have HD10 := Lib.hid (HD.out.below hwa)
    have HV10 := Lib.hid (HV1.out.alloc (.cells #[.int .u64 (xr.lsn : Int), .int .i64 xr.kind, .int .u64 (xr.txn : Int), .int .u64 (xr.back : Int), .int .i64 xr.page, .int .i64 xr.slot, .slice xs.Ao xs.no xs.co, .slice xs.An xs.nn xs.cn, .int .u64 (xr.next : Int)] 34))
    have HCL : Hid (∀ j u, (rcs xr xs)[j]? = some u → (W.alloc (.cells #[.int .u64 (xr.lsn : Int), .int .i64 xr.kind, .int .u64 (xr.txn : Int), .int .u64 (xr.back : Int), .int .i64 xr.page, .int .i64 xr.slot, .slice xs.Ao xs.no xs.co, .slice xs.An xs.nn xs.cn, .int .u64 (xr.next : Int)] 34)).cell? ((⟨W.heap.size, 0, none⟩ : Addr).add j) = some u) := (show ∀ j u, _ → _ from fun j u hu => by
      rw [Addr.add_lit, Nat.zero_add]
      exact ((Row.new W 34 (rcs xr xs)).cell j).trans hu)
    have HSA : Hid (B ≤ (W.alloc (.cells #[.int .u64 (xr.lsn : Int), .int .i64 xr.kind, .int .u64 (xr.txn : Int), .int .u64 (xr.back : Int), .int .i64 xr.page, .int .i64 xr.slot, .slice xs.Ao xs.no xs.co, .slice xs.An xs.nn xs.cn, .int .u64 (xr.next : Int)] 34)).heap.size) := Nat.le_trans HSZ.out hwa.size
    have HWA := Lib.hid hwa
    have hc6 : W.cell? ⟨R6, 0, none⟩ = some (.slice Av ys.length cv) := HV1.out.cell 0
    have hIN : (Try.prog.info? 34).map (·.size) = some ([.int .u64 (xr.lsn : Int), .int .i64 xr.kind, .int .u64 (xr.txn : Int), .int .u64 (xr.back : Int), .int .i64 xr.page, .int .i64 xr.slot, .slice xs.Ao xs.no xs.co, .slice xs.An xs.nn xs.cn, .int .u64 (xr.next : Int)] : List Value).length := rec_info
    have HINF := Lib.hid hIN
    have HRA : Hid (W.rangeAt P7 0 [.int .u64 (xr.lsn : Int), .int .i64 xr.kind, .int .u64 (xr.txn : Int), .int .u64 (xr.back : Int), .int .i64 xr.page, .int .i64 xr.slot, .slice xs.Ao xs.no xs.co, .slice xs.An xs.nn xs.cn, .int .u64 (xr.next : Int)]) := Row.all HROW.out
    have HSR : Hid (iR.size = (rcs zeroR zeroS).length) := hsR
    have HLE : Hid (([.int .u64 (xr.lsn : Int), .int .i64 xr.kind, .int .u64 (xr.txn : Int), .int .u64 (xr.back : Int), .int .i64 xr.page, .int .i64 xr.slot, .slice xs.Ao xs.no xs.co, .slice xs.An xs.nn xs.cn, .int .u64 (xr.next : Int)] : List Value).length = (rcs zeroR zeroS).length) := (rfl : _ = _)
    have HPO : Hid (0 < (rcs zeroR zeroS).length) := (show _ < _ by decide)
    have HTH : Hid ((rcs zeroR zeroS).length ≤ 1000) := (show _ ≤ _ by decide)
    clear hv1 hv2 hv3 hwa hIN HREC HROW
    gi_wp2_with (first
      | (with_reducible refine wpListIn_load_mid (op := ⟨some 35, _, _, _, _, _⟩) ?_ 34 (.tmp 7) ?_ P7 0 ?_ [.int .u64 (xr.lsn : Int), .int .i64 xr.kind, .int .u64 (xr.txn : Int), .int .u64 (xr.back : Int), .int .i64 xr.page, .int .i64 xr.slot, .slice xs.Ao xs.no xs.co, .slice xs.An xs.nn xs.cn, .int .u64 (xr.next : Int)] _ HRA.out Try.underlying34 ?_ HINF.out ?_)
      | (with_reducible refine wpListIn_build1 (o := ⟨some 36, _, _, _, _, _⟩) ?_ 22 34 (.tmp 35) ?_ [.int .u64 (xr.lsn : Int), .int .i64 xr.kind, .int .u64 (xr.txn : Int), .int .u64 (xr.back : Int), .int .i64 xr.page, .int .i64 xr.slot, .slice xs.Ao xs.no xs.co, .slice xs.An xs.nn xs.cn, .int .u64 (xr.next : Int)] (rcs zeroR zeroS) iR ?_ Try.underlying22 hiR hzR HSR.out HLE.out HPO.out HTH.out ?_)
      | ((with_reducible refine wpListIn_append_rec (o := ⟨some 37, _, _, _, _, _⟩) ?_ (.tmp 34) (.tmp 36) ?_ B (.slice Av ys.length cv) ys ?_ HV2.out ⟨W.heap.size, 0, none⟩ 1 xr xs ?_ HCL.out HR10.out HYL.out HSA.out ?_); rotate_left 4; intro v11 w11 hp11 hg11 hb11; obtain ⟨A11, c11, rfl, -, -, -, -⟩ := hp11.rl; have HV11 := Lib.hid (HV10.out.grown hg11 (fun e => by have := (World.ownsRow.lt HV2.out.own R6 e.symm).1; have := HLG.out; omega)); have hc11 : w11.cell? ⟨R6, 0, none⟩ = some (.slice Av ys.length cv) := HV11.out.cell 0; have hf11 := HV11.out.frozen 0))
    all_goals try (first | rfl | (simp [Act.eval, go_sem]; done))
    have hlg := HLG.out
    have hown : ∀ j, (Value.slice Av ys.length cv).ownBlock = some j → B ≤ j := fun j e => (World.ownsRow.lt HV2.out.own j e).1
    rw [show (ys ++ [(xr, xs)]).length = ys.length + 1 by simp] at hp11
    obtain ⟨v11, hv11e⟩ : ∃ v11, v11 = Value.slice A11 (ys.length + 1) c11 := ⟨_, rfl⟩
    rw [← hv11e] at hp11 ⊢
    have hg12 := grownBy_setCell' w11 R6 v11
    have hd11 : D0 w g R4 w11 := HD10.out.grown hg11 (fun q e => by have := hown q e; omega)
    have hv11 : Row (w11.setCell ⟨R6, 0, none⟩ v11) R6 22 [v11] := HV11.out.store 0 v11
    refine ⟨⟨Nat.le_trans HWA.out.size (Nat.le_trans hg11.size hg12.size), fun k ob hk ho hc => ?_⟩, rfl, fun k hk => ?_, hd11.grown hg12 (fun q e => by have := Option.some.inj e; omega), ⟨v11, _, hv11, hp11.far_row HV11.out (by simp) hg12 (by omega), by rw [List.map_append, List.map_append, HV3.out]; rfl⟩, Nat.le_trans HSA.out (Nat.le_trans hg11.size hg12.size)⟩
    · have h1 := (HWA.out.block k (Array.getElem?_eq_some_iff.1 ho).1).trans ho
      have hne : some k ≠ (Value.slice Av ys.length cv).ownBlock := fun e => by
        rcases own_not HV2.out.own h1 hc with h0 | h0
        · rw [h0] at e; cases e
        · exact h0 e.symm
      have h2 := (hg11.block k (Array.getElem?_eq_some_iff.1 h1).1 hne).trans h1
      exact (hg12.block k (Array.getElem?_eq_some_iff.1 h2).1 (fun e => by have := Option.some.inj e; omega)).trans h2
    · have hkB : k < B ∧ k ≠ R6 := by omega
      have hkW : k < W.heap.size := Nat.lt_of_lt_of_le hkB.1 HSZ.out
      have h1 := HWA.out.block k hkW
      have h2 := hg11.block k (Nat.lt_of_lt_of_le hkW HWA.out.size) (fun e => by have := hown k e.symm; omega)
      have h3 := hg12.block k (Nat.lt_of_lt_of_le hkW (Nat.le_trans HWA.out.size hg11.size)) (fun e => by have := Option.some.inj e; omega)
      exact h3.trans (h2.trans h1)
  case stop =>
    rintro D pre W W' hD - ⟨E, h1, h2, h3, h4⟩ hg hdf
    have HX := Lib.hid (show _ ∧ _ ∧ _ ∧ _ ∧ _ from ⟨h1, h2, h3, h4, hdf⟩)
    clear h1 h2 h3 h4 hdf hg HBr HBn HR7 HRD7 H7
    refine wpIn_wide.2 ?_
    go_wp2
    obtain ⟨h1, he2, he3, heb, hdf⟩ := HX.out
    refine ⟨by simp, .inl ⟨_, _, rfl, run_takeDeferred hdf, ?_⟩⟩
    have he2' := row_put (ob' := .deferred none) he2 hdf rfl
    have he3' := row_put (ob' := .deferred none) he3 hdf rfl
    have hgp := grownBy_putObj' W' D (.deferred none)
    exact ⟨.tuple #[.slice none 0 0, .int .i64 E], res_cells2 rfl _ _ ⟨w.heap.size, 0, none⟩ ⟨w.heap.size + 1, 0, none⟩ _ _ rfl rfl (load_slice he2' rfl) (load_errno he3'), _, [], by rw [h1], Rs.nil _ _, by rw [h1]; rfl, heb.grown hgp heb.size (fun k e => by have := Option.some.inj e; have := HLG.out; omega)⟩
  case done =>
    rintro D xs W W' hD ⟨hxl, p, hr, hrd⟩ ⟨hd, ⟨v, ys, h1, h2, h3⟩, hs⟩ hg hdf
    have hlg := HLG.out
    have HD1 := Lib.hid hd
    have HV := Lib.hid h1
    have HYS := Lib.hid h2
    have HYE := Lib.hid h3
    have HDF := Lib.hid hdf
    have HRR := Lib.hid hr
    have HRD := Lib.hid (hrd.keep (w' := W') (fun k hk => hg.block k (by have := hrd.lt; omega) (fun e => by have := Option.some.inj e; omega)))
    have HYL : Hid (ys.length = m) := (show _ = _ by have := congrArg List.length h3; rw [List.length_map, List.length_map, hxl] at this; exact this)
    have HDB : Hid (w.heap.size + 1 < D ∧ D ≠ R6 ∧ B ≤ D) := (show _ ∧ _ ∧ _ by omega)
    have HPL : Hid (p ≤ n) := (show _ ≤ _ by have := Rdr.le HRD.out; rw [HL.out] at this; exact this)
    clear hd h1 h2 h3 hdf hr hrd hxl hg hs HBr HBn HR7 HRD7 H7 hlg hD
    have HDMD : Hid (DM = if p < l.length ∨ rowM (xs.map (·.2.1)) = false then (150, []) else (0, xs.map (·.2.1))) := (show _ = _ by
      rw [HDE.out]
      unfold decRowM
      rw [if_neg HN2.out, ← HM.out, if_neg h64, HRR.out, if_neg (by simp)])
    have HLE := Lib.hid (left_any g l p n 0 W' HRD.out HL.out)
    have hc4 : W'.cell? ⟨R4, 0, none⟩ = some (.pointer (some ⟨g, 0, none⟩)) := HD1.out.r4.cell 0
    go_wp2_with fail
    refine HLE.out.mono ?_
    rintro e W2 ⟨rfl, hst⟩
    have hb2 : Below W'.heap.size W' W2 := below_still (Below.refl _ _) hst
    have HD2 := Lib.hid (HD1.out.below hb2)
    have HV2 := Lib.hid (HV.out.below hb2 HV.out.lt)
    have HYS2 := Lib.hid (HYS.out.below hb2)
    have HDF2 : Hid (W2.heap[D]? = some (.deferred (some []))) := (show _ = _ from (hb2.block D (Array.getElem?_eq_some_iff.1 HDF.out).1).trans HDF.out)
    clear hb2 hst HLE HD1 HV HYS HDF HRD hc4
    by_cases hpn : p < n
    case pos =>
      have hgt : (0 : Int) < (n : Int) - (p : Int) := by omega
      have HDM : Hid (DM = (150, [])) := (show _ = _ by rw [HDMD.out, if_pos (.inl (by rw [HL.out]; exact hpn))])
      have hf2 := HD2.out.r2.frozen 0
      have hd2 : W2.cell? ⟨w.heap.size, 0, none⟩ = some (.slice none 0 0) := HD2.out.r2.cell 0
      have hd3 : W2.cell? ⟨w.heap.size + 1, 0, none⟩ = some (.int .i64 0) := HD2.out.r3.cell 0
      have hf3 := HD2.out.r3.frozen 0
      go_wp2
      obtain ⟨he2, he3, heb⟩ := HD2.out.ends (.slice none 0 0) (150)
      have hlg := HLG.out
      have hdb := HDB.out
      have hdf : ((W2.setCell ⟨w.heap.size, 0, none⟩ (.slice none 0 0)).setCell ⟨w.heap.size + 1, 0, none⟩ (.int .i64 (150))).heap[D]? = some (.deferred (some [])) :=
        (Below.heap_setCell _ _ _ D (fun e => by have e2 : D = w.heap.size + 1 := e; omega)).trans ((Below.heap_setCell _ _ _ D (fun e => by have e2 : D = w.heap.size := e; omega)).trans HDF2.out)
      generalize (W2.setCell ⟨w.heap.size, 0, none⟩ (.slice none 0 0)).setCell ⟨w.heap.size + 1, 0, none⟩ (.int .i64 (150)) = wz at he2 he3 heb hdf ⊢
      refine ⟨by simp, .inl ⟨_, _, rfl, run_takeDeferred hdf, ?_⟩⟩
      have he2' := row_put (ob' := .deferred none) he2 hdf rfl
      have he3' := row_put (ob' := .deferred none) he3 hdf rfl
      have hgp := grownBy_putObj' wz D (.deferred none)
      exact ⟨.tuple #[.slice none 0 0, .int .i64 (150)], res_cells2 rfl _ _ ⟨w.heap.size, 0, none⟩ ⟨w.heap.size + 1, 0, none⟩ _ _ rfl rfl (load_slice he2' rfl) (load_errno he3'), _, [], by rw [HDM.out], Rs.nil _ _, by rw [HDM.out]; rfl, heb.grown hgp heb.size (fun k e => by have := Option.some.inj e; omega)⟩
    have hgt : ¬ (0 : Int) < (n : Int) - (p : Int) := by omega
    obtain ⟨Av, cv, rfl, -, -, -, hrl⟩ := HYS2.out.rl
    have HRM := Lib.hid (rowMayBe_any Av ys.length cv ys W2 rfl (by have := HYL.out; omega) hrl (fun y hy => rdE_u4 HRR.out y.1 (by rw [← HYE.out]; exact List.mem_map_of_mem hy)))
    rw [HYE.out] at HRM
    have hc6 : W2.cell? ⟨R6, 0, none⟩ = some (.slice Av ys.length cv) := HV2.out.cell 0
    clear hrl
    go_wp2_with fail
    refine HRM.out.mono ?_
    rintro e W3 ⟨rfl, hb3⟩
    have HD3 := Lib.hid (HD2.out.below hb3)
    have HV3 := Lib.hid (HV2.out.below hb3 HV2.out.lt)
    have HYS3 := Lib.hid (HYS2.out.below hb3)
    have HDF3 : Hid (W3.heap[D]? = some (.deferred (some []))) := (show _ = _ from (hb3.block D (Array.getElem?_eq_some_iff.1 HDF2.out).1).trans HDF2.out)
    clear hb3 HRM HD2 HV2 HYS2 HDF2 hc6
    have hf2 := HD3.out.r2.frozen 0
    have hd2 : W3.cell? ⟨w.heap.size, 0, none⟩ = some (.slice none 0 0) := HD3.out.r2.cell 0
    have hd3 : W3.cell? ⟨w.heap.size + 1, 0, none⟩ = some (.int .i64 0) := HD3.out.r3.cell 0
    have hf3 := HD3.out.r3.frozen 0
    have hc6 : W3.cell? ⟨R6, 0, none⟩ = some (.slice Av ys.length cv) := HV3.out.cell 0
    generalize hRM : rowM (xs.map (·.2.1)) = RB at HDMD ⊢
    clear hRM
    cases RB
    · have HDM : Hid (DM = (150, [])) := (show _ = _ by rw [HDMD.out, if_pos (.inr rfl)])
      go_wp2
      obtain ⟨he2, he3, heb⟩ := HD3.out.ends (.slice none 0 0) (150)
      have hlg := HLG.out
      have hdb := HDB.out
      have hdf : ((W3.setCell ⟨w.heap.size, 0, none⟩ (.slice none 0 0)).setCell ⟨w.heap.size + 1, 0, none⟩ (.int .i64 (150))).heap[D]? = some (.deferred (some [])) :=
        (Below.heap_setCell _ _ _ D (fun e => by have e2 : D = w.heap.size + 1 := e; omega)).trans ((Below.heap_setCell _ _ _ D (fun e => by have e2 : D = w.heap.size := e; omega)).trans HDF3.out)
      generalize (W3.setCell ⟨w.heap.size, 0, none⟩ (.slice none 0 0)).setCell ⟨w.heap.size + 1, 0, none⟩ (.int .i64 (150)) = wz at he2 he3 heb hdf ⊢
      refine ⟨by simp, .inl ⟨_, _, rfl, run_takeDeferred hdf, ?_⟩⟩
      have he2' := row_put (ob' := .deferred none) he2 hdf rfl
      have he3' := row_put (ob' := .deferred none) he3 hdf rfl
      have hgp := grownBy_putObj' wz D (.deferred none)
      exact ⟨.tuple #[.slice none 0 0, .int .i64 (150)], res_cells2 rfl _ _ ⟨w.heap.size, 0, none⟩ ⟨w.heap.size + 1, 0, none⟩ _ _ rfl rfl (load_slice he2' rfl) (load_errno he3'), _, [], by rw [HDM.out], Rs.nil _ _, by rw [HDM.out]; rfl, heb.grown hgp heb.size (fun k e => by have := Option.some.inj e; omega)⟩
    · have HDM : Hid (DM = (0, xs.map (·.2.1))) := (show _ = _ by rw [HDMD.out, if_neg (by rw [HL.out]; simp; omega)])
      go_wp2
      obtain ⟨he2, he3, heb⟩ := HD3.out.ends (.slice Av ys.length cv) 0
      have hlg := HLG.out
      have hdb := HDB.out
      have hys : Rs ((W3.setCell ⟨w.heap.size, 0, none⟩ (.slice Av ys.length cv)).setCell ⟨w.heap.size + 1, 0, none⟩ (.int .i64 0)) B (.slice Av ys.length cv) ys :=
        (HYS3.out.far_row HD3.out.r2 (by simp) (grownBy_setCell' W3 w.heap.size _) (by omega)).far_row (HD3.out.r3.far (by simp) _) (by simp) (grownBy_setCell' _ (w.heap.size + 1) _) (by omega)
      have hdf : ((W3.setCell ⟨w.heap.size, 0, none⟩ (.slice Av ys.length cv)).setCell ⟨w.heap.size + 1, 0, none⟩ (.int .i64 0)).heap[D]? = some (.deferred (some [])) :=
        (Below.heap_setCell _ _ _ D (fun e => by have e2 : D = w.heap.size + 1 := e; omega)).trans ((Below.heap_setCell _ _ _ D (fun e => by have e2 : D = w.heap.size := e; omega)).trans HDF3.out)
      generalize (W3.setCell ⟨w.heap.size, 0, none⟩ (.slice Av ys.length cv)).setCell ⟨w.heap.size + 1, 0, none⟩ (.int .i64 0) = wz at he2 he3 heb hys hdf ⊢
      refine ⟨by simp, .inl ⟨_, _, rfl, run_takeDeferred hdf, ?_⟩⟩
      have he2' := row_put (ob' := .deferred none) he2 hdf rfl
      have he3' := row_put (ob' := .deferred none) he3 hdf rfl
      have hgp := grownBy_putObj' wz D (.deferred none)
      exact ⟨.tuple #[.slice Av ys.length cv, .int .i64 0], res_cells2 rfl _ _ ⟨w.heap.size, 0, none⟩ ⟨w.heap.size + 1, 0, none⟩ _ _ rfl rfl (load_slice he2' rfl) (load_errno he3'), _, ys, by rw [HDM.out], (hys.put hdf rfl).mono (by omega), by rw [HDM.out]; exact HYE.out, heb.grown hgp heb.size (fun k e => by have := Option.some.inj e; omega)⟩
end Go.Proofs.Ytnljhopikjkflaa.Rec
