/-
  Heap: Items.
-/
import Derived.Test.YtnojkoefdigcnaaHp5
import Derived.Test.YtnojkoefdigcnaaAppP
import Derived.Great.BuildSlice
import Derived.Deep.SlicePairs
import Derived.Test.YtnojkoefdigcnaaRecW
import Derived.LoopTactic
import Derived.Deep.RegionHeld
import Derived.Deep.Cut
import Derived.WalkLawsBesides
namespace Go.Proofs.Ytnojkoefdigcnaa.Hp
set_option maxRecDepth 100000
open Go.RowKit Go.Shelf Go.Proofs.Ytnojkoefdigcnaa.Dsk Go.Proofs.Ytnojkoefdigcnaa.Pg Go.Proofs.Ytnojkoefdigcnaa.Rec Go.Proofs.Ytnojkoefdigcnaa.Wd Go.Proofs.Ytnojkoefdigcnaa.Wi Go.Proofs.Ytnojkoefdigcnaa.Ky Go.Proofs.Ytnojkoefdigcnaa.Oct Go.Proofs.Ytnojkoefdigcnaa.Rec Go.Proofs.Ytnojkoefdigcnaa.Lift

attribute [local go_sem] Oper.semAt_some

section
variable {W W' : World} {base n size : Nat} {t : TypeId} {v : Value} {xs : List Value}
theorem ownS_kept (h : W.ownsRow base t size v n xs) (hk : ∀ k, v.ownBlock = some k → W'.heap[k]? = W.heap[k]?) : W'.ownsRow base t size v n xs := by
  refine ⟨h.1, ?_⟩
  rcases h.2 with h0 | ⟨g, cap, cur, rfl, hb, hg, rest⟩
  · exact .inl h0
  · exact .inr ⟨g, cap, cur, rfl, hb, (hk g rfl).trans hg, rest⟩
theorem ownS_lower {base' : Nat} (h : W.ownsRow base t size v n xs) (hb : base' ≤ base) : W.ownsRow base' t size v n xs := by
  refine ⟨h.1, ?_⟩
  rcases h.2 with h0 | ⟨g, cap, cur, rfl, hb', rest⟩
  · exact .inl h0
  · exact .inr ⟨g, cap, cur, rfl, Nat.le_trans hb hb', rest⟩
theorem ownS_type {k : Nat} (h : W.ownsRow base t size v n xs) (hk : v.ownBlock = some k) : (∃ cs, Row W k t cs) ∧ base ≤ k ∧ k < W.heap.size := by
  rcases h.2 with ⟨hv, _⟩ | ⟨g', cap, cur, hv, hb, hg', _⟩
  · rw [hv] at hk; cases hk
  · rw [hv] at hk
    cases hk
    exact ⟨⟨cur.toList, by show _ = _; simpa using hg'⟩, hb, (Array.getElem?_eq_some_iff.1 hg').1⟩
theorem ownS_not (h : W.ownsRow base t size v n xs) {k : Nat} {ob : Obj} (hl : W.heap[k]? = some ob) (hc : ob.isCells = false) : v.ownBlock ≠ some k := fun e => by
  obtain ⟨⟨cs, hr⟩, -, -⟩ := ownS_type h e
  rw [show W.heap[k]? = _ from hr] at hl
  cases hl
  cases hc
theorem ownS_put (h : W.ownsRow base t size v n xs) {k : Nat} {ob ob' : Obj} (hl : W.heap[k]? = some ob) (hc : ob.isCells = false) : (W.putObj k ob').ownsRow base t size v n xs :=
  ownS_kept h fun g hg => World.putObj_heap_other fun he => ownS_not h hl hc (by rw [hg, he])
theorem ownS_below (h : W.ownsRow base t size v n xs) (hb : Below W.heap.size W W') : W'.ownsRow base t size v n xs := ownS_kept h fun k hk => hb.block k (ownS_type h hk).2.2
theorem rowS_type {k : Nat} {t t' : TypeId} {cs cs' : List Value} (h : Row W k t cs) (h' : Row W k t' cs') : t = t' := by
  have := (show W.heap[k]? = _ from h).symm.trans h'
  injection this with this
  injection this
theorem rowS_put {b : Nat} {cs : List Value} (h : Row W b t cs) {k : Nat} {ob ob' : Obj} (hl : W.heap[k]? = some ob) (hc : ob.isCells = false) : Row (W.putObj k ob') b t cs := by
  refine (World.putObj_heap_other fun e => ?_).trans h
  rw [← e, show W.heap[b]? = _ from h] at hl
  cases hl
  cases hc
theorem ownS_slice (h : W.ownsRow base t size v n xs) : ∃ A c, v = .slice A n c ∧ (A = none → c = 0) ∧ c ≤ maxLen ∧ n ≤ c := by
  rcases h.2 with ⟨hv, h0⟩ | ⟨g', cap, cur, hv, _, _, h1, h2, _⟩
  · subst h0; exact ⟨none, 0, hv, fun _ => rfl, Nat.zero_le _, Nat.le_refl _⟩
  · exact ⟨_, cap, hv, (fun e => by cases e), h2, h1⟩
end
theorem res_cells2 {P : Program} {fn : Func} {p q : Tmp} {t1 t2 : TypeId} (h : fn.results = #[.cell p t1, .cell q t2]) (tmps : Array Value) (w : World) (a b : Addr) (v u : Value) (hp : tmps.getD p undef = .pointer (some a)) (hq : tmps.getD q undef = .pointer (some b))
    (hl : (loadVar t1 a).run P w = .ok v w) (hm : (loadVar t2 b).run P w = .ok u w) : (results fn tmps).run P w = .ok (.tuple #[v, u]) w := by
  simp only [results, h]
  simp only [Array.getD_eq_getD_getElem?] at *
  simp [Sem.run_bind, Result.andThen]
  rw [hp, hq, show (asAddr (.pointer (some a))).run P w = .ok a w from rfl]
  simp only []
  simp only [hl, show (asAddr (.pointer (some b))).run P w = .ok b w from rfl, hm]
theorem load_sl {W : World} {b : Nat} {v : Value} (h : Row W b 55 [v]) (hv : v.oneCell' = true) : (loadVar 55 ⟨b, 0, none⟩).run Try.prog W = .ok v W := by
  have hc : W.cell? ⟨b, 0, none⟩ = some v := h.cell 0
  go_simp
theorem load_er {W : World} {b : Nat} {E : Int} (h : Row W b 32 [.int .i64 E]) : (loadVar 32 ⟨b, 0, none⟩).run Try.prog W = .ok (.int .i64 E) W := by
  have hc : W.cell? ⟨b, 0, none⟩ = some (.int .i64 E) := h.cell 0
  go_simp
/-- a row of items of one's own -/
abbrev OwnI (W : World) (base : Nat) (v : Value) (L : List EH) : Prop := W.ownsRow base 64 10 v L.length (L.flatMap EH.cells)
theorem cells_len (L : List EH) : (L.flatMap EH.cells).length = L.length * 10 := by
  induction L with
  | nil => rfl
  | cons x L ih => rw [List.flatMap_cons, List.length_append, ih, List.length_cons, show x.cells.length = 10 from rfl]; omega
theorem ehcells_one (x : EH) : ∀ u ∈ x.cells, u.oneCell' = true := by
  intro u hu
  simp only [EH.cells, Tu.cells, List.mem_cons, List.not_mem_nil, or_false] at hu
  rcases hu with rfl | rfl | rfl | rfl | rfl | rfl | rfl | rfl | rfl | rfl <;> rfl
theorem info_st : (Try.prog.info? 64).map (fun i => (i.zero, i.size, i.bytes)) = some (some (.agg (EH.cells ⟨0, 0, zT, 0⟩).toArray), 10, 80) := by kernel_rfl
theorem info_parts3 {P : Program} {t : TypeId} {z : Value} {a b : Nat} (h : (P.info? t).map (fun i => (i.zero, i.size, i.bytes)) = some (some z, a, b)) : ∃ i, P.info? t = some i ∧ i.zero = some z ∧ i.size = a ∧ i.bytes = b := by
  cases hi : P.info? t with
  | none => rw [hi] at h; cases h
  | some i =>
    rw [hi] at h
    simp only [Option.map_some, Option.some.injEq, Prod.mk.injEq] at h
    exact ⟨i, rfl, h.1, h.2.1, h.2.2⟩
theorem wp_append_st {w : World} {o : Oper} {a : Act} {K : Act → World → Prop} {Q : Exit → Act → World → Prop} (s x : Operand)
    (ho : o.op = .call { callee := .builtin .append, args := #[s, x], argTypes := #[55, 55] })
    (base : Nat) (v : Value) (L : List EH) (hs : a.eval s = v) (h : OwnI w base v L) (ad : Addr) (c : Nat) (y : EH) (hx : a.eval x = .slice (some ad) 1 c) (hcs : ∀ j u, y.cells[j]? = some u → w.cell? (ad.add j) = some u)
    (hn : L.length ≤ 100000) (hbase : base ≤ w.heap.size)
    (hK : ∀ v' w', OwnI w' base v' (L ++ [y]) → w.grownBy w' v.ownBlock → K (a.put o.dst v') w') : o.wp Try.prog a w K Q := by
  obtain ⟨i, hi, hz, hz1, hz2⟩ := info_parts3 info_st
  refine wp_append_p (fun _ => True) s x 55 ho base 64 i _ 10 80 Try.underlying55 hi hz hz1 hz2 rfl (by omega) v L.length (L.flatMap EH.cells) hs h ad 1 c y.cells hx rfl hcs (ehcells_one y) (by unfold maxLen; omega) (by omega) hbase (by omega) (fun _ _ => trivial) (fun _ _ => trivial) ?_ ?_
  · intro g e
    obtain ⟨⟨cs, hr⟩, -, -⟩ := ownS_type h e
    exact ⟨cs.toArray, _, hr, fun _ _ => trivial⟩
  · intro v' w' h2 h3 h4 h5
    refine hK v' w' ?_ h3
    show w'.ownsRow base 64 10 v' (L ++ [y]).length ((L ++ [y]).flatMap EH.cells)
    rw [List.length_append, List.flatMap_append]
    simpa using h2
theorem wpListIn_append_st {w : World} {l n : Nat} {ops : Array Oper} {rest : List Oper} {o : Oper} {a : Act} {Q : Exit → Act → World → Prop} (hgd : o.guard = none) (s x : Operand)
    (ho : o.op = .call { callee := .builtin .append, args := #[s, x], argTypes := #[55, 55] })
    (base : Nat) (v : Value) (L : List EH) (hs : a.eval s = v) (h : OwnI w base v L) (ad : Addr) (c : Nat) (y : EH) (hx : a.eval x = .slice (some ad) 1 c) (hcs : ∀ j u, y.cells[j]? = some u → w.cell? (ad.add j) = some u)
    (hn : L.length ≤ 100000) (hbase : base ≤ w.heap.size)
    (hK : ∀ v' w', OwnI w' base v' (L ++ [y]) → w.grownBy w' v.ownBlock → wpListIn (Fence.wide.inRound l) n Try.prog ops Q rest (a.put o.dst v') w') : wpListIn (Fence.wide.inRound l) n Try.prog ops Q (o :: rest) a w :=
  wpListIn_plain hgd fun K hK' => op_in2 (fun c e => by rw [ho] at e; cases e) (wp_append_st s x ho base v L hs h ad c y hx hcs hn hbase fun v' w' h1 h2 => hK' _ _ (hK v' w' h1 h2))
theorem wpListIn_build1 {P : Program} {l n : Nat} {ops : Array Oper} {rest : List Oper} {o : Oper} {a : Act} {w : World} {Q : Exit → Act → World → Prop} (hgd : o.guard = none) (t e : TypeId) (x : Operand) (ho : o.op = .buildSlice t 1 #[(0, x)])
    (vs zs : List Value) (ie : TypeInfo) (hx : a.eval x = .agg vs.toArray) (hu : P.underlying t = some (.slice e)) (hie : P.info? e = some ie) (hz : ie.zero = some (.agg zs.toArray)) (hs : ie.size = zs.length) (hl : vs.length = zs.length) (hpos : 0 < zs.length) (hn : zs.length ≤ 1000)
    (h : wpListIn (Fence.wide.inRound l) n P ops Q rest (a.put o.dst (.slice (some ⟨w.heap.size, 0, none⟩) 1 1)) (w.alloc (.cells vs.toArray e))) : wpListIn (Fence.wide.inRound l) n P ops Q (o :: rest) a w :=
  wpListIn_plain hgd fun _ hK => op_in2 (fun c e => by rw [ho] at e; cases e) (wp_buildOne t e x ho vs zs ie hx hu hie hz hs hl hpos hn (hK _ _ h))
theorem elE_err (p : PM) (k : Nat) : ∀ x ∈ elE p k, x.e = 0 ∨ x.e = 200 := by
  intro x hx
  unfold elE at hx
  split at hx
  · cases hx
  · split at hx <;> (simp only [List.mem_cons, List.not_mem_nil, or_false] at hx; subst hx; simp)
theorem pageE_err (p : PM) : ∀ k, ∀ x ∈ pageE p k, x.e = 0 ∨ x.e = 200
  | 0, x, hx => by cases hx
  | k + 1, x, hx => by
    rcases List.mem_append.1 hx with h | h
    · exact pageE_err p k x h
    · exact elE_err p k x h
theorem allE_err {l : List PM} {x : EH} (hx : x ∈ allE l) : x.e = 0 ∨ x.e = 200 := by
  obtain ⟨p, _, h⟩ := List.mem_flatMap.1 hx
  exact pageE_err p 4 x h
theorem elE_len (p : PM) (k : Nat) : (elE p k).length ≤ 1 := by
  unfold elE
  split
  · simp
  · split <;> simp
theorem pageE_len (p : PM) : ∀ k, (pageE p k).length ≤ k
  | 0 => Nat.le_refl _
  | k + 1 => by
    have h1 := pageE_len p k
    have h2 := elE_len p k
    simp only [pageE, List.length_append]
    omega
theorem allE_len : ∀ l : List PM, (allE l).length ≤ 4 * l.length
  | [] => Nat.le_refl _
  | p :: l => by
    have h1 := pageE_len p 4
    have h2 := allE_len l
    unfold allE at *
    rw [List.flatMap_cons, List.length_append, List.length_cons]
    omega
theorem itE_bad {l : List PM} {x : EH} (hm : mayM l = true) (hx : x ∈ allE l) (he : x.e ≠ 0) : itE l = 200 := by
  unfold itE
  rw [if_pos hm, if_neg]
  intro h
  have := List.all_eq_true.1 h x hx
  simp at this
  exact he this
theorem itE_ok {l : List PM} (hm : mayM l = true) (h : ∀ x ∈ allE l, x.e = 0) : itE l = 0 := by
  unfold itE
  rw [if_pos hm, if_pos]
  exact List.all_eq_true.2 fun x hx => by simp [h x hx]
/-- what Items answers -/
def ItR (w : World) (l : List PM) (e : Ending) (w' : World) : Prop := ∃ A c, e = .returned (.tuple #[.slice A (itL l).length c, .int .i64 (itE l)]) ∧ OwnI w' w.heap.size (.slice A (itL l).length c) (itL l) ∧ Below w.heap.size w w'
/-- Items' variables -/
structure I0 (w : World) (W : World) : Prop where
  r2 : Row W w.heap.size 55 [.slice none 0 0]
  r3 : Row W (w.heap.size + 1) 32 [.int .i64 0]
  hb : Below w.heap.size w W
theorem I0.grown {w W W' : World} {r : Option Nat} (h : I0 w W) (hg : W.grownBy W' r) (hr : ∀ q, r = some q → w.heap.size + 1 < q) : I0 w W' :=
  ⟨h.r2.grown hg (fun e => by have := hr _ e.symm; omega), h.r3.grown hg (fun e => by have := hr _ e.symm; omega), h.hb.grown hg h.hb.size (fun k hk => by have := hr _ hk; omega)⟩
theorem I0.below {w W W' : World} (h : I0 w W) (hb : Below W.heap.size W W') : I0 w W' :=
  h.grown (r := none) ⟨hb.os, hb.tape, hb.output, hb.size, fun k hk _ => hb.block k hk⟩ (fun q e => by cases e)
theorem I0.ends {w W : World} (h : I0 w W) (v : Value) (E : Int) : Row ((W.setCell ⟨w.heap.size, 0, none⟩ v).setCell ⟨w.heap.size + 1, 0, none⟩ (.int .i64 E)) w.heap.size 55 [v] ∧ Row ((W.setCell ⟨w.heap.size, 0, none⟩ v).setCell ⟨w.heap.size + 1, 0, none⟩ (.int .i64 E)) (w.heap.size + 1) 32 [.int .i64 E] ∧
    Below w.heap.size w ((W.setCell ⟨w.heap.size, 0, none⟩ v).setCell ⟨w.heap.size + 1, 0, none⟩ (.int .i64 E)) :=
  ⟨(h.r2.store 0 v).far (by simp) _, (h.r3.far (by simp) v).store 0 _, (h.hb.setCell (p := ⟨w.heap.size, 0, none⟩) (Nat.le_refl _) _).setCell (p := ⟨w.heap.size + 1, 0, none⟩) (by simp) _⟩
/-- what the rounds hold -/
structure TI (w : World) (R4 B : Nat) (pre : List EH) (W : World) : Prop where
  d : I0 w W
  v : ∃ A c, Row W R4 55 [.slice A pre.length c] ∧ OwnI W B (.slice A pre.length c) pre
  ok : ∀ x ∈ pre, x.e = 0
  sz : B ≤ W.heap.size
/-- what a return out of a round leaves -/
def TX (w : World) (l : List PM) (_ : List EH) (W : World) : Prop := itE l = 200 ∧ Row W w.heap.size 55 [.slice none 0 0] ∧ Row W (w.heap.size + 1) 32 [.int .i64 200] ∧ Below w.heap.size w W

def TAx (L : List EH) (B : Nat) (tm : Value → Value → Value → Value → Array Value) (pre : List EH) (x : EH) (a' : Act) (W : World) : Prop :=
  ∃ P5, a' = { tmps := tm (.pointer (some ⟨P5, 0, none⟩)) (.int .i64 x.e) (.agg x.cells.toArray) (.int .i64 x.e), defers := [] } ∧ Row W P5 64 x.cells ∧ B ≤ P5 ∧ x ∈ L ∧ pre.length < L.length
set_option maxHeartbeats 8000000 in
theorem items_any (l : List PX) (A : Option Addr) (n c : Nat) (w : World) (hn : l.length = n) (hm : n ≤ 10000) (hP : Pgs w w.heap.size A l) (hsl : ∀ x ∈ l, ∀ k, k < 4 → x.s.n k ≤ 140737488355328) :
    Calls Try.prog 20 #[.slice A n c] w (ItR w (l.map pmOf)) := by
  obtain ⟨iR, hiR, hzR, hsR, hbR⟩ := info_parts3 info_st
  have HN := Lib.hid hn
  have HP := Lib.hid hP
  have HSL := Lib.hid hsl
  have HML : Hid ((l.map pmOf).length = n) := Lib.hid (by rw [List.length_map, hn])
  clear hn hP hsl
  obtain ⟨ms, hms⟩ : ∃ ms, ms = l.map pmOf := ⟨_, rfl⟩
  have HMS := Lib.hid hms
  rw [← hms] at HML ⊢
  clear hms
  unfold ItR
  refine (callsIn_wide (n := 9)).1 ?_
  refine callsIn_of_wp_marks Try.func20 rfl trivial ?_ rfl
  refine wpIn_wide.2 ?_
  simp only [Try.ntmps20, List.size_toArray, List.length_cons, List.length_nil, Nat.reduceAdd, Nat.reduceSub, Array.replicate_succ, Array.replicate_zero, List.push_toArray, List.append_toArray, List.nil_append, List.cons_append]
  go_upto_region 1 with fail
  have H2 : Hid (I0 w ((w.alloc (.cells #[.slice none 0 0] 55)).alloc (.cells #[.int .i64 0] 32))) := Lib.hid ⟨(Row.new w _ _).alloc _, row_last _ _ _ _ (by simp), ((Below.refl _ _).alloc (Nat.le_refl _) _).alloc (by simp) _⟩
  have HSZ2 : Hid (((w.alloc (.cells #[.slice none 0 0] 55)).alloc (.cells #[.int .i64 0] 32)).heap.size = w.heap.size + 2) := Lib.hid (by simp)
  generalize (w.alloc (.cells #[.slice none 0 0] 55)).alloc (.cells #[.int .i64 0] 32) = w2 at H2 HSZ2 ⊢
  have HMB := Lib.hid (mayBe_any l A n c w2 HN.out (by omega) ((HP.out.below H2.out.hb).more H2.out.hb.size))
  rw [← HMS.out] at HMB
  go_wp2_with fail
  refine HMB.out.mono ?_
  rintro e w3 ⟨rfl, hb3⟩
  have H3 := Lib.hid (H2.out.below hb3)
  have HSZ3 : Hid (w.heap.size + 2 ≤ w3.heap.size) := Lib.hid (by have := hb3.size; rw [HSZ2.out] at this; exact this)
  clear hb3 H2 HSZ2 HMB
  by_cases hmay : mayM ms = true
  case neg =>
    have hmay' : mayM ms = false := by simpa using hmay
    rw [hmay']
    have HE : Hid (itE ms = 160 ∧ itL ms = []) := Lib.hid (by
      have h1 : itE ms = 160 := by unfold itE; rw [if_neg hmay]
      exact ⟨h1, by unfold itL; rw [h1]; rfl⟩)
    have hd2 : w3.cell? ⟨w.heap.size, 0, none⟩ = some (.slice none 0 0) := H3.out.r2.cell 0
    have hf2 := H3.out.r2.frozen 0
    have hd3 : w3.cell? ⟨w.heap.size + 1, 0, none⟩ = some (.int .i64 0) := H3.out.r3.cell 0
    have hf3 := H3.out.r3.frozen 0
    clear hmay hmay'
    go_wp2_with fail
    obtain ⟨he2, he3, heb⟩ := H3.out.ends (.slice none 0 0) 160
    generalize (w3.setCell ⟨w.heap.size, 0, none⟩ (.slice none 0 0)).setCell ⟨w.heap.size + 1, 0, none⟩ (.int .i64 160) = wz at he2 he3 heb ⊢
    refine ⟨.tuple #[.slice none 0 0, .int .i64 160], res_cells2 rfl _ _ ⟨w.heap.size, 0, none⟩ ⟨w.heap.size + 1, 0, none⟩ _ _ rfl rfl (load_sl he2 rfl) (load_er he3), none, 0, ?_, ?_, heb⟩
    · rw [HE.out.1, HE.out.2]; rfl
    · rw [HE.out.2]; exact ⟨rfl, .inl ⟨rfl, rfl⟩⟩
  rw [hmay]
  have HMAY := Lib.hid hmay
  clear hmay
  go_upto_region 4 with fail
  have hwa : Below w3.heap.size w3 (w3.alloc (.cells #[.slice none 0 0] 55)) := (Below.refl _ _).alloc (Nat.le_refl _) _
  have H6 := Lib.hid (H3.out.below hwa)
  have HR6 : Hid (Row (w3.alloc (.cells #[.slice none 0 0] 55)) w3.heap.size 55 [.slice none 0 0]) := Lib.hid (Row.new w3 _ _)
  generalize w3.alloc (.cells #[.slice none 0 0] 55) = w6 at H6 HR6 hwa ⊢
  generalize w3.heap.size = R4 at HR6 HSZ3 hwa ⊢
  clear hwa H3
  go_wp2_with fail
  refine (items_fn A n c w6).mono ?_
  rintro e w7 ⟨rfl, hb7, hr7⟩
  have H7 := Lib.hid (H6.out.below hb7)
  have HR7 := Lib.hid (HR6.out.below hb7 HR6.out.lt)
  have HRF := Lib.hid hr7
  have HS67 : Hid (R4 < w6.heap.size) := Lib.hid HR6.out.lt
  generalize w6.heap.size = Bf at HS67 HRF hb7 ⊢
  clear hr7 hb7 H6 HR6
  go_wp2_with fail
  refine (wpIn_wide (n := 9)).1 ?_
  obtain ⟨B, hB⟩ : ∃ B, B = w7.heap.size := ⟨_, rfl⟩
  have HLG : Hid (w.heap.size + 1 < R4 ∧ R4 < Bf ∧ Bf < B) := Lib.hid ⟨by have := HSZ3.out; omega, HS67.out, by rw [hB]; exact HRF.out.lt⟩
  have HB7 := Lib.hid hB
  refine range_feeds (n := 9) (by omega) (gf := 56) (lb := #[.pointer (some ⟨Bf, 0, none⟩)]) rfl (enters_of Try.func56 (by kernel_rfl) rfl)
    (encs := encE) (G := GH) (T := TE (allE ms)) (Ok := fun _ => True) (Kp := KpH w.heap.size Bf) (S := SE (allE ms)) (Sp := fun _ _ => True) ?feeds (fun h k => h.trans k) ?hKb (fun _ => rfl)
    (TI w R4 B) (TX w ms) ?hG ?hIa ?hI ?hIx ?hIp ?hIxp ?h0 (TAx (allE ms) B (fun p5 p6 p12 p13 => #[.slice A n c, undef, .pointer (some ⟨w.heap.size, 0, none⟩), .pointer (some ⟨w.heap.size + 1, 0, none⟩), .pointer (some ⟨R4, 0, none⟩), p5, p6, .slice A n c, .bool true, .bool false, .slice A n c, .func (.func 56) #[] #[.pointer (some ⟨Bf, 0, none⟩)], p12, p13, undef, undef, undef, undef, undef, undef, undef, undef])) ?hAx ?assign ?body ?done ?stop
  case feeds =>
    rw [HMS.out]
    refine items_feeds Bf 8 c w.heap.size A l w7 (by omega) (by rw [HN.out]; omega) ⟨?_, HP.out.below H7.out.hb, H7.out.hb.size, HRF.out.lt⟩ HSL.out
    rw [HN.out]
    exact HRF.out.cell 0
  case hKb =>
    intro W k o o' hk hl hc
    refine ⟨fun j hj => World.putObj_heap_other ?_, (grownBy_putObj' W k o').size⟩
    have := HLG.out
    have := HB7.out
    rcases hj with hj | hj | ⟨cs, hj⟩
    · have := H7.out.hb.size; omega
    · omega
    · intro e
      subst e
      rw [show W.heap[_]? = _ from hj] at hl
      cases hl
      cases hc
  case hG =>
    rintro A' B' k o hg hk ho hc
    exact (hg.block k (Array.getElem?_eq_some_iff.1 ho).1).trans ho
  case hIa =>
    rintro pre W o ⟨hd, ⟨A', c', h1, h2⟩, h3, hs⟩
    have hb : Below W.heap.size W (W.alloc o) := (Below.refl _ _).alloc (Nat.le_refl _) _
    exact ⟨hd.below hb, ⟨A', c', h1.alloc _, ownS_below h2 hb⟩, h3, Nat.le_trans hs hb.size⟩
  case hI =>
    rintro pre A' B' ⟨hd, ⟨A1, c1, h1, h2⟩, h3, hs⟩ hb
    exact ⟨hd.below hb, ⟨A1, c1, h1.below hb h1.lt, ownS_below h2 hb⟩, h3, Nat.le_trans hs hb.size⟩
  case hIx =>
    rintro pre A' B' ⟨h1, h2, h3, h4⟩ hb
    exact ⟨h1, h2.below hb h2.lt, h3.below hb h3.lt, h4.trans (hb.mono h4.size)⟩
  case hIp =>
    rintro pre W k o o' hk hl hc ⟨hd, ⟨A1, c1, h1, h2⟩, h3, hs⟩
    have hg := grownBy_putObj' W k o'
    have := HLG.out
    have := HB7.out
    exact ⟨hd.grown hg (fun q e => by have := Option.some.inj e; omega), ⟨A1, c1, rowS_put h1 hl hc, ownS_put h2 hl hc⟩, h3, Nat.le_trans hs hg.size⟩
  case hIxp =>
    rintro pre W k o o' hk hl hc ⟨h1, h2, h3, h4⟩
    have := HLG.out
    have := HB7.out
    exact ⟨h1, rowS_put h2 hl hc, rowS_put h3 hl hc, h4.grown (grownBy_putObj' W k o') h4.size (fun q e => by have := Option.some.inj e; omega)⟩
  case h0 => exact ⟨H7.out, ⟨none, 0, HR7.out, ⟨rfl, .inl ⟨rfl, rfl⟩⟩⟩, (fun x hx => by cases hx), by rw [hB]; exact Nat.le_refl _⟩
  case hAx =>
    rintro pre x a' _ W k o o' hk hl hc ⟨P5, e, h1, h2, h3, h4⟩
    exact ⟨P5, e, rowS_put h1 hl hc, h2, h3, h4⟩
  case assign =>
    intro yl pre x W K ht hI hK
    obtain ⟨x1, x2, ⟨r_, a_, b_, x0, x1', y0, y1, v⟩, xe⟩ := x
    have HT := Lib.hid ht
    have HI := Lib.hid hI
    have HK := Lib.hid hK
    clear ht hI hK
    unfold encE EH.cells Tu.cells
    gi_wp2
    have hb : Below W.heap.size W (W.alloc (.cells (EH.cells ⟨x1, x2, ⟨r_, a_, b_, x0, x1', y0, y1, v⟩, xe⟩).toArray 64)) := (Below.refl _ _).alloc (Nat.le_refl _) _
    refine HK.out _ _ (KeepsFrom.of_grownBy (World.grownBy_alloc W _ none) (fun j e => by cases e)) (KpH.below hb (Nat.le_trans H7.out.hb.size (Nat.le_trans (Nat.le_of_eq HB7.out.symm) HI.out.sz)) (Nat.lt_of_lt_of_le HLG.out.2.2 HI.out.sz)) ?_ ⟨W.heap.size, rfl, Row.new W _ _, HI.out.sz, List.mem_of_getElem? HT.out.at_, (List.getElem?_eq_some_iff.1 HT.out.at_).1⟩
    obtain ⟨hd, ⟨A1, c1, h1, h2⟩, h3, hs⟩ := HI.out
    exact ⟨hd.below hb, ⟨A1, c1, h1.alloc _, ownS_below h2 hb⟩, h3, Nat.le_trans hs hb.size⟩
  case body =>
    rintro yl pre ⟨x1, x2, ⟨r_, a_, b_, x0, x1', y0, y1, v⟩, xe⟩ a' W hyl ⟨r, hr⟩ hI ⟨P5, rfl, hrow, hP5, hmem, hlt⟩
    have HI := Lib.hid hI
    have HROW := Lib.hid hrow
    have HP5 := Lib.hid hP5
    have HMEM := Lib.hid hmem
    have HLT := Lib.hid hlt
    clear hI hrow hP5 hr hmem hlt HR7 H7 HRF
    unfold EH.cells Tu.cells at HROW ⊢
    dsimp only at HROW ⊢
    by_cases hx : xe = 0
    case neg =>
      have hx2 : xe = 200 := (allE_err HMEM.out).resolve_left hx
      subst hx2
      have HDM : Hid (itE ms = 200) := Lib.hid (itE_bad HMAY.out HMEM.out (by simp))
      have hd2 : W.cell? ⟨w.heap.size, 0, none⟩ = some (.slice none 0 0) := HI.out.d.r2.cell 0
      have hf2 := HI.out.d.r2.frozen 0
      have hd3 : W.cell? ⟨w.heap.size + 1, 0, none⟩ = some (.int .i64 0) := HI.out.d.r3.cell 0
      have hf3 := HI.out.d.r3.frozen 0
      clear hx
      gi_wp2
      obtain ⟨he2, he3, heb⟩ := HI.out.d.ends (.slice none 0 0) 200
      have hlg := HLG.out
      exact ⟨(KeepsFrom.of_grownBy (grownBy_setCell' W w.heap.size _) (fun j e => by cases e; have := HB7.out; omega)).trans (KeepsFrom.of_grownBy (grownBy_setCell' _ (w.heap.size + 1) _) (fun j e => by cases e; have := HB7.out; omega)), HDM.out, he2, he3, heb⟩
    subst hx
    obtain ⟨Av, cv, hv1, hv2⟩ := HI.out.v
    have HV1 := Lib.hid hv1
    have hwa : Below W.heap.size W (W.alloc (.cells [.int .i64 x1, .int .i64 (x2 : Int), .int .u32 (r_ : Int), .int .u64 (a_ : Int), .int .u64 (b_ : Int), .int .i64 x0, .int .i64 x1', .int .i64 y0, .int .i64 y1, .int .i64 v].toArray 64)) := (Below.refl _ _).alloc (Nat.le_refl _) _
    have HV2 := Lib.hid (ownS_below hv2 hwa)
    have HV0 := Lib.hid hv2
    have HD := Lib.hid HI.out.d
    have HSZ := Lib.hid HI.out.sz
    have HV10 := Lib.hid (HV1.out.alloc (.cells [.int .i64 x1, .int .i64 (x2 : Int), .int .u32 (r_ : Int), .int .u64 (a_ : Int), .int .u64 (b_ : Int), .int .i64 x0, .int .i64 x1', .int .i64 y0, .int .i64 y1, .int .i64 v].toArray 64))
    have HCL : Hid (∀ j u, (EH.cells ⟨x1, x2, ⟨r_, a_, b_, x0, x1', y0, y1, v⟩, 0⟩)[j]? = some u → (W.alloc (.cells [.int .i64 x1, .int .i64 (x2 : Int), .int .u32 (r_ : Int), .int .u64 (a_ : Int), .int .u64 (b_ : Int), .int .i64 x0, .int .i64 x1', .int .i64 y0, .int .i64 y1, .int .i64 v].toArray 64)).cell? ((⟨W.heap.size, 0, none⟩ : Addr).add j) = some u) := Lib.hid (fun j u hu => by
      rw [Addr.add_lit, Nat.zero_add]
      exact ((Row.new W 64 [.int .i64 x1, .int .i64 (x2 : Int), .int .u32 (r_ : Int), .int .u64 (a_ : Int), .int .u64 (b_ : Int), .int .i64 x0, .int .i64 x1', .int .i64 y0, .int .i64 y1, .int .i64 v]).cell j).trans hu)
    have HYL : Hid (pre.length ≤ 100000) := Lib.hid (by have h1 := HLT.out; have h2 := allE_len ms; rw [HML.out] at h2; omega)
    have HSA : Hid (B ≤ (W.alloc (.cells [.int .i64 x1, .int .i64 (x2 : Int), .int .u32 (r_ : Int), .int .u64 (a_ : Int), .int .u64 (b_ : Int), .int .i64 x0, .int .i64 x1', .int .i64 y0, .int .i64 y1, .int .i64 v].toArray 64)).heap.size) := Lib.hid (Nat.le_trans HSZ.out hwa.size)
    have HWA := Lib.hid hwa
    have hc4 : W.cell? ⟨R4, 0, none⟩ = some (.slice Av pre.length cv) := HV1.out.cell 0
    have HINF : Hid ((Try.prog.info? 64).map (·.size) = some ([.int .i64 x1, .int .i64 (x2 : Int), .int .u32 (r_ : Int), .int .u64 (a_ : Int), .int .u64 (b_ : Int), .int .i64 x0, .int .i64 x1', .int .i64 y0, .int .i64 y1, .int .i64 v] : List Value).length) := Lib.hid (by rw [hiR]; show some iR.size = _; rw [hsR]; rfl)
    have HRA : Hid (W.rangeAt P5 0 [.int .i64 x1, .int .i64 (x2 : Int), .int .u32 (r_ : Int), .int .u64 (a_ : Int), .int .u64 (b_ : Int), .int .i64 x0, .int .i64 x1', .int .i64 y0, .int .i64 y1, .int .i64 v]) := Lib.hid (Row.all HROW.out)
    have HSR : Hid (iR.size = (EH.cells ⟨0, 0, zT, 0⟩).length) := Lib.hid hsR
    have HLE : Hid (([.int .i64 x1, .int .i64 (x2 : Int), .int .u32 (r_ : Int), .int .u64 (a_ : Int), .int .u64 (b_ : Int), .int .i64 x0, .int .i64 x1', .int .i64 y0, .int .i64 y1, .int .i64 v] : List Value).length = (EH.cells ⟨0, 0, zT, 0⟩).length) := Lib.hid rfl
    have HPO : Hid (0 < (EH.cells ⟨0, 0, zT, 0⟩).length) := Lib.hid (by decide)
    have HTH : Hid ((EH.cells ⟨0, 0, zT, 0⟩).length ≤ 1000) := Lib.hid (by decide)
    have HZR := Lib.hid hzR
    have HIR := Lib.hid hiR
    clear hv1 hv2 hwa HROW hzR hiR
    gi_wp2_with (first
      | (with_reducible refine wpListIn_load_mid (op := ⟨some 18, _, _, _, _, _⟩) ?_ 64 (.tmp 5) ?_ P5 0 ?_ [.int .i64 x1, .int .i64 (x2 : Int), .int .u32 (r_ : Int), .int .u64 (a_ : Int), .int .u64 (b_ : Int), .int .i64 x0, .int .i64 x1', .int .i64 y0, .int .i64 y1, .int .i64 v] _ HRA.out Try.underlying64 ?_ HINF.out ?_)
      | (with_reducible refine wpListIn_build1 (o := ⟨some 19, _, _, _, _, _⟩) ?_ 55 64 (.tmp 18) ?_ [.int .i64 x1, .int .i64 (x2 : Int), .int .u32 (r_ : Int), .int .u64 (a_ : Int), .int .u64 (b_ : Int), .int .i64 x0, .int .i64 x1', .int .i64 y0, .int .i64 y1, .int .i64 v] (EH.cells ⟨0, 0, zT, 0⟩) iR ?_ Try.underlying55 HIR.out HZR.out HSR.out HLE.out HPO.out HTH.out ?_)
      | ((with_reducible refine wpListIn_append_st (o := ⟨some 20, _, _, _, _, _⟩) ?_ (.tmp 17) (.tmp 19) ?_ B (.slice Av pre.length cv) pre ?_ HV2.out ⟨W.heap.size, 0, none⟩ 1 ⟨x1, x2, ⟨r_, a_, b_, x0, x1', y0, y1, v⟩, 0⟩ ?_ HCL.out HYL.out HSA.out ?_); rotate_left 4; intro v11 w11 hp11 hg11; obtain ⟨A11, c11, rfl, -, -, -⟩ := ownS_slice hp11; have HV11 := Lib.hid (HV10.out.grown hg11 (fun e => by have := (ownS_type HV2.out e.symm).2.1; have := HLG.out; omega)); have hc11 : w11.cell? ⟨R4, 0, none⟩ = some (.slice Av pre.length cv) := HV11.out.cell 0; have hf11 := HV11.out.frozen 0))
    all_goals try (first | rfl | (simp [Act.eval, go_sem]; done))
    have hlg := HLG.out
    have hb7 := HB7.out
    have hown : ∀ j, (Value.slice Av pre.length cv).ownBlock = some j → B ≤ j ∧ ∃ cs, Row W j 64 cs := fun j e => ⟨(ownS_type HV0.out e).2.1, (ownS_type HV0.out e).1⟩
    rw [show (pre ++ [(⟨x1, x2, ⟨r_, a_, b_, x0, x1', y0, y1, v⟩, 0⟩ : EH)]).length = pre.length + 1 by simp] at hp11
    obtain ⟨v11, hv11e⟩ : ∃ v11, v11 = Value.slice A11 (pre.length + 1) c11 := ⟨_, rfl⟩
    have hp12 : OwnI w11 B v11 (pre ++ [⟨x1, x2, ⟨r_, a_, b_, x0, x1', y0, y1, v⟩, 0⟩]) := by rw [hv11e]; exact hp11
    rw [← hv11e]
    have hg12 := grownBy_setCell' w11 R4 v11
    have hd11 : I0 w w11 := (HD.out.below HWA.out).grown hg11 (fun q e => by have := (hown q e).1; omega)
    have hv11 : Row (w11.setCell ⟨R4, 0, none⟩ v11) R4 55 [v11] := HV11.out.store 0 v11
    have hblk : ∀ k, k < W.heap.size → k ≠ R4 → (Value.slice Av pre.length cv).ownBlock ≠ some k → (w11.setCell ⟨R4, 0, none⟩ v11).heap[k]? = W.heap[k]? := fun k hk h1 h2 => by
      have e1 := HWA.out.block k hk
      have e2 := hg11.block k (Nat.lt_of_lt_of_le hk HWA.out.size) (fun e => h2 e.symm)
      have e3 := hg12.block k (Nat.lt_of_lt_of_le hk (Nat.le_trans HWA.out.size hg11.size)) (fun e => h1 (Option.some.inj e))
      exact e3.trans (e2.trans e1)
    refine ⟨⟨Nat.le_trans HWA.out.size (Nat.le_trans hg11.size hg12.size), fun k ob hk ho hc => ?_⟩, trivial, ⟨fun k hk => ?_, Nat.le_trans HWA.out.size (Nat.le_trans hg11.size hg12.size)⟩, hd11.grown hg12 (fun q e => by have := Option.some.inj e; omega), ⟨A11, c11, ?_, ?_⟩, ?_, Nat.le_trans HSA.out (Nat.le_trans hg11.size hg12.size)⟩
    · exact (hblk k (Array.getElem?_eq_some_iff.1 ho).1 (by omega) (ownS_not HV0.out ho hc)).trans ho
    · rcases hk with hk | hk | ⟨cs, hk⟩
      · exact hblk k (by have := HSZ.out; omega) (by omega) (fun e => by have := (hown k e).1; omega)
      · exact hblk k (by have := HSZ.out; omega) (by omega) (fun e => by have := (hown k e).1; omega)
      · exact hblk k hk.lt (fun e => by subst e; exact absurd (rowS_type hk HV1.out) (by decide)) (fun e => by obtain ⟨cs', h'⟩ := (hown k e).2; exact absurd (rowS_type hk h') (by decide))
    · rw [List.length_append]
      show Row _ R4 55 [.slice A11 (pre.length + 1) c11]
      rw [← hv11e]
      exact hv11
    · rw [List.length_append]
      show OwnI _ B (.slice A11 (pre.length + 1) c11) _
      rw [← hv11e]
      exact ownS_kept hp12 (fun k hk => hg12.block k (ownS_type hp12 hk).2.2 (fun e => by
        have e2 := Option.some.inj e
        obtain ⟨⟨cs', h'⟩, -, -⟩ := ownS_type hp12 hk
        rw [e2] at h'
        exact absurd (rowS_type h' HV11.out) (by decide)))
    · intro x hx
      rcases List.mem_append.1 hx with hx | hx
      · exact HI.out.ok x hx
      · simp only [List.mem_cons, List.not_mem_nil, or_false] at hx
        subst hx
        rfl
  case stop =>
    rintro D pre W W' hD - ⟨h1, h2, h3, h4⟩ hg hdf
    have HX := Lib.hid (show _ ∧ _ ∧ _ ∧ _ ∧ _ from ⟨h1, h2, h3, h4, hdf⟩)
    clear h1 h2 h3 h4 hdf hg HR7 H7 HRF
    refine wpIn_wide.2 ?_
    go_wp2
    obtain ⟨h1, he2, he3, heb, hdf⟩ := HX.out
    refine ⟨by simp, .inl ⟨_, _, rfl, run_takeDeferred hdf, ?_⟩⟩
    have he2' := rowS_put (ob' := .deferred none) he2 hdf rfl
    have he3' := rowS_put (ob' := .deferred none) he3 hdf rfl
    have hgp := grownBy_putObj' W' D (.deferred none)
    have hil : itL ms = [] := by unfold itL; rw [h1]; rfl
    refine ⟨.tuple #[.slice none 0 0, .int .i64 200], res_cells2 rfl _ _ ⟨w.heap.size, 0, none⟩ ⟨w.heap.size + 1, 0, none⟩ _ _ rfl rfl (load_sl he2' rfl) (load_er he3'), none, 0, ?_, ?_, heb.grown hgp heb.size (fun k e => by have := Option.some.inj e; have := HLG.out; have := HB7.out; omega)⟩
    · rw [h1, hil]; rfl
    · rw [hil]; exact ⟨rfl, .inl ⟨rfl, rfl⟩⟩
  case done =>
    rintro D xs W W' hD hS ⟨hd, ⟨A1, c1, h1, h2⟩, h3, hs⟩ hg hdf
    have hxs : xs = allE ms := hS
    subst hxs
    have HE : Hid (itE ms = 0) := Lib.hid (itE_ok HMAY.out h3)
    have HIL : Hid (itL ms = allE ms) := Lib.hid (by unfold itL; rw [HE.out, if_pos rfl])
    have HD1 := Lib.hid hd
    have HV := Lib.hid h1
    have HOW := Lib.hid h2
    have HDF := Lib.hid hdf
    have HDB : Hid (w.heap.size + 1 < D) := Lib.hid (by have := HLG.out; have := HB7.out; omega)
    clear hd h1 h2 h3 hdf hS hs hg HR7 H7 HRF hD
    obtain ⟨m, hm'⟩ : ∃ m, m = (allE ms).length := ⟨_, rfl⟩
    rw [← hm'] at HV HOW
    have HM' := Lib.hid hm'
    clear hm'
    have hc4 : W'.cell? ⟨R4, 0, none⟩ = some (.slice A1 m c1) := HV.out.cell 0
    have hd2 : W'.cell? ⟨w.heap.size, 0, none⟩ = some (.slice none 0 0) := HD1.out.r2.cell 0
    have hf2 := HD1.out.r2.frozen 0
    have hd3 : W'.cell? ⟨w.heap.size + 1, 0, none⟩ = some (.int .i64 0) := HD1.out.r3.cell 0
    have hf3 := HD1.out.r3.frozen 0
    go_wp2_with fail
    obtain ⟨he2, he3, heb⟩ := HD1.out.ends (.slice A1 m c1) 0
    have hg1 := grownBy_setCell' W' w.heap.size (.slice A1 m c1)
    have hg2 := grownBy_setCell' (W'.setCell ⟨w.heap.size, 0, none⟩ (.slice A1 m c1)) (w.heap.size + 1) (.int .i64 0)
    have hdf : ((W'.setCell ⟨w.heap.size, 0, none⟩ (.slice A1 m c1)).setCell ⟨w.heap.size + 1, 0, none⟩ (.int .i64 0)).heap[D]? = some (.deferred (some [])) := by
      have hDl := (Array.getElem?_eq_some_iff.1 HDF.out).1
      have := HDB.out
      rw [hg2.block D (Nat.lt_of_lt_of_le hDl hg1.size) (fun e => by have := Option.some.inj e; omega), hg1.block D hDl (fun e => by have := Option.some.inj e; omega)]
      exact HDF.out
    have how : ((W'.setCell ⟨w.heap.size, 0, none⟩ (.slice A1 m c1)).setCell ⟨w.heap.size + 1, 0, none⟩ (.int .i64 0)).ownsRow B 64 10 (.slice A1 m c1) m ((allE ms).flatMap EH.cells) := by
      have h0 : W'.ownsRow B 64 10 (.slice A1 m c1) m ((allE ms).flatMap EH.cells) := by have := HOW.out; unfold OwnI at this; rwa [← HM'.out] at this
      refine ownS_kept h0 (fun k hk => ?_)
      obtain ⟨-, h5, h6⟩ := ownS_type h0 hk
      have := HLG.out
      rw [hg2.block k (Nat.lt_of_lt_of_le h6 hg1.size) (fun e => by have := Option.some.inj e; omega), hg1.block k h6 (fun e => by have := Option.some.inj e; omega)]
    generalize (W'.setCell ⟨w.heap.size, 0, none⟩ (.slice A1 m c1)).setCell ⟨w.heap.size + 1, 0, none⟩ (.int .i64 0) = wz at he2 he3 heb hdf how ⊢
    refine ⟨by simp, .inl ⟨_, _, rfl, run_takeDeferred hdf, ?_⟩⟩
    have he2' := rowS_put (ob' := .deferred none) he2 hdf rfl
    have he3' := rowS_put (ob' := .deferred none) he3 hdf rfl
    have hgp := grownBy_putObj' wz D (.deferred none)
    refine ⟨.tuple #[.slice A1 m c1, .int .i64 0], res_cells2 rfl _ _ ⟨w.heap.size, 0, none⟩ ⟨w.heap.size + 1, 0, none⟩ _ _ rfl rfl (load_sl he2' rfl) (load_er he3'), A1, c1, ?_, ?_, heb.grown hgp heb.size (fun k e => by have := Option.some.inj e; have := HDB.out; omega)⟩
    · rw [HE.out, HIL.out, ← HM'.out]
    · rw [HIL.out]
      show World.ownsRow _ _ _ _ _ (allE ms).length _
      rw [← HM'.out]
      exact ownS_lower (ownS_put how hdf rfl) (by have := HLG.out; omega)
end Go.Proofs.Ytnojkoefdigcnaa.Hp
