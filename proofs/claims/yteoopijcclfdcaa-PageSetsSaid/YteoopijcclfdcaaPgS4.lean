/-
  PageSets: what is set in slots, and told of them. No condition.
-/
import Derived.Test.YteoopijcclfdcaaPgO
import Derived.Test.YteoopijcclfdcaaPgX
import Derived.Deep.Cut
import Derived.Deep.CutRange
import Derived.Great.BuildSlice
import Derived.Deep.SlicePairs
namespace Go.Proofs.Yteoopijcclfdcaa.PgSets
set_option maxRecDepth 100000
open Go.RowKit Go.Proofs.Yteoopijcclfdcaa.Wd Go.Proofs.Yteoopijcclfdcaa.Oct Go.Proofs.Yteoopijcclfdcaa.Dsk Go.Proofs.Yteoopijcclfdcaa.Rec Go.Proofs.Yteoopijcclfdcaa.Pg Go.ChangeShapes Go.WideShapes Go.ChangeAt

theorem own : ownKnob Try.prog.godebug = none := by kernel_rfl
theorem laidOut : laidOutB Try.prog = true := by kernel_rfl
theorem same_self (n : Int) (l : Nat) (f : Nat → List UInt8) : sameM n l f n l f = true := by simp [sameM, eq4]
/-- what is set -/
structure PutX where
  slot : Int
  A : Option Addr
  n : Nat
  c : Nat
  b : List UInt8
  lsn : Nat
def PutX.cells (x : PutX) : List Value := [.int .i64 x.slot, .slice x.A x.n x.c, .int .u64 (x.lsn : Int)]
structure PutOk (W : World) (x : PutX) : Prop where
  sl : Sl W W.heap.size x.A x.n x.c x.b
  most : x.c ≤ 140737488351232
theorem put_info : (Try.prog.info? 55).map (·.size) = some 3 := by kernel_rfl
theorem cells_put : Try.prog.cellsOf 55 = 3 := by kernel_rfl
theorem put_fields : ∃ f0 f1 f2 : Field, Try.prog.underlying 55 = some (.struct #[f0, f1, f2]) ∧
    (f0.type = 3 ∧ f1.type = 25 ∧ f2.type = 24) ∧ (f0.offset = 0 ∧ f1.offset = 1 ∧ f2.offset = 2) :=
  ⟨_, _, _, Try.underlying55, ⟨rfl, rfl, rfl⟩, ⟨rfl, rfl, rfl⟩⟩
section
variable {H : Type} {enc : TypeId × Value → H} {W : World}
theorem open_put {fuel : Nat} {cs : List Value} {x : DataW H × List MemPlace} (h : DataW.trod enc Try.prog W 0 (fun _ => true) true fuel 55 cs = some x) (hw : (x.1.weights Try.prog 55).all (· ≤ reachBytes) = true) :
    ∃ o : PutX, cs = o.cells ∧ PutOk W o := by
  obtain ⟨f0, f1, f2, hu, ⟨t0, t1, t2⟩, ⟨o0, o1, o2⟩⟩ := put_fields
  obtain ⟨xs, n, _, hx, hl, hlen, hf⟩ := DataW.trod_struct hu h
  rw [cells_put] at hl
  match xs, hlen, cs, hl with
  | [y0, y1, y2], _, [v0, v1, v2], _ =>
    have g0 := hf 0 f0 rfl
    have g1 := hf 1 f1 rfl
    have g2 := hf 2 f2 rfl
    simp [t0, t1, t2, o0, o1, o2, cells_int, cells_u64, cells_bs] at g0 g1 g2
    obtain ⟨a0, e0, _, w0⟩ := DataW.trod_int Try.underlying3 g0
    obtain ⟨a2, e2, _, w2⟩ := DataW.trod_int Try.underlying24 g2
    obtain ⟨A1, n1, c1, l1, e1, s1, b1⟩ := open_bs g1 (by
      rw [List.all_eq_true] at hw ⊢
      intro z hz'
      refine hw z ?_
      rw [hx]
      have := DataW.weights_mem_each (P := Try.prog) (ts := (#[f0, f1, f2] : Array Field).toList.map (·.type)) (ds := [y0.1, y1.1, y2.1]) (j := 1) (t := 25) (d := y1.1) (by simp [t1]) rfl z hz'
      simp only [DataW.weights, hu]
      simpa using this)
    simp at e0 e1 e2
    have u1 : 0 ≤ a2 ∧ a2 ≤ 18446744073709551615 := by simpa [Lit.wf, IntKind.min, IntKind.max, IntKind.signed, IntKind.bits] using w2
    obtain ⟨p2, rfl⟩ := Int.eq_ofNat_of_zero_le u1.1
    exact ⟨⟨a0, A1, n1, c1, l1, p2⟩, by simp [PutX.cells, e0, e1, e2], ⟨s1, b1⟩⟩
theorem open_puts {v : Value} {d : DataW H} {ps : List MemPlace} {base : Nat} (hval : Value.okWide Try.prog W .any base 53 v) (h : DataW.Trod enc Try.prog W 0 (fun _ => true) true 53 v d ps) (hw : (d.weights Try.prog 53).all (· ≤ reachBytes) = true) :
    ∃ A n c os, v = .slice A n c ∧ os.length = n ∧ n ≤ c ∧ (A = none → c = 0) ∧ c ≤ maxLen ∧ Lift.Many PutX.cells 3 W W.heap.size A os ∧ ∀ o ∈ os, PutOk W o :=
  Lift.open_many PutX.cells (PutOk W) 3 (by omega) (fun _ => rfl) Try.underlying53 cells_put (fun h1 h2 => open_put h1 h2) hval h hw
end
theorem free_eq {W W' : World} {B B' : Nat} {num : Int} {f : Nat → List UInt8} {s s' : PS} (h : PgAt W B f s) (h' : PgAt W' B' f s') : freeN (okN num s.n) s.n = freeN (okN num s'.n) s'.n := by
  unfold freeN okN
  simp only [← h.lens 0 (by omega), ← h.lens 1 (by omega), ← h.lens 2 (by omega), ← h.lens 3 (by omega), ← h'.lens 0 (by omega), ← h'.lens 1 (by omega), ← h'.lens 2 (by omega), ← h'.lens 3 (by omega)]
/-- the page, between the rounds -/
structure PI (w : World) (num : Int) (lsn : Nat) (f : Nat → List UInt8) (s : PS) (W : World) : Prop where
  rp : Row W w.heap.size 28 (pcs num lsn s)
  pp : PgAt W W.heap.size f s
  le : ∀ k, k < 4 → (f k).length ≤ 53
  hb : Below w.heap.size w W
/-- the page, what is set, the page as it was -/
structure S7 (w : World) (Z P6 P7 : Nat) (num : Int) (lsn : Nat) (f : Nat → List UInt8) (s : PS) (x : PutX) (s7 : PS) (W : World) : Prop where
  rp : Row W w.heap.size 28 (pcs num lsn s)
  rx : Row W P6 55 x.cells
  r7 : Row W P7 28 (pcs num lsn s7)
  pp : PgAt W Z f s
  p7 : PgAt W Z f s7
  hb : Below w.heap.size w W
  lt : w.heap.size < Z ∧ P6 < Z ∧ P7 < Z
  le : Z ≤ W.heap.size
theorem S7.then {w W W' : World} {Z P6 P7 : Nat} {num : Int} {lsn : Nat} {f : Nat → List UInt8} {s : PS} {x : PutX} {s7 : PS} (h : S7 w Z P6 P7 num lsn f s x s7 W) (hb : Below Z W W') : S7 w Z P6 P7 num lsn f s x s7 W' :=
  ⟨h.rp.below hb h.lt.1, h.rx.below hb h.lt.2.1, h.r7.below hb h.lt.2.2, h.pp.below hb, h.p7.below hb, h.hb.trans (hb.mono (by have := h.lt; omega)), h.lt, Nat.le_trans h.le hb.size⟩
theorem short_same {f : Nat → List UInt8} (h : ∀ k, k < 4 → (f k).length ≤ 53) (k : Nat) (hk : k < 4) : shortS f k = f k := List.take_of_length_le (h k hk)
theorem PgAt.congr {W : World} {B : Nat} {f g : Nat → List UInt8} {s : PS} (h : PgAt W B f s) (e : ∀ k, k < 4 → f k = g k) : PgAt W B g s := fun k hk => by rw [← e k hk]; exact h k hk
theorem PO.congr {W : World} {B : Nat} {f g : Nat → List UInt8} {s : PS} (h : PO W B f s) (e : ∀ k, k < 4 → f k = g k) : PO W B g s := fun k hk => by rw [← e k hk]; exact h k hk
theorem lens53 {W : World} {B : Nat} {f : Nat → List UInt8} {s : PS} (h : PgAt W B f s) (hl : ∀ k, k < 4 → (f k).length ≤ 53) : ∀ k, k < 4 → s.n k ≤ 100000 := fun k hk => by
  rw [← h.lens k hk]
  have := hl k hk
  omega
/-- bytes of one's own, some -/
def Some_ (w : World) (Z U : Nat) (A : Option Addr) (n c : Nat) : Prop := (∃ l', l'.length = n ∧ Own w Z (.slice A n c) l') ∧ ∀ k, (Value.slice A n c).ownBlock = some k → k < U
theorem Some_.set {w : World} {Z U : Nat} {A : Option Addr} {n c : Nat} (h : Some_ w Z U A n c) (g i y : Nat) (hy : y < 256) : Some_ (w.setCell ⟨g, i, none⟩ (.int .u8 (y : Int))) Z U A n c := by
  obtain ⟨⟨l', hl, ho⟩, hk⟩ := h
  obtain ⟨l2, h2, ho2⟩ := own_set ho g i y hy
  exact ⟨⟨l2, by rw [h2, hl], ho2⟩, hk⟩

/-- all that the round has made -/
structure TS (w : World) (Z U P6 P7 P9 P15 : Nat) (num : Int) (lsn : Nat) (f : Nat → List UInt8) (s : PS) (x : PutX) (s7 : PS) (dn : Int) (dl : Nat) (dsl : Nat → List UInt8) (s9 sw : PS) (Ab : Option Addr) (nb cb : Nat) (bb : List UInt8) (Ag : Option Addr) (ng cg : Nat) (L : List UInt8) (As : Option Addr) (ns cs : Nat) (W : World) : Prop where
  s7 : S7 w Z P6 P7 num lsn f s x s7 W
  ob : Own W Z (.slice Ab nb cb) bb
  os : OS W Z U s9
  og : Own W Z (.slice Ag ng cg) L
  r9 : Row W P9 28 (pcs dn dl s9)
  r15 : Row W P15 28 (pcs dn dl sw)
  ow : PO W U dsl sw
  us : U ≤ W.heap.size
  sl : Sl W Z As ns cs L
section
variable {w : World} {Z U P6 P7 P9 P15 : Nat} {num : Int} {lsn : Nat} {f : Nat → List UInt8} {s : PS} {x : PutX} {s7 : PS} {dn : Int} {dl : Nat} {dsl : Nat → List UInt8} {s9 sw : PS} {Ab : Option Addr} {nb cb : Nat} {bb : List UInt8} {Ag : Option Addr} {ng cg : Nat} {L : List UInt8} {As : Option Addr} {ns cs : Nat} {W W' : World}
theorem TS.then (h : TS w Z U P6 P7 P9 P15 num lsn f s x s7 dn dl dsl s9 sw Ab nb cb bb Ag ng cg L As ns cs W) (hb : Below W.heap.size W W') : TS w Z U P6 P7 P9 P15 num lsn f s x s7 dn dl dsl s9 sw Ab nb cb bb Ag ng cg L As ns cs W' :=
  ⟨h.s7.then (hb.mono h.s7.le), h.ob.below hb, h.os.out (Out.of (lo := U) (hi := U) hb) (.inl (Nat.le_refl _)), h.og.below hb, h.r9.below hb h.r9.lt, h.r15.below hb h.r15.lt, h.ow.below hb, Nat.le_trans h.us hb.size, h.sl.below (hb.mono h.s7.le)⟩
theorem TS.glen (h : TS w Z U P6 P7 P9 P15 num lsn f s x s7 dn dl dsl s9 sw Ab nb cb bb Ag ng cg L As ns cs W) : L.length = ng ∧ Bs W W.heap.size Ag L := by
  obtain ⟨A', n', c', e, q⟩ := h.og.sl
  cases e
  exact ⟨q.len, q.bs⟩
theorem TS.blen (h : TS w Z U P6 P7 P9 P15 num lsn f s x s7 dn dl dsl s9 sw Ab nb cb bb Ag ng cg L As ns cs W) : bb.length = nb := by
  obtain ⟨A', n', c', e, q⟩ := h.ob.sl
  cases e
  exact q.len
end
theorem Out.grown {w w' : World} {g : Nat} (h : w.grownBy w' (some g)) : Out g (g + 1) w w' :=
  ⟨h.os, h.tape, h.output, h.size, fun k hk ho => h.block k hk (fun e => by have := Option.some.inj e; omega)⟩

/-- what the round has made ahead of the page that is wanted -/
structure RG (w : World) (Z U P6 P7 P9 : Nat) (num : Int) (lsn : Nat) (f : Nat → List UInt8) (s : PS) (x : PutX) (s7 : PS) (dn : Int) (dl : Nat) (dsl : Nat → List UInt8) (s9 : PS) (Ab : Option Addr) (nb cb : Nat) (bb : List UInt8) (Ag : Option Addr) (ng cg : Nat) (L : List UInt8) (W : World) : Prop where
  s7 : S7 w Z P6 P7 num lsn f s x s7 W
  ob : Own W Z (.slice Ab nb cb) bb
  os : OS W Z U s9
  q : PO W Z dsl s9
  og : Own W Z (.slice Ag ng cg) L
  r9 : Row W P9 28 (pcs dn dl s9)
  us : U ≤ W.heap.size
section
variable {w : World} {Z U P6 P7 P9 P15 : Nat} {num : Int} {lsn : Nat} {f : Nat → List UInt8} {s : PS} {x : PutX} {s7 : PS} {dn : Int} {dl : Nat} {dsl : Nat → List UInt8} {s9 sw : PS} {Ab : Option Addr} {nb cb : Nat} {bb : List UInt8} {Ag : Option Addr} {ng cg : Nat} {L : List UInt8} {As : Option Addr} {ns cs : Nat} {W W' : World}
theorem RG.below (h : RG w Z U P6 P7 P9 num lsn f s x s7 dn dl dsl s9 Ab nb cb bb Ag ng cg L W) (hb : Below W.heap.size W W') : RG w Z U P6 P7 P9 num lsn f s x s7 dn dl dsl s9 Ab nb cb bb Ag ng cg L W' :=
  ⟨h.s7.then (hb.mono h.s7.le), h.ob.below hb, h.os.out (Out.of (lo := U) (hi := U) hb) (.inl (Nat.le_refl _)), h.q.below hb, h.og.below hb, h.r9.below hb h.r9.lt, Nat.le_trans h.us hb.size⟩
theorem RG.put {ws : List Value} (h : RG w Z U P6 P7 P9 num lsn f s x s7 dn dl dsl s9 Ab nb cb bb Ag ng cg L W) (hr : Row W P15 28 ws) (hg : W.grownBy W' (some P15)) (h1 : U ≤ P15) (h2 : Z ≤ U ∧ P9 < U) : RG w Z U P6 P7 P9 num lsn f s x s7 dn dl dsl s9 Ab nb cb bb Ag ng cg L W' :=
  have hot := Out.grown hg
  ⟨h.s7.then ((hot.below (Nat.le_of_lt hr.lt)).mono (by omega)), h.ob.kept hg (own_ne h.ob hr (by decide)), h.os.out hot (.inl h1), fun j hj => (h.q j hj).kept hg (own_ne (h.q j hj) hr (by decide)), h.og.kept hg (own_ne h.og hr (by decide)), Pg.Row.out h.r9 hot (.inl (by omega)), Nat.le_trans h.us hg.size⟩
theorem RG.ts (h : RG w Z U P6 P7 P9 num lsn f s x s7 dn dl dsl s9 Ab nb cb bb Ag ng cg L W) (hr : Row W P15 28 (pcs dn dl sw)) (ho : PO W U dsl sw) (hs : Sl W Z As ns cs L) : TS w Z U P6 P7 P9 P15 num lsn f s x s7 dn dl dsl s9 sw Ab nb cb bb Ag ng cg L As ns cs W :=
  ⟨h.s7, h.ob, h.os, h.og, h.r9, hr, ho, h.us, hs⟩
theorem po_put (h : PO W U f s) (hr : Row W P15 28 (pcs num lsn s)) {k : Nat} (hk : k < 4) {A : Option Addr} {n c : Nat} {l : List UInt8} (hx : Own W U (.slice A n c) l) : Row (W.setCell ⟨P15, 2 + k, none⟩ (.slice A n c)) P15 28 (pcs num lsn (s.set k A n c)) ∧ PO (W.setCell ⟨P15, 2 + k, none⟩ (.slice A n c)) U (upd f k l) (s.set k A n c) := by
  have hgr := grown_store W P15 (2 + k) (.slice A n c)
  refine ⟨?_, fun j hj => ?_⟩
  · have := hr.store (2 + k) (.slice A n c)
    rwa [pcs_set hk] at this
  · by_cases hjk : j = k
    · subst hjk
      simp only [PS.set, upd_at]
      exact hx.kept hgr (own_ne hx hr (by decide))
    · simp only [PS.set, upd_not _ _ hjk]
      exact (h j hj).kept hgr (own_ne (h j hj) hr (by decide))
theorem po_setl (h : PO W U f s) (hr : Row W P15 28 (pcs num lsn s)) (l1 : Nat) : Row (W.setCell ⟨P15, 1, none⟩ (.int .u64 (l1 : Int))) P15 28 (pcs num l1 s) ∧ PO (W.setCell ⟨P15, 1, none⟩ (.int .u64 (l1 : Int))) U f s :=
  have hgr := grown_store W P15 1 (.int .u64 (l1 : Int))
  ⟨hr.store 1 (.int .u64 (l1 : Int)), fun j hj => (h j hj).kept hgr (own_ne (h j hj) hr (by decide))⟩
end
theorem wp_append_any {P : Program} {w : World} {o : Oper} {a : Act} {K : Act → World → Prop} {Q : Exit → Act → World → Prop} (s x : Operand) (t : TypeId)
    (ho : o.op = .call { callee := .builtin .append, args := #[s, x], argTypes := #[t, t] })
    (base : Nat) (e : TypeId) (i : TypeInfo) (z : Value) (ht : P.underlying t = some (.slice e)) (hi : P.info? e = some i) (hz : i.zero = some z) (hsize : i.size = 1) (hby : i.bytes = 1) (hzs : z.cells.size = 1)
    (v : Value) (n : Nat) (xs : List Value) (hs : a.eval s = v) (hown : w.ownsRow base e 1 v n xs)
    (A : Option Addr) (m c : Nat) (l : List UInt8) (hx : a.eval x = .slice A m c) (hl : l.length = m) (B : Nat) (hr : Bs w B A l) (hA : A = none → c = 0)
    (h63 : n + m ≤ 140737488355328) (hbase : base ≤ w.heap.size)
    (h : ∀ v' w', w'.ownsRow base e 1 v' (n + m) (xs ++ bv l) → w.grownBy w' v.ownBlock → K (a.put o.dst v') w') : o.wp P a w K Q := by
  cases A with
  | none =>
    have h0 : m = 0 := by
      rcases Nat.eq_zero_or_pos m with h0 | h0
      · exact h0
      · obtain ⟨b, o, e, _⟩ := hr (by omega)
        cases e
    subst h0
    obtain rfl := hA rfl
    obtain rfl : l = [] := List.eq_nil_of_length_eq_zero hl
    have hrun := run_append_owned_none (P := P) w base t o.type e i 1 ht hi v n xs hown
    unfold Oper.wp
    simp [execOp, ho, resolve, invoke, builtin, hs, hx, hrun, Result.andThen]
    exact h v w (by simpa [bv] using hown) (World.grownBy.refl _ _)
  | some ad =>
    refine wp_append_own w s x t ho base e i z 1 1 ht hi hz hsize hby hzs (by omega) v n xs hs hown ad m c (bv l) hx (by rw [bv_length]; omega) (fun j u hu => ?_) bv_one (by unfold maxLen; omega) (by omega) hbase fun v' w' h2 h3 _ => h v' w' h2 h3
    have hj : j < l.length := by simpa [bv_length] using (List.getElem?_eq_some_iff.1 hu).1
    obtain ⟨b, o, e, _, hc⟩ := hr (by omega)
    obtain rfl := Option.some.inj e
    rw [Addr.add_lit, hc j hj, ← hu]
    simp [bv, hj]
theorem set_out {num : Int} {f : Nat → List UInt8} {slot : Int} {b : List UInt8} {l : Nat} (h : ¬ (0 ≤ slot ∧ slot < 4)) : setM num f true slot b l = badP 2 := by
  have e : setE true slot b.length = 2 := by unfold setE; rw [ask_out h, if_neg (by omega)]
  unfold setM
  rw [e, if_neg (by omega)]
theorem set_in {num : Int} {f : Nat → List UInt8} {k : Nat} {b : List UInt8} {l : Nat} (h : k < 4) : setM num f true (k : Int) b l = if 52 < b.length then badP 3 else ⟨0, num, l, upd f k b⟩ := by
  have e : setE true (k : Int) b.length = if 52 < b.length then 3 else 0 := by unfold setE; rw [ask_in (by omega), if_pos rfl]
  unfold setM
  rw [e]
  by_cases h5 : 52 < b.length
  · rw [if_pos h5, if_pos h5, if_neg (by omega)]
  · rw [if_neg h5, if_neg h5, if_pos rfl, Int.toNat_natCast]

set_option maxHeartbeats 16000000 in
theorem sets_walk (y : PX) (A : Option Addr) (n c : Nat) (os : List PutX) (w : World) (hy : PgOk w y) (hl : os.length = n) (hnc : n ≤ c) (hc : c ≤ maxLen) (hos : Lift.Many PutX.cells 3 w w.heap.size A os) (hok : ∀ o ∈ os, PutOk w o) :
    Calls Try.prog 5 #[.agg y.cells.toArray, .slice A n c] w fun e w' => e = .returned (.bool true) ∧ Below w.heap.size w w' := by
  have mixed : Try.prog.follows .mixedOrders = true := by kernel_rfl
  obtain ⟨i0, hi0, hz0, hz1, hz2⟩ := info_parts info5
  unfold maxLen at hc
  obtain ⟨num, lsn0, f0, s0⟩ := y
  have HX := Lib.hid hy
  have HL := Lib.hid hl
  have HOS := Lib.hid hos
  have HOK := Lib.hid hok
  clear hy hl hos hok
  unfold PX.cells
  dsimp only
  go_enter Try.func5, Try.ntmps5
  go_upto_region 1 with fail
  have HB := Lib.hid (boxed w num lsn0 s0)
  generalize w.alloc (.cells (pcs num lsn0 s0).toArray 28) = w1 at HB ⊢
  unfold pcs
  go_wp2_with fail
  refine (wakes_any _).mono ?_
  rintro e w2 ⟨rfl, hb2⟩
  have HB2 := Lib.hid (HB.out.then hb2)
  clear hb2 HB
  have ha0 : w2.cell? ⟨w.heap.size, 0, none⟩ = some (.int .i64 num) := HB2.out.row.cell 0
  have ha1 : w2.cell? ⟨w.heap.size, 1, none⟩ = some (.int .u64 (lsn0 : Int)) := HB2.out.row.cell 1
  have ha2 : w2.cell? ⟨w.heap.size, 2, none⟩ = some (.slice (s0.A 0) (s0.n 0) (s0.c 0)) := HB2.out.row.cell 2
  have ha3 : w2.cell? ⟨w.heap.size, 3, none⟩ = some (.slice (s0.A 1) (s0.n 1) (s0.c 1)) := HB2.out.row.cell 3
  have ha4 : w2.cell? ⟨w.heap.size, 4, none⟩ = some (.slice (s0.A 2) (s0.n 2) (s0.c 2)) := HB2.out.row.cell 4
  have ha5 : w2.cell? ⟨w.heap.size, 5, none⟩ = some (.slice (s0.A 3) (s0.n 3) (s0.c 3)) := HB2.out.row.cell 5
  have HSH := Lib.hid (short_any num lsn0 f0 s0 w.heap.size w2 (HX.out.at_.below HB2.out.hb) HB2.out.hb.size)
  unfold pcs at HSH
  go_wp2_with fail
  refine HSH.out.mono ?_
  rintro e w3 ⟨s3, rfl, hpo3, hb3⟩
  have HB3 := Lib.hid (HB2.out.then hb3)
  have HPO3 := Lib.hid hpo3
  clear hpo3 hb3 HSH HB2
  clear ha0 ha1 ha2 ha3 ha4 ha5
  have HONE : Hid (∀ v ∈ pcs num lsn0 s3, v.oneCell' = true) := pcs_one
  have HPI : Hid ((Try.prog.info? 28).map (·.size) = some (pcs num lsn0 s3).length) := page_info
  have HLE : Hid ((pcs num lsn0 s3).length = (pcs num lsn0 s0).length) := (rfl : _ = _)
  go_upto_region 4 with ((with_reducible refine wpList_store_whole (op := ⟨none, _, _, _, _, _⟩) ?_ 28 (.tmp 2) (.tmp 22) ?_ w.heap.size (pcs num lsn0 s3) ?_ ?_ 28 (pcs num lsn0 s0) HB3.out.row HLE.out HONE.out HPI.out ?_))
  all_goals try (first | rfl | (simp; done))
  intro w4 hr hg
  have HI4 : Hid (∃ lsn f s, PI w num lsn f s w4) := by
    have hpo4 : PO w4 w2.heap.size (shortS f0) s3 := fun j hj => (HPO3.out j hj).kept hg (own_ne (HPO3.out j hj) HB3.out.row (by decide))
    exact ⟨lsn0, shortS f0, s3, hr, hpo4.at_, fun k hk => by unfold shortS; rw [List.length_take]; omega, HB3.out.hb.grown hg HB3.out.hb.size (fun k hk => by have := Option.some.inj hk; omega)⟩
  clear hr hg HB3 HPO3 HX HLE HONE HPI
  go_wp2_with fail
  go_loopw [4, 25] (fun t4 t25 wr => ∃ i : Nat, i ≤ n ∧ t25 = .int .i64 (i : Int) ∧ t4 = .bool false ∧ Hid (∃ lsn f s, PI w num lsn f s wr)) (fun _ t25 _ => n - (intOf t25).toNat)
  case atStart => exact ⟨0, by omega, rfl, rfl, HI4⟩
  case round =>
    obtain ⟨i, hin, rfl, rfl, HE⟩ := hrel
    clear HI4
    obtain ⟨lsn, f, s, hpi⟩ := HE.out
    have HPIR := Lib.hid hpi
    clear hpi HE
    by_cases hlt : i < n
    case neg =>
      have h1 : ¬ (i : Int) < (n : Int) := by omega
      go_wp2
      go_ret
      exact ⟨rfl, HPIR.out.hb⟩
    obtain ⟨wo, hwo⟩ : ∃ wo : World, wo = wr := ⟨_, rfl⟩
    rw [← hwo] at HPIR ⊢
    clear hwo
    have h1 : (i : Int) < (n : Int) := by omega
    obtain ⟨x, hx⟩ : ∃ x, os[i]? = some x := ⟨_, List.getElem?_eq_getElem (by rw [HL.out]; exact hlt)⟩
    have HXO := Lib.hid (HOK.out x (List.mem_of_getElem? hx))
    obtain ⟨b, o, rfl, hblt, hcx⟩ := HOS.out (by rw [HL.out]; omega)
    have HC : Hid (wo.rangeAt b (o + i * 3) x.cells) := fun j v hj => (HPIR.out.hb.cell (p := ⟨b, o + i * 3 + j, none⟩) hblt).trans (hcx i x hx j v hj)
    clear hx hcx
    obtain ⟨slot, A1, n1, c1, b1, l1⟩ := x
    unfold PutX.cells at HC
    dsimp only at HC
    have hx0 : wo.cell? ⟨b, o + i * 3, none⟩ = some (.int .i64 slot) := HC.out 0 _ rfl
    have hx1 : wo.cell? ⟨b, o + i * 3 + 1, none⟩ = some (.slice A1 n1 c1) := HC.out 1 _ rfl
    have hx2 : wo.cell? ⟨b, o + i * 3 + 2, none⟩ = some (.int .u64 (l1 : Int)) := HC.out 2 _ rfl
    have hi3 : 0 ≤ (i : Int) := by omega
    go_upto_region 7 with fail
    have HR6 : Hid (Row (wo.alloc (.cells #[.int .i64 slot, .slice A1 n1 c1, .int .u64 (l1 : Int)] 55)) wo.heap.size 55 (PutX.cells ⟨slot, A1, n1, c1, b1, l1⟩)) := Row.new wo _ _
    have C6 : Hid (Below wo.heap.size wo (wo.alloc (.cells #[.int .i64 slot, .slice A1 n1 c1, .int .u64 (l1 : Int)] 55))) := (Below.refl _ _).alloc (Nat.le_refl _) _
    have hp6 : wo.heap.size < (wo.alloc (.cells #[.int .i64 slot, .slice A1 n1 c1, .int .u64 (l1 : Int)] 55)).heap.size := by simp
    generalize wo.alloc (.cells #[.int .i64 slot, .slice A1 n1 c1, .int .u64 (l1 : Int)] 55) = w6 at HR6 C6 hp6 ⊢
    have HP6 : Hid (PI w num lsn f s w6) := ⟨HPIR.out.rp.below C6.out HPIR.out.rp.lt, (HPIR.out.pp.below C6.out).more C6.out.size, HPIR.out.le, HPIR.out.hb.trans (C6.out.mono HPIR.out.hb.size)⟩
    clear HPIR C6 HC hx0 hx1 hx2
    generalize wo.heap.size = P6 at HR6 hp6 ⊢
    by_cases h12 : i = 12
    · have h12b : ((i : Int) == 12) = true := by simp [h12]
      clear h12
      go_wp2
      go_ret
      exact ⟨rfl, HP6.out.hb⟩
    have h12b : ((i : Int) == 12) = false := by simp; omega
    clear h12
    have ha0 : w6.cell? ⟨w.heap.size, 0, none⟩ = some (.int .i64 num) := HP6.out.rp.cell 0
    have ha1 : w6.cell? ⟨w.heap.size, 1, none⟩ = some (.int .u64 (lsn : Int)) := HP6.out.rp.cell 1
    have ha2 : w6.cell? ⟨w.heap.size, 2, none⟩ = some (.slice (s.A 0) (s.n 0) (s.c 0)) := HP6.out.rp.cell 2
    have ha3 : w6.cell? ⟨w.heap.size, 3, none⟩ = some (.slice (s.A 1) (s.n 1) (s.c 1)) := HP6.out.rp.cell 3
    have ha4 : w6.cell? ⟨w.heap.size, 4, none⟩ = some (.slice (s.A 2) (s.n 2) (s.c 2)) := HP6.out.rp.cell 4
    have ha5 : w6.cell? ⟨w.heap.size, 5, none⟩ = some (.slice (s.A 3) (s.n 3) (s.c 3)) := HP6.out.rp.cell 5
    have HSH := Lib.hid (short_any num lsn f s w6.heap.size w6 HP6.out.pp (Nat.le_refl _))
    unfold pcs at HSH
    go_wp2_with fail
    refine HSH.out.mono ?_
    rintro e w7 ⟨s7, rfl, hpo7, hb7⟩
    clear HSH
    clear ha0 ha1 ha2 ha3 ha4 ha5
    go_upto_region 9 with fail
    have HX8 := Lib.hid (boxed w7 num lsn s7)
    unfold pcs at HX8
    have HS8 : Hid (S7 w (w7.heap.size + 1) P6 w7.heap.size num lsn f s ⟨slot, A1, n1, c1, b1, l1⟩ s7 (w7.alloc (.cells #[.int .i64 num, .int .u64 (lsn : Int), .slice (s7.A 0) (s7.n 0) (s7.c 0), .slice (s7.A 1) (s7.n 1) (s7.c 1), .slice (s7.A 2) (s7.n 2) (s7.c 2), .slice (s7.A 3) (s7.n 3) (s7.c 3)] 28))) := by
      have hb8 := hb7.trans (HX8.out.hb.mono hb7.size)
      refine ⟨HP6.out.rp.below hb8 HP6.out.rp.lt, HR6.out.below hb8 hp6, HX8.out.row, (HP6.out.pp.below hb8).more (by have := hb7.size; omega), ((PO.congr hpo7 (short_same HP6.out.le)).at_.below HX8.out.hb).more (by omega), HP6.out.hb.trans (hb8.mono HP6.out.hb.size), ⟨by have := HP6.out.rp.lt; have := hb7.size; omega, by have := hb7.size; omega, by omega⟩, HX8.out.sz⟩
    have HZ8 : Hid (w7.heap.size + 1 = (w7.alloc (.cells #[.int .i64 num, .int .u64 (lsn : Int), .slice (s7.A 0) (s7.n 0) (s7.c 0), .slice (s7.A 1) (s7.n 1) (s7.c 1), .slice (s7.A 2) (s7.n 2) (s7.c 2), .slice (s7.A 3) (s7.n 3) (s7.c 3)] 28)).heap.size) := (show _ = _ by simp)
    have HF53 := Lib.hid HP6.out.le
    generalize w7.alloc (.cells #[.int .i64 num, .int .u64 (lsn : Int), .slice (s7.A 0) (s7.n 0) (s7.c 0), .slice (s7.A 1) (s7.n 1) (s7.c 1), .slice (s7.A 2) (s7.n 2) (s7.c 2), .slice (s7.A 3) (s7.n 3) (s7.c 3)] 28) = w8 at HS8 HZ8 ⊢
    clear HX8 hpo7 hb7 HP6 HR6 hp6 h12b
    generalize hP7 : w7.heap.size = P7 at HS8 HZ8 ⊢
    clear hP7
    generalize hZe : P7 + 1 = Z at HS8 HZ8
    clear hZe
    have hP6 : P6 < w8.heap.size := by have := HS8.out.lt; have := HZ8.out; omega
    have hx1 : w8.cell? ⟨P6, 1, none⟩ = some (.slice A1 n1 c1) := HS8.out.rx.cell 1
    have hn1c : n1 ≤ c1 := HXO.out.sl.cap
    have hc1m : c1 ≤ 140737488351232 := HXO.out.most
    have HSA : Hid (Sl w w.heap.size A1 n1 c1 b1) := HXO.out.sl
    obtain ⟨m, hme⟩ : ∃ m : Nat, (if 60 < (n1 : Int) then (60 : Int) else (n1 : Int)) = (m : Int) := ⟨min 60 n1, by split <;> omega⟩
    have hm1 : m = min 60 n1 := by split at hme <;> omega
    have HSB : Hid (Sl w w.heap.size A1 m c1 (b1.take 60)) := Pg.Sl.pre HSA.out 60 _ hm1
    have hm60 : m ≤ 60 := by omega
    have hmc1 : (m : Int) ≤ (c1 : Int) := by omega
    have HBL : Hid ((b1.take 60).length ≤ 60) := (show _ ≤ _ by rw [List.length_take]; omega)
    clear HXO HSA hm1
    generalize b1.take 60 = bb at HSB HBL
    have HW8 : Hid (w.heap.size ≤ w8.heap.size) := HS8.out.hb.size
    go_upto_region 10 with (first
        | (at_builtin; (refine wpList_append_bs (o := ⟨some 42, _, _, _, _, _⟩) rfl (.tmp 34) (.tmp 41) 25 rfl w8.heap.size 5 i0 (.int .u8 0) Try.underlying25 hi0 hz0 hz1 hz2 rfl (.slice (some ⟨w8.heap.size, 0, none⟩) 0 0) 0 (bv []) rfl (Own.of_row (l := []) (Row.new w8 _ _) (Nat.le_refl _) rfl (Nat.zero_le _)) A1 m c1 bb rfl HSB.out.len w.heap.size ((HSB.out.bs.below HS8.out.hb).alloc HW8.out _) HSB.out.nil (by omega) (by simp) ?_; intro v2 w9 hown2 hg2; have HG2 := Lib.hid (((Below.refl _ _).alloc (Nat.le_refl _) _).trans (below_own hg2 (fun k hk => by cases hk; exact Nat.le_refl _) (by simp))); have HO2 : Hid (Own w9 w8.heap.size v2 bb) := Lib.hid (show Own w9 w8.heap.size v2 bb from (by have hh := hown2; rw [show bv ([] : List UInt8) = [] from rfl, List.nil_append, Nat.zero_add] at hh; unfold Own; rw [HSB.out.len]; exact hh)); clear hown2 hg2)))
    rw [← HZ8.out] at HG2 HO2
    obtain ⟨Ab, nb, cb, rfl, hsb⟩ := HO2.out.sl
    have HSBB := Lib.hid hsb
    have hnb : nb ≤ 60 := by have := HBL.out; have := HSBB.out.len; omega
    have HS9 := Lib.hid (HS8.out.then HG2.out)
    have HBK : Hid (∀ k, (Value.slice Ab nb cb).ownBlock = some k → k < w9.heap.size) := fun k hk => (World.ownsRow.lt HO2.out k hk).2
    clear hsb hx1 HSB hP6 hn1c hc1m hm60 hmc1 hme HG2 HS8 HZ8 HW8
    have ha0 : w9.cell? ⟨w.heap.size, 0, none⟩ = some (.int .i64 num) := HS9.out.rp.cell 0
    have ha1 : w9.cell? ⟨w.heap.size, 1, none⟩ = some (.int .u64 (lsn : Int)) := HS9.out.rp.cell 1
    have ha2 : w9.cell? ⟨w.heap.size, 2, none⟩ = some (.slice (s.A 0) (s.n 0) (s.c 0)) := HS9.out.rp.cell 2
    have ha3 : w9.cell? ⟨w.heap.size, 3, none⟩ = some (.slice (s.A 1) (s.n 1) (s.c 1)) := HS9.out.rp.cell 3
    have ha4 : w9.cell? ⟨w.heap.size, 4, none⟩ = some (.slice (s.A 2) (s.n 2) (s.c 2)) := HS9.out.rp.cell 4
    have ha5 : w9.cell? ⟨w.heap.size, 5, none⟩ = some (.slice (s.A 3) (s.n 3) (s.c 3)) := HS9.out.rp.cell 5
    have hx0 : w9.cell? ⟨P6, 0, none⟩ = some (.int .i64 slot) := HS9.out.rx.cell 0
    have hx2 : w9.cell? ⟨P6, 2, none⟩ = some (.int .u64 (l1 : Int)) := HS9.out.rx.cell 2
    have HST := Lib.hid (set_any num lsn f s slot Ab nb cb bb l1 w9.heap.size w9 (HS9.out.pp.more HS9.out.le) (Nat.le_refl _) (lens53 HS9.out.pp HF53.out) HSBB.out)
    have HKM : Hid (okN num s.n = okM num f) := okM_eq HS9.out.pp
    have HK7 : Hid (okN num s7.n = okM num f) := okM_eq HS9.out.p7
    rw [HKM.out] at HST
    obtain ⟨K, hK⟩ : ∃ K, K = okM num f := ⟨_, rfl⟩
    rw [← hK] at HST HKM HK7
    have HKF := Lib.hid hK
    clear hK
    obtain ⟨D, hD⟩ : ∃ D, D = setM num f K slot bb l1 := ⟨_, rfl⟩
    rw [← hD] at HST
    obtain ⟨de, dn, dl, dsl⟩ := D
    have HD := Lib.hid hD
    clear hD
    unfold pcs at HST
    unfold DecP at HST
    dsimp only at HST
    go_wp2_with fail
    refine HST.out.mono ?_
    rintro e w10 ⟨s9, rfl, hpo10, hb10⟩
    have HS10 := Lib.hid (HS9.out.then (hb10.mono HS9.out.le))
    have HO10 := Lib.hid (HO2.out.below hb10)
    have HQ10 := Lib.hid (hpo10.mono HS9.out.le)
    have HBK10 : Hid (w9.heap.size ≤ w10.heap.size) := hb10.size
    clear hpo10 hb10 HST HS9 HO2 HSBB hx0 hx2
    clear ha0 ha1 ha2 ha3 ha4 ha5
    unfold pcs
    go_upto_region 11 with fail
    have HX11 := Lib.hid (boxed w10 dn dl s9)
    unfold pcs at HX11
    have HS11 := Lib.hid (HS10.out.then (HX11.out.hb.mono HS10.out.le))
    have HO11 := Lib.hid (HO10.out.below HX11.out.hb)
    have HQ11 := Lib.hid (HQ10.out.below HX11.out.hb)
    have HW11 : Hid (Z ≤ w10.heap.size ∧ w9.heap.size ≤ w10.heap.size) := ⟨HS10.out.le, HBK10.out⟩
    generalize w10.alloc (.cells #[.int .i64 dn, .int .u64 (dl : Int), .slice (s9.A 0) (s9.n 0) (s9.c 0), .slice (s9.A 1) (s9.n 1) (s9.c 1), .slice (s9.A 2) (s9.n 2) (s9.c 2), .slice (s9.A 3) (s9.n 3) (s9.c 3)] 28) = w11 at HX11 HS11 HO11 HQ11 ⊢
    have HR11 := Lib.hid HX11.out.row
    have hp9 : w10.heap.size < w11.heap.size := HX11.out.sz
    clear HX11 HS10 HO10 HQ10 HBK10
    generalize w10.heap.size = P9 at HR11 HW11 hp9 ⊢
    have ha0 : w11.cell? ⟨w.heap.size, 0, none⟩ = some (.int .i64 num) := HS11.out.rp.cell 0
    have ha1 : w11.cell? ⟨w.heap.size, 1, none⟩ = some (.int .u64 (lsn : Int)) := HS11.out.rp.cell 1
    have ha2 : w11.cell? ⟨w.heap.size, 2, none⟩ = some (.slice (s.A 0) (s.n 0) (s.c 0)) := HS11.out.rp.cell 2
    have ha3 : w11.cell? ⟨w.heap.size, 3, none⟩ = some (.slice (s.A 1) (s.n 1) (s.c 1)) := HS11.out.rp.cell 3
    have ha4 : w11.cell? ⟨w.heap.size, 4, none⟩ = some (.slice (s.A 2) (s.n 2) (s.c 2)) := HS11.out.rp.cell 4
    have ha5 : w11.cell? ⟨w.heap.size, 5, none⟩ = some (.slice (s.A 3) (s.n 3) (s.c 3)) := HS11.out.rp.cell 5
    have hx0 : w11.cell? ⟨P6, 0, none⟩ = some (.int .i64 slot) := HS11.out.rx.cell 0
    have HGT := Lib.hid (get_any num lsn f s slot w11.heap.size w11 (HS11.out.pp.more HS11.out.le) (Nat.le_refl _) (lens53 HS11.out.pp HF53.out))
    rw [HKM.out] at HGT
    obtain ⟨E, hE⟩ : ∃ E, E = askE K slot := ⟨_, rfl⟩
    obtain ⟨L, hL⟩ : ∃ L, L = (if E = 0 then f slot.toNat else []) := ⟨_, rfl⟩
    rw [← hE, ← hL] at HGT
    have HEE := Lib.hid hE
    have HLE := Lib.hid hL
    clear hE hL
    unfold pcs at HGT
    go_wp2_with fail
    refine HGT.out.mono ?_
    rintro e w12 ⟨v12, rfl, ho12, hb12⟩
    have HS12 := Lib.hid (HS11.out.then (hb12.mono HS11.out.le))
    have HO12 := Lib.hid (HO11.out.below hb12)
    have HQ12 := Lib.hid (HQ11.out.below hb12)
    have HR12 := Lib.hid (HR11.out.below hb12 hp9)
    have HP12 : Hid (P9 < w12.heap.size) := Nat.lt_of_lt_of_le hp9 hb12.size
    obtain ⟨Ag, ng, cg, rfl, hsg⟩ := ho12.sl
    have HG12 := Lib.hid (ho12.mono HS11.out.le)
    have HNG : Hid (L.length = ng) := hsg.len
    clear ho12 hb12 hsg HGT HS11 HO11 HQ11 HR11 hp9 hx0
    clear ha0 ha1 ha2 ha3 ha4 ha5
    have hng : ng ≤ 100 := by
      have h1 := HNG.out
      have h2 := HLE.out
      by_cases hE0 : E = 0
      · rw [if_pos hE0] at h2
        have h3 := HEE.out
        rw [hE0] at h3
        unfold askE at h3
        have hs4 : 0 ≤ slot ∧ slot < 4 := by
          split at h3
          · split at h3
            · assumption
            · cases h3
          · cases h3
        have := HF53.out slot.toNat (by omega)
        rw [h2] at h1
        omega
      · rw [if_neg hE0] at h2
        rw [h2] at h1
        simp at h1
        omega
    have ha0 : w12.cell? ⟨P7, 0, none⟩ = some (.int .i64 num) := HS12.out.r7.cell 0
    have ha1 : w12.cell? ⟨P7, 1, none⟩ = some (.int .u64 (lsn : Int)) := HS12.out.r7.cell 1
    have ha2 : w12.cell? ⟨P7, 2, none⟩ = some (.slice (s7.A 0) (s7.n 0) (s7.c 0)) := HS12.out.r7.cell 2
    have ha3 : w12.cell? ⟨P7, 3, none⟩ = some (.slice (s7.A 1) (s7.n 1) (s7.c 1)) := HS12.out.r7.cell 3
    have ha4 : w12.cell? ⟨P7, 4, none⟩ = some (.slice (s7.A 2) (s7.n 2) (s7.c 2)) := HS12.out.r7.cell 4
    have ha5 : w12.cell? ⟨P7, 5, none⟩ = some (.slice (s7.A 3) (s7.n 3) (s7.c 3)) := HS12.out.r7.cell 5
    have HS3 := Lib.hid (short_any num lsn f s7 w12.heap.size w12 (HS12.out.p7.more HS12.out.le) (Nat.le_refl _))
    unfold pcs at HS3
    go_wp2_with fail
    refine HS3.out.mono ?_
    rintro e w13 ⟨s13, rfl, hpo13, hb13⟩
    have HS13 := Lib.hid (HS12.out.then (hb13.mono HS12.out.le))
    have HO13 := Lib.hid (HO12.out.below hb13)
    have HQ13 := Lib.hid (HQ12.out.below hb13)
    have HG13 := Lib.hid (HG12.out.below hb13)
    have HR13 := Lib.hid (HR12.out.below hb13 HP12.out)
    have HW13 : Hid (PO w13 w12.heap.size f s13) := PO.congr hpo13 (short_same HF53.out)
    have HBU : Hid (∀ k, (Value.slice Ab nb cb).ownBlock = some k → k < w12.heap.size) := fun k hk => Nat.lt_of_lt_of_le (HBK.out k hk) (by have := HW11.out.2; have := HP12.out; omega)
    have HGU : Hid (∀ k, (Value.slice Ag ng cg).ownBlock = some k → k < w12.heap.size) := fun k hk => (World.ownsRow.lt HG12.out k hk).2
    have HQU : Hid (OS w12 Z w12.heap.size s9) := HQ12.out.os
    have HOS13 : Hid (OS w13 Z w12.heap.size s9) := HQU.out.out (Out.of (lo := w12.heap.size) (hi := w12.heap.size) hb13) (.inl (Nat.le_refl _))
    have hU13 : w12.heap.size ≤ w13.heap.size := hb13.size
    have HZU : Hid (Z ≤ w12.heap.size ∧ P9 < w12.heap.size) := ⟨HS12.out.le, HP12.out⟩
    clear hpo13 hb13 HS3 HS12 HO12 HQ12 HG12 HR12 HP12 HQU HBK HW11
    clear ha0 ha1 ha2 ha3 ha4 ha5
    generalize hU : w12.heap.size = U at HW13 HBU HGU HOS13 hU13 HZU
    clear hU
    go_upto_region 19 with fail
    have HX14 := Lib.hid (boxed w13 num lsn s13)
    unfold pcs at HX14
    have HS14 := Lib.hid (HS13.out.then (HX14.out.hb.mono HS13.out.le))
    have HO14 := Lib.hid (HO13.out.below HX14.out.hb)
    have HQ14 := Lib.hid (HQ13.out.below HX14.out.hb)
    have HG14 := Lib.hid (HG13.out.below HX14.out.hb)
    have HOS14 := Lib.hid (HOS13.out.out (Out.of (lo := U) (hi := U) HX14.out.hb) (.inl (Nat.le_refl _)))
    have HR14 := Lib.hid (HR13.out.below HX14.out.hb HR13.out.lt)
    have HWO14 := Lib.hid (HW13.out.below HX14.out.hb)
    have hU14 := Nat.le_trans hU13 HX14.out.hb.size
    have HWR14 := Lib.hid HX14.out.row
    have hP15 : U ≤ w13.heap.size := hU13
    generalize w13.alloc (.cells #[.int .i64 num, .int .u64 (lsn : Int), .slice (s13.A 0) (s13.n 0) (s13.c 0), .slice (s13.A 1) (s13.n 1) (s13.c 1), .slice (s13.A 2) (s13.n 2) (s13.c 2), .slice (s13.A 3) (s13.n 3) (s13.c 3)] 28) = w14 at HS14 HO14 HQ14 HG14 HOS14 HR14 HWO14 hU14 HWR14 ⊢
    clear HX14 HS13 HO13 HQ13 HG13 HOS13 HR13 HW13 hU13
    generalize w13.heap.size = P15 at HWR14 hP15 ⊢
    have HNB : Hid (bb.length = nb) := HO14.out.sl.elim fun A' q => q.elim fun n' q2 => q2.elim fun c' q3 => by
      obtain ⟨q4, q5⟩ := q3
      cases q4
      exact q5.len
    have HM9 : Hid (∀ k, k < 4 → s9.n k ≤ 100000) := fun k hk => by
      rw [← HQ14.out.at_.lens k hk]
      have hd := HD.out
      unfold setM at hd
      split at hd
      · cases hd
        by_cases hks : k = slot.toNat
        · rw [hks, upd_at]
          have := HBL.out
          omega
        · rw [upd_not _ _ hks]
          have := HF53.out k hk
          omega
      · cases hd
        show 0 ≤ _
        omega
    have ha0 : w14.cell? ⟨P7, 0, none⟩ = some (.int .i64 num) := HS14.out.r7.cell 0
    have ha1 : w14.cell? ⟨P7, 1, none⟩ = some (.int .u64 (lsn : Int)) := HS14.out.r7.cell 1
    have ha2 : w14.cell? ⟨P7, 2, none⟩ = some (.slice (s7.A 0) (s7.n 0) (s7.c 0)) := HS14.out.r7.cell 2
    have ha3 : w14.cell? ⟨P7, 3, none⟩ = some (.slice (s7.A 1) (s7.n 1) (s7.c 1)) := HS14.out.r7.cell 3
    have ha4 : w14.cell? ⟨P7, 4, none⟩ = some (.slice (s7.A 2) (s7.n 2) (s7.c 2)) := HS14.out.r7.cell 4
    have ha5 : w14.cell? ⟨P7, 5, none⟩ = some (.slice (s7.A 3) (s7.n 3) (s7.c 3)) := HS14.out.r7.cell 5
    have HRT := Lib.hid (right_any num lsn s7 w14)
    rw [HK7.out] at HRT
    unfold pcs at HRT
    go_wp2_with fail
    refine HRT.out.mono ?_
    rintro e w15 ⟨rfl, hbx⟩
    have HS15 := Lib.hid (HS14.out.then (hbx.mono HS14.out.le))
    have HO15 := Lib.hid (HO14.out.below hbx)
    have HQ15 := Lib.hid (HQ14.out.below hbx)
    have HG15 := Lib.hid (HG14.out.below hbx)
    have HOS15 := Lib.hid (HOS14.out.out (Out.of (lo := U) (hi := U) hbx) (.inl (Nat.le_refl _)))
    have HR15 := Lib.hid (HR14.out.below hbx HR14.out.lt)
    have HWO15 := Lib.hid (HWO14.out.below hbx)
    have HWR15 := Lib.hid (HWR14.out.below hbx HWR14.out.lt)
    have hU15 := Nat.le_trans hU14 hbx.size
    clear hbx HRT HS14 HO14 HQ14 HG14 HOS14 HR14 HWO14 HWR14 hU14
    clear ha0 ha1 ha2 ha3 ha4 ha5
    have HRG : Hid (RG w Z U P6 P7 P9 num lsn f s ⟨slot, A1, n1, c1, b1, l1⟩ s7 dn dl dsl s9 Ab nb cb bb Ag ng cg L w15) := ⟨HS15.out, HO15.out, HOS15.out, HQ15.out, HG15.out, HR15.out, hU15⟩
    clear HS15 HO15 HOS15 HQ15 HG15 HR15 hU15
    cases K
    · have hd := HD.out
      rw [show setM num f false slot bb l1 = badP 160 from rfl] at hd
      obtain ⟨rfl, rfl, rfl, rfl⟩ := DP.mk.inj hd
      have hE := HEE.out
      rw [ask_no] at hE
      subst hE
      have hL0 : L = [] := HLE.out
      subst hL0
      clear hd HD HEE HLE HKM HK7 HKF
      have HONE : Hid (∀ v ∈ pcs 0 0 zs, v.oneCell' = true) := pcs_one
      have HPI : Hid ((Try.prog.info? 28).map (·.size) = some (pcs 0 0 zs).length) := page_info
      have HLQ : Hid ((pcs 0 0 zs).length = (pcs num lsn s13).length) := (rfl : _ = _)
      go_upto_region 25 with ((with_reducible refine wpList_store_whole (op := ⟨none, _, _, _, _, _⟩) ?_ 28 (.tmp 15) (.tmp 95) ?_ P15 (pcs 0 0 zs) ?_ ?_ 28 (pcs num lsn s13) HWR15.out HLQ.out HONE.out HPI.out ?_))
      all_goals try (first | rfl | (simp; done))
      intro wt hr hg
      have HRGt := Lib.hid (HRG.out.put HWR15.out hg hP15 HZU.out)
      have HT := Lib.hid (HRGt.out.ts hr (PO.nil _ _) (Sl.nil_ _ _) (As := none) (ns := 0) (cs := 0))
      have HQ : Hid (PO wt Z none_ s9) := HRGt.out.q
      clear hr hg HRGt HRG HWR15 HWO15 HONE HPI HLQ
      go_upto_region 25 with fail
      refine wp_region_held_drew (S := fun w' => (Row w' P9 28 (pcs 0 0 s9) ∧ Row w' P15 28 (pcs 0 0 zs)) ∧ Row w' w.heap.size 28 (pcs num lsn s) ∧ Row w' P7 28 (pcs num lsn s7)) (by kernel_rfl) ⟨⟨HT.out.r9, HT.out.r15⟩, HT.out.s7.rp, HT.out.s7.r7⟩ (fun hHeld => ?_)
      have HTu := Lib.hid (HT.out.then (below_still (Below.refl _ _) ⟨1, rfl⟩ : Below wt.heap.size wt wt.drew))
      have HQu := Lib.hid (HQ.out.below (below_still (Below.refl _ _) ⟨1, rfl⟩ : Below wt.heap.size wt wt.drew))
      clear HT HQ
      generalize wt.drew = wu at *
      refine wpAnyH_take (i := 0) (oi := ⟨some 96, _, _, _, _, _⟩) (v := ?v0ga) rfl (by kernel_rfl) (by kernel_rfl) (by kernel_rfl) (fun _ _ _ h => h) (Or.inl ⟨by rfl, ?y0ga⟩) ⟨⟨HTu.out.r9, HTu.out.r15⟩, HTu.out.s7.rp, HTu.out.s7.r7⟩ ?r0ga
      case y0ga =>
        rintro w' hSw
        go_simp
        try with_reducible rfl
      try simp only [Act.put, List.setIfInBounds_toArray, List.set_cons_zero, List.set_cons_succ]
      refine wpAnyH_take (i := 1) (oi := ⟨some 97, _, _, _, _, _⟩) (v := ?v1ga) rfl (by kernel_rfl) (by kernel_rfl) (by kernel_rfl) (fun _ _ _ h => h) (Or.inl ⟨by rfl, ?y1ga⟩) ⟨⟨HTu.out.r9, HTu.out.r15⟩, HTu.out.s7.rp, HTu.out.s7.r7⟩ ?r1ga
      case y1ga =>
        rintro w' hSw
        go_simp
        try with_reducible rfl
      try simp only [Act.put, List.setIfInBounds_toArray, List.set_cons_zero, List.set_cons_succ]
      refine wpAnyH_take (i := 2) (oi := ⟨some 98, _, _, _, _, _⟩) (v := ?v2ga) rfl (by kernel_rfl) (by kernel_rfl) (by kernel_rfl) (fun _ _ _ h => h) (Or.inl ⟨by rfl, ?y2ga⟩) ⟨⟨HTu.out.r9, HTu.out.r15⟩, HTu.out.s7.rp, HTu.out.s7.r7⟩ ?r2ga
      case y2ga =>
        rintro w' hSw
        go_simp
        try with_reducible rfl
      try simp only [Act.put, List.setIfInBounds_toArray, List.set_cons_zero, List.set_cons_succ]
      refine wpAnyH_take (i := 3) (oi := ⟨some 99, _, _, _, _, _⟩) (v := ?v3ga) rfl (by kernel_rfl) (by kernel_rfl) (by kernel_rfl) (fun _ _ _ h => h) (Or.inl ⟨by rfl, ?y3ga⟩) ⟨⟨HTu.out.r9, HTu.out.r15⟩, HTu.out.s7.rp, HTu.out.s7.r7⟩ ?r3ga
      case y3ga =>
        rintro w' hSw
        go_simp
        try with_reducible rfl
      try simp only [Act.put, List.setIfInBounds_toArray, List.set_cons_zero, List.set_cons_succ]
      refine wpAnyH_take (i := 4) (oi := ⟨some 100, _, _, _, _, _⟩) (v := ?v4ga) rfl (by kernel_rfl) (by kernel_rfl) (by kernel_rfl) (fun _ _ _ h => h) (Or.inl ⟨by rfl, ?y4ga⟩) ⟨⟨HTu.out.r9, HTu.out.r15⟩, HTu.out.s7.rp, HTu.out.s7.r7⟩ ?r4ga
      case y4ga =>
        rintro w' hSw
        go_simp
        try with_reducible rfl
      try simp only [Act.put, List.setIfInBounds_toArray, List.set_cons_zero, List.set_cons_succ]
      refine wpAnyH_take (i := 5) (oi := ⟨some 101, _, _, _, _, _⟩) (v := ?v5ga) rfl (by kernel_rfl) (by kernel_rfl) (by kernel_rfl) (fun _ _ _ h => h) (Or.inl ⟨by rfl, ?y5ga⟩) ⟨⟨HTu.out.r9, HTu.out.r15⟩, HTu.out.s7.rp, HTu.out.s7.r7⟩ ?r5ga
      case y5ga =>
        rintro w' hSw
        go_simp
        try with_reducible rfl
      try simp only [Act.put, List.setIfInBounds_toArray, List.set_cons_zero, List.set_cons_succ]
      refine wpAnyH_take (i := 6) (oi := ⟨some 102, _, _, _, _, _⟩) (v := ?v6ga) rfl (by kernel_rfl) (by kernel_rfl) (by kernel_rfl) (fun _ _ _ h => h) (Or.inl ⟨by rfl, ?y6ga⟩) ⟨⟨HTu.out.r9, HTu.out.r15⟩, HTu.out.s7.rp, HTu.out.s7.r7⟩ ?r6ga
      case y6ga =>
        rintro w' hSw
        go_simp
        try with_reducible rfl
      try simp only [Act.put, List.setIfInBounds_toArray, List.set_cons_zero, List.set_cons_succ]
      refine wpAnyH_take (i := 7) (oi := ⟨some 103, _, _, _, _, _⟩) (v := ?v7ga) rfl (by kernel_rfl) (by kernel_rfl) (by kernel_rfl) (fun _ _ _ h => h) (Or.inl ⟨by rfl, ?y7ga⟩) ⟨⟨HTu.out.r9, HTu.out.r15⟩, HTu.out.s7.rp, HTu.out.s7.r7⟩ ?r7ga
      case y7ga =>
        rintro w' hSw
        go_simp
        try with_reducible rfl
      try simp only [Act.put, List.setIfInBounds_toArray, List.set_cons_zero, List.set_cons_succ]
      refine wpAnyH_take (i := 8) (oi := ⟨some 104, _, _, _, _, _⟩) (v := ?v8ga) rfl (by kernel_rfl) (by kernel_rfl) (by kernel_rfl) (fun _ _ _ h => h) (Or.inl ⟨by rfl, ?y8ga⟩) ⟨⟨HTu.out.r9, HTu.out.r15⟩, HTu.out.s7.rp, HTu.out.s7.r7⟩ ?r8ga
      case y8ga =>
        rintro w' hSw
        go_simp
        try with_reducible rfl
      try simp only [Act.put, List.setIfInBounds_toArray, List.set_cons_zero, List.set_cons_succ]
      refine wpAnyH_take (i := 9) (oi := ⟨some 105, _, _, _, _, _⟩) rfl (by kernel_rfl) (by kernel_rfl) (by kernel_rfl) (fun _ _ _ h => h) (yieldsIf_load_mid (by rfl) 28 (.tmp 9) rfl P9 0 ?x9ga (pcs 0 0 s9) _ (fun _ h => Row.all h.1.1) Try.underlying28 rfl page_info) ⟨⟨HTu.out.r9, HTu.out.r15⟩, HTu.out.s7.rp, HTu.out.s7.r7⟩ ?r9ga
      case x9ga => first | rfl | (simp [Act.eval, go_sem]; done)
      try simp only [Act.put, List.setIfInBounds_toArray, List.set_cons_zero, List.set_cons_succ]
      refine wpAnyH_take (i := 10) (oi := ⟨some 106, _, _, _, _, _⟩) rfl (by kernel_rfl) (by kernel_rfl) (by kernel_rfl) (fun _ _ _ h => h) (yieldsIf_load_mid (by rfl) 28 (.tmp 15) rfl P15 0 ?x10ga (pcs 0 0 zs) _ (fun _ h => Row.all h.1.2) Try.underlying28 rfl page_info) ⟨⟨HTu.out.r9, HTu.out.r15⟩, HTu.out.s7.rp, HTu.out.s7.r7⟩ ?r10ga
      case x10ga => first | rfl | (simp [Act.eval, go_sem]; done)
      try simp only [Act.put, List.setIfInBounds_toArray, List.set_cons_zero, List.set_cons_succ]
      refine wpAnyH_ready (rs := [11]) (by kernel_rfl) (by simp) ?_
      refine AllReadyH.cons rfl (fun K hK => ?_) AllReadyH.nil
      go_simp
      refine (rsame_any 0 0 s9 none_ 0 0 zs none_ wu.heap.size wu HQu.out.at_ HTu.out.ow.at_ (Nat.le_refl _)).mono ?_
      rintro e wv ⟨rfl, hbx⟩
      rw [same_self]
      have HTv := Lib.hid (HTu.out.then hbx)
      clear hbx HTu HQu
      refine hK _ _ ⟨⟨HTv.out.r9, HTv.out.r15⟩, HTv.out.s7.rp, HTv.out.s7.r7⟩ (fun _ => ?_)
      clear hK K
      try simp only [Act.put, List.setIfInBounds_toArray, List.set_cons_zero, List.set_cons_succ]
      refine wpAnyH_take (i := 12) (oi := ⟨some 108, _, _, _, _, _⟩) (v := ?v12ga) rfl (by kernel_rfl) (by kernel_rfl) (by kernel_rfl) (fun _ _ _ h => h) (Or.inl ⟨by rfl, ?y12ga⟩) ⟨⟨HTv.out.r9, HTv.out.r15⟩, HTv.out.s7.rp, HTv.out.s7.r7⟩ ?r12ga
      case y12ga =>
        rintro w' hSw
        go_simp
        try with_reducible rfl
      try simp only [Act.put, List.setIfInBounds_toArray, List.set_cons_zero, List.set_cons_succ]
      refine wpAnyH_take (i := 13) (oi := ⟨some 109, _, _, _, _, _⟩) (v := ?v13ga) rfl (by kernel_rfl) (by kernel_rfl) (by kernel_rfl) (fun _ _ _ h => h) (Or.inl ⟨by rfl, ?y13ga⟩) ⟨⟨HTv.out.r9, HTv.out.r15⟩, HTv.out.s7.rp, HTv.out.s7.r7⟩ ?r13ga
      case y13ga =>
        rintro w' hSw
        go_simp
        try with_reducible rfl
      try simp only [Act.put, List.setIfInBounds_toArray, List.set_cons_zero, List.set_cons_succ]
      refine wpAnyH_take (i := 14) (oi := ⟨some 110, _, _, _, _, _⟩) (v := ?v14ga) rfl (by kernel_rfl) (by kernel_rfl) (by kernel_rfl) (fun _ _ _ h => h) (Or.inl ⟨by rfl, ?y14ga⟩) ⟨⟨HTv.out.r9, HTv.out.r15⟩, HTv.out.s7.rp, HTv.out.s7.r7⟩ ?r14ga
      case y14ga =>
        rintro w' hSw
        go_simp
        try with_reducible rfl
      try simp only [Act.put, List.setIfInBounds_toArray, List.set_cons_zero, List.set_cons_succ]
      refine wpAnyH_take (i := 15) (oi := ⟨some 111, _, _, _, _, _⟩) (v := ?v15ga) rfl (by kernel_rfl) (by kernel_rfl) (by kernel_rfl) (fun _ _ _ h => h) (Or.inl ⟨by rfl, ?y15ga⟩) ⟨⟨HTv.out.r9, HTv.out.r15⟩, HTv.out.s7.rp, HTv.out.s7.r7⟩ ?r15ga
      case y15ga =>
        rintro w' hSw
        go_simp
        try with_reducible rfl
      try simp only [Act.put, List.setIfInBounds_toArray, List.set_cons_zero, List.set_cons_succ]
      refine wpAnyH_take (i := 16) (oi := ⟨some 112, _, _, _, _, _⟩) (v := ?v16ga) rfl (by kernel_rfl) (by kernel_rfl) (by kernel_rfl) (fun _ _ _ h => h) (Or.inl ⟨by rfl, ?y16ga⟩) ⟨⟨HTv.out.r9, HTv.out.r15⟩, HTv.out.s7.rp, HTv.out.s7.r7⟩ ?r16ga
      case y16ga =>
        rintro w' hSw
        go_simp
        try with_reducible rfl
      try simp only [Act.put, List.setIfInBounds_toArray, List.set_cons_zero, List.set_cons_succ]
      refine wpAnyH_ready (rs := [17]) (by kernel_rfl) (by simp) ?_
      refine AllReadyH.cons rfl (fun K hK => ?_) AllReadyH.nil
      go_simp
      refine (bytesEq_any Ag (none) ng cg (0) (0) ([] : List UInt8) ([] : List UInt8) wv.heap.size Z wv HTv.out.glen.1 HTv.out.sl.len HTv.out.glen.2 HTv.out.sl.bs).mono ?_
      rintro e wy ⟨rfl, rfl⟩
      rw [show decide (([] : List UInt8) = ([] : List UInt8)) = true by simp]
      refine hK _ _ ⟨⟨HTv.out.r9, HTv.out.r15⟩, HTv.out.s7.rp, HTv.out.s7.r7⟩ (fun _ => ?_)
      clear hK K
      try simp only [Act.put, List.setIfInBounds_toArray, List.set_cons_zero, List.set_cons_succ]
      refine wpAnyH_take (i := 18) (oi := ⟨some 114, _, _, _, _, _⟩) (v := ?v18ga) rfl (by kernel_rfl) (by kernel_rfl) (by kernel_rfl) (fun _ _ _ h => h) (Or.inl ⟨by rfl, ?y18ga⟩) ⟨⟨HTv.out.r9, HTv.out.r15⟩, HTv.out.s7.rp, HTv.out.s7.r7⟩ ?r18ga
      case y18ga =>
        rintro w' hSw
        go_simp
        try with_reducible rfl
      try simp only [Act.put, List.setIfInBounds_toArray, List.set_cons_zero, List.set_cons_succ]
      refine wpAnyH_take (i := 19) (oi := ⟨some 115, _, _, _, _, _⟩) (v := ?v19ga) rfl (by kernel_rfl) (by kernel_rfl) (by kernel_rfl) (fun _ _ _ h => h) (Or.inl ⟨by rfl, ?y19ga⟩) ⟨⟨HTv.out.r9, HTv.out.r15⟩, HTv.out.s7.rp, HTv.out.s7.r7⟩ ?r19ga
      case y19ga =>
        rintro w' hSw
        go_simp
        try with_reducible rfl
      try simp only [Act.put, List.setIfInBounds_toArray, List.set_cons_zero, List.set_cons_succ]
      refine wpAnyH_take (i := 20) (oi := ⟨some 116, _, _, _, _, _⟩) (v := ?v20ga) rfl (by kernel_rfl) (by kernel_rfl) (by kernel_rfl) (fun _ _ _ h => h) (Or.inl ⟨by rfl, ?y20ga⟩) ⟨⟨HTv.out.r9, HTv.out.r15⟩, HTv.out.s7.rp, HTv.out.s7.r7⟩ ?r20ga
      case y20ga =>
        rintro w' hSw
        go_simp
        try with_reducible rfl
      try simp only [Act.put, List.setIfInBounds_toArray, List.set_cons_zero, List.set_cons_succ]
      refine wpAnyH_take (i := 21) (oi := ⟨some 117, _, _, _, _, _⟩) rfl (by kernel_rfl) (by kernel_rfl) (by kernel_rfl) (fun _ _ _ h => h) (yieldsIf_load_mid (by rfl) 28 (.tmp 2) rfl w.heap.size 0 ?x21ga (pcs num lsn s) _ (fun _ h => Row.all h.2.1) Try.underlying28 rfl page_info) ⟨⟨HTv.out.r9, HTv.out.r15⟩, HTv.out.s7.rp, HTv.out.s7.r7⟩ ?r21ga
      case x21ga => first | rfl | (simp [Act.eval, go_sem]; done)
      try simp only [Act.put, List.setIfInBounds_toArray, List.set_cons_zero, List.set_cons_succ]
      refine wpAnyH_take (i := 23) (oi := ⟨some 119, _, _, _, _, _⟩) rfl (by kernel_rfl) (by kernel_rfl) (by kernel_rfl) (fun _ _ _ h => h) (yieldsIf_load_mid (by rfl) 28 (.tmp 7) rfl P7 0 ?x23ga (pcs num lsn s7) _ (fun _ h => Row.all h.2.2) Try.underlying28 rfl page_info) ⟨⟨HTv.out.r9, HTv.out.r15⟩, HTv.out.s7.rp, HTv.out.s7.r7⟩ ?r23ga
      case x23ga => first | rfl | (simp [Act.eval, go_sem]; done)
      try simp only [Act.put, List.setIfInBounds_toArray, List.set_cons_zero, List.set_cons_succ]
      refine wpAnyH_ready (rs := [22]) (by kernel_rfl) (by simp) ?_
      refine AllReadyH.cons rfl (fun K hK => ?_) AllReadyH.nil
      go_simp
      refine (free_any num lsn s wv).mono ?_
      rintro e wz ⟨rfl, hbx⟩
      rw [free_eq HTv.out.s7.pp HTv.out.s7.p7]
      have HTz := Lib.hid (HTv.out.then hbx)
      clear hbx HTv
      refine hK _ _ ⟨⟨HTz.out.r9, HTz.out.r15⟩, HTz.out.s7.rp, HTz.out.s7.r7⟩ (fun _ => ?_)
      clear hK K
      try simp only [Act.put, List.setIfInBounds_toArray, List.set_cons_zero, List.set_cons_succ]
      refine wpAnyH_ready (rs := [24]) (by kernel_rfl) (by simp) ?_
      refine AllReadyH.cons rfl (fun K hK => ?_) AllReadyH.nil
      go_simp
      refine (lawfree_any num lsn s7 wz).mono ?_
      rintro e wq ⟨rfl, hbx⟩
      generalize freeN (okN num s7.n) s7.n = FV
      have hfv : (FV != FV) = false := by simp
      have HTq := Lib.hid (HTz.out.then hbx)
      clear hbx HTz
      refine hK _ _ ⟨⟨HTq.out.r9, HTq.out.r15⟩, HTq.out.s7.rp, HTq.out.s7.r7⟩ (fun _ => ?_)
      clear hK K
      try simp only [Act.put, List.setIfInBounds_toArray, List.set_cons_zero, List.set_cons_succ]
      refine wpAnyH_take (i := 25) (oi := ⟨some 121, _, _, _, _, _⟩) (v := ?v25ga) rfl (by kernel_rfl) (by kernel_rfl) (by kernel_rfl) (fun _ _ _ h => h) (Or.inl ⟨by rfl, ?y25ga⟩) ⟨⟨HTq.out.r9, HTq.out.r15⟩, HTq.out.s7.rp, HTq.out.s7.r7⟩ ?r25ga
      case y25ga =>
        rintro w' hSw
        go_simp
        try with_reducible rfl
      try simp only [Act.put, List.setIfInBounds_toArray, List.set_cons_zero, List.set_cons_succ]
      refine wpAnyH_take (i := 26) (oi := ⟨some 122, _, _, _, _, _⟩) (v := ?v26ga) rfl (by kernel_rfl) (by kernel_rfl) (by kernel_rfl) (fun _ _ _ h => h) (Or.inl ⟨by rfl, ?y26ga⟩) ⟨⟨HTq.out.r9, HTq.out.r15⟩, HTq.out.s7.rp, HTq.out.s7.r7⟩ ?r26ga
      case y26ga =>
        rintro w' hSw
        go_simp
        try with_reducible rfl
      try simp only [Act.put, List.setIfInBounds_toArray, List.set_cons_zero, List.set_cons_succ]
      refine wpAnyH_done (by kernel_rfl) ?_ _
      clear hfv
      have ha0 : wq.cell? ⟨P9, 0, none⟩ = some (.int .i64 0) := HTq.out.r9.cell 0
      have ha1 : wq.cell? ⟨P9, 1, none⟩ = some (.int .u64 0) := HTq.out.r9.cell 1
      have ha2 : wq.cell? ⟨P9, 2, none⟩ = some (.slice (s9.A 0) (s9.n 0) (s9.c 0)) := HTq.out.r9.cell 2
      have ha3 : wq.cell? ⟨P9, 3, none⟩ = some (.slice (s9.A 1) (s9.n 1) (s9.c 1)) := HTq.out.r9.cell 3
      have ha4 : wq.cell? ⟨P9, 4, none⟩ = some (.slice (s9.A 2) (s9.n 2) (s9.c 2)) := HTq.out.r9.cell 4
      have ha5 : wq.cell? ⟨P9, 5, none⟩ = some (.slice (s9.A 3) (s9.n 3) (s9.c 3)) := HTq.out.r9.cell 5
      have HNB : Hid (bb.length = nb) := HTq.out.blen
      have HNG : Hid ((([] : List UInt8)).length = ng) := HTq.out.glen.1
      have HSP := Lib.hid (spoil_keep (fun W => Some_ W Z U Ag ng cg ∧ Some_ W Z U Ab nb cb) 0 0 s9 Z U wq HTq.out.os HTq.out.us HM9.out (fun W hW => ⟨⟨⟨([] : List UInt8), HNG.out, HTq.out.og.below hW⟩, HGU.out⟩, ⟨⟨bb, HNB.out, HTq.out.ob.below hW⟩, HBU.out⟩⟩) (fun W g i y hy h => ⟨h.1.set g i y hy, h.2.set g i y hy⟩))
      unfold pcs at HSP
      go_wp2_with fail
      refine HSP.out.mono ?_
      rintro e w20 ⟨rfl, hout, hsome⟩
      have HOUT := Lib.hid hout
      have HXI : Hid (Some_ w20 Z U Ag ng cg ∧ Some_ w20 Z U Ab nb cb ∧ Out Z U w20 w20) := ⟨hsome.1, hsome.2, Out.refl _ _ _⟩
      clear HSP hout hsome ha0 ha1 ha2 ha3 ha4 ha5
      go_wp2_with fail
      go_loopw [127] (fun t wr => ∃ j : Nat, j ≤ ng ∧ t = .int .i64 (j : Int) ∧ Hid (Some_ wr Z U Ag ng cg ∧ Some_ wr Z U Ab nb cb ∧ Out Z U w20 wr)) (fun t _ => ng - (intOf t).toNat)
      case atStart => exact ⟨0, by omega, rfl, HXI⟩
      case round =>
        obtain ⟨j, hj, rfl, HJ⟩ := hrel
        clear HXI

        by_cases hjl : j < ng
        · have hj1 : (j : Int) < (ng : Int) := by omega
          have hj0 : 0 ≤ (j : Int) := by omega
          have hjn : (ng : Int) ≤ 100000 := by omega
          obtain ⟨⟨l', hl', ho'⟩, hk'⟩ := HJ.out.1
          obtain ⟨G, u, hA, hGb, hcl, hfr⟩ := own_cell ho' j hjl
          obtain ⟨y, hy, hxy⟩ := xor_nat u
          have hN : Hid (Some_ (wr.setCell ⟨G, j, none⟩ (.int .u8 (y : Int))) Z U Ag ng cg ∧ Some_ (wr.setCell ⟨G, j, none⟩ (.int .u8 (y : Int))) Z U Ab nb cb ∧ Out Z U w20 (wr.setCell ⟨G, j, none⟩ (.int .u8 (y : Int)))) := ⟨HJ.out.1.set G j y hy, HJ.out.2.1.set G j y hy, HJ.out.2.2.trans (Out.set wr j _ hGb (hk' G (by rw [hA]; rfl)))⟩
          have HAA := Lib.hid hA
          clear hl' ho' hA hk' HJ
          rw [HAA.out]

          go_upto_region 32 with fail

          generalize wr.setCell ⟨G, j, none⟩ (.int .u8 (y : Int)) = w3 at hN ⊢
          have HN := Lib.hid hN.out
          clear hN hcl hfr hxy

          go_wp2
          go_roundw
          case rel => exact ⟨j + 1, by omega, by go_num, by rw [← HAA.out]; exact HN⟩
          case measure => simp [intOf]; omega
        · have hj1 : ¬ (j : Int) < (ng : Int) := by omega
          obtain ⟨wl, hwl⟩ : ∃ wl : World, wl = wr := ⟨_, rfl⟩
          subst hwl
          have HXI := Lib.hid HJ.out
          clear HJ hj1
          go_wp2_with fail
          go_loopw [139] (fun t wr => ∃ j : Nat, j ≤ nb ∧ t = .int .i64 (j : Int) ∧ Hid (Some_ wr Z U Ag ng cg ∧ Some_ wr Z U Ab nb cb ∧ Out Z U w20 wr)) (fun t _ => nb - (intOf t).toNat)
          case atStart => exact ⟨0, by omega, rfl, HXI⟩
          case round =>
            obtain ⟨j, hj, rfl, HJ⟩ := hrel
            clear HXI

            by_cases hjl : j < nb
            · have hj1 : (j : Int) < (nb : Int) := by omega
              have hj0 : 0 ≤ (j : Int) := by omega
              have hjn : (nb : Int) ≤ 100000 := by omega
              obtain ⟨⟨l', hl', ho'⟩, hk'⟩ := HJ.out.2.1
              obtain ⟨G, u, hA, hGb, hcl, hfr⟩ := own_cell ho' j hjl
              obtain ⟨y, hy, hxy⟩ := xor_nat u
              have hN : Hid (Some_ (wr.setCell ⟨G, j, none⟩ (.int .u8 (y : Int))) Z U Ag ng cg ∧ Some_ (wr.setCell ⟨G, j, none⟩ (.int .u8 (y : Int))) Z U Ab nb cb ∧ Out Z U w20 (wr.setCell ⟨G, j, none⟩ (.int .u8 (y : Int)))) := ⟨HJ.out.1.set G j y hy, HJ.out.2.1.set G j y hy, HJ.out.2.2.trans (Out.set wr j _ hGb (hk' G (by rw [hA]; rfl)))⟩
              have HAA := Lib.hid hA
              clear hl' ho' hA hk' HJ
              rw [HAA.out]

              go_upto_region 37 with fail

              generalize wr.setCell ⟨G, j, none⟩ (.int .u8 (y : Int)) = w3 at hN ⊢
              have HN := Lib.hid hN.out
              clear hN hcl hfr hxy

              go_wp2
              go_roundw
              case rel => exact ⟨j + 1, by omega, by go_num, by rw [← HAA.out]; exact HN⟩
              case measure => simp [intOf]; omega
            · have hj1 : ¬ (j : Int) < (nb : Int) := by omega
              clear hj1
              have HZZ : Hid (Out Z U wq wr) := HOUT.out.trans HJ.out.2.2
              have HSZ := Lib.hid (HTq.out.s7.then (HZZ.out.below HTq.out.s7.le))
              have HWZ := Lib.hid (Pg.Row.out HTq.out.r15 HZZ.out (.inr hP15))
              have HOZ := Lib.hid (HTq.out.ow.out HZZ.out (Nat.le_refl _))
              have HUZ : Hid (U ≤ wr.heap.size) := Nat.le_trans HTq.out.us HZZ.out.size
              clear HZZ HJ HOUT HTq
              have hb0 : wr.cell? ⟨w.heap.size, 0, none⟩ = some (.int .i64 num) := HSZ.out.rp.cell 0
              have hb1 : wr.cell? ⟨w.heap.size, 1, none⟩ = some (.int .u64 (lsn : Int)) := HSZ.out.rp.cell 1
              have hb2 : wr.cell? ⟨w.heap.size, 2, none⟩ = some (.slice (s.A 0) (s.n 0) (s.c 0)) := HSZ.out.rp.cell 2
              have hb3 : wr.cell? ⟨w.heap.size, 3, none⟩ = some (.slice (s.A 1) (s.n 1) (s.c 1)) := HSZ.out.rp.cell 3
              have hb4 : wr.cell? ⟨w.heap.size, 4, none⟩ = some (.slice (s.A 2) (s.n 2) (s.c 2)) := HSZ.out.rp.cell 4
              have hb5 : wr.cell? ⟨w.heap.size, 5, none⟩ = some (.slice (s.A 3) (s.n 3) (s.c 3)) := HSZ.out.rp.cell 5
              have hc0 : wr.cell? ⟨P7, 0, none⟩ = some (.int .i64 num) := HSZ.out.r7.cell 0
              have hc1 : wr.cell? ⟨P7, 1, none⟩ = some (.int .u64 (lsn : Int)) := HSZ.out.r7.cell 1
              have hc2 : wr.cell? ⟨P7, 2, none⟩ = some (.slice (s7.A 0) (s7.n 0) (s7.c 0)) := HSZ.out.r7.cell 2
              have hc3 : wr.cell? ⟨P7, 3, none⟩ = some (.slice (s7.A 1) (s7.n 1) (s7.c 1)) := HSZ.out.r7.cell 3
              have hc4 : wr.cell? ⟨P7, 4, none⟩ = some (.slice (s7.A 2) (s7.n 2) (s7.c 2)) := HSZ.out.r7.cell 4
              have hc5 : wr.cell? ⟨P7, 5, none⟩ = some (.slice (s7.A 3) (s7.n 3) (s7.c 3)) := HSZ.out.r7.cell 5
              have HSM := Lib.hid (rsame_any num lsn s f num lsn s7 f Z wr HSZ.out.pp HSZ.out.p7 HSZ.out.le)
              rw [same_self] at HSM
              unfold pcs at HSM
              go_wp2_with fail
              refine HSM.out.mono ?_
              rintro e wz ⟨rfl, hbz⟩
              have HSE := Lib.hid (HSZ.out.then (hbz.mono HSZ.out.le))
              have HWE := Lib.hid (HWZ.out.below hbz HWZ.out.lt)
              have HOE := Lib.hid (HOZ.out.below hbz)
              clear HSM hbz HSZ HWZ HOZ hb0 hb1 hb2 hb3 hb4 hb5 hc0 hc1 hc2 hc3 hc4 hc5
              go_wp2
              go_roundw
              case rel => exact ⟨i + 1, by omega, by go_num, rfl, ⟨lsn, f, s, HSE.out.rp, HSE.out.pp.more HSE.out.le, HF53.out, HSE.out.hb⟩⟩
              case measure => simp [intOf]; omega

    · by_cases hsl : 0 ≤ slot ∧ slot < 4
      case neg =>
        have hd := HD.out
        rw [set_out hsl] at hd
        obtain ⟨rfl, rfl, rfl, rfl⟩ := DP.mk.inj hd
        have hE := HEE.out
        rw [ask_out hsl] at hE
        subst hE
        have hL0 : L = [] := HLE.out
        subst hL0
        clear hd HD HEE HLE HKM HK7 HKF
        have hx0 : w15.cell? ⟨P6, 0, none⟩ = some (.int .i64 slot) := HRG.out.s7.rx.cell 0
        by_cases hneg : slot < 0
        · clear hsl
          have HONE : Hid (∀ v ∈ pcs 0 0 zs, v.oneCell' = true) := pcs_one
          have HPI : Hid ((Try.prog.info? 28).map (·.size) = some (pcs 0 0 zs).length) := page_info
          have HLQ : Hid ((pcs 0 0 zs).length = (pcs num lsn s13).length) := (rfl : _ = _)
          go_upto_region 25 with ((with_reducible refine wpList_store_whole (op := ⟨none, _, _, _, _, _⟩) ?_ 28 (.tmp 15) (.tmp 95) ?_ P15 (pcs 0 0 zs) ?_ ?_ 28 (pcs num lsn s13) HWR15.out HLQ.out HONE.out HPI.out ?_))
          all_goals try (first | rfl | (simp; done))
          intro wt hr hg
          have HRGt := Lib.hid (HRG.out.put HWR15.out hg hP15 HZU.out)
          have HT := Lib.hid (HRGt.out.ts hr (PO.nil _ _) (Sl.nil_ _ _) (As := none) (ns := 0) (cs := 0))
          have HQ : Hid (PO wt Z none_ s9) := HRGt.out.q
          clear hr hg HRGt HRG HWR15 HWO15 hx0 hneg HONE HPI HLQ
          go_upto_region 25 with fail
          refine wp_region_held_drew (S := fun w' => (Row w' P9 28 (pcs 0 0 s9) ∧ Row w' P15 28 (pcs 0 0 zs)) ∧ Row w' w.heap.size 28 (pcs num lsn s) ∧ Row w' P7 28 (pcs num lsn s7)) (by kernel_rfl) ⟨⟨HT.out.r9, HT.out.r15⟩, HT.out.s7.rp, HT.out.s7.r7⟩ (fun hHeld => ?_)
          have HTu := Lib.hid (HT.out.then (below_still (Below.refl _ _) ⟨1, rfl⟩ : Below wt.heap.size wt wt.drew))
          have HQu := Lib.hid (HQ.out.below (below_still (Below.refl _ _) ⟨1, rfl⟩ : Below wt.heap.size wt wt.drew))
          clear HT HQ
          generalize wt.drew = wu at *
          refine wpAnyH_take (i := 0) (oi := ⟨some 96, _, _, _, _, _⟩) (v := ?v0gb) rfl (by kernel_rfl) (by kernel_rfl) (by kernel_rfl) (fun _ _ _ h => h) (Or.inl ⟨by rfl, ?y0gb⟩) ⟨⟨HTu.out.r9, HTu.out.r15⟩, HTu.out.s7.rp, HTu.out.s7.r7⟩ ?r0gb
          case y0gb =>
            rintro w' hSw
            go_simp
            try with_reducible rfl
          try simp only [Act.put, List.setIfInBounds_toArray, List.set_cons_zero, List.set_cons_succ]
          refine wpAnyH_take (i := 1) (oi := ⟨some 97, _, _, _, _, _⟩) (v := ?v1gb) rfl (by kernel_rfl) (by kernel_rfl) (by kernel_rfl) (fun _ _ _ h => h) (Or.inl ⟨by rfl, ?y1gb⟩) ⟨⟨HTu.out.r9, HTu.out.r15⟩, HTu.out.s7.rp, HTu.out.s7.r7⟩ ?r1gb
          case y1gb =>
            rintro w' hSw
            go_simp
            try with_reducible rfl
          try simp only [Act.put, List.setIfInBounds_toArray, List.set_cons_zero, List.set_cons_succ]
          refine wpAnyH_take (i := 2) (oi := ⟨some 98, _, _, _, _, _⟩) (v := ?v2gb) rfl (by kernel_rfl) (by kernel_rfl) (by kernel_rfl) (fun _ _ _ h => h) (Or.inl ⟨by rfl, ?y2gb⟩) ⟨⟨HTu.out.r9, HTu.out.r15⟩, HTu.out.s7.rp, HTu.out.s7.r7⟩ ?r2gb
          case y2gb =>
            rintro w' hSw
            go_simp
            try with_reducible rfl
          try simp only [Act.put, List.setIfInBounds_toArray, List.set_cons_zero, List.set_cons_succ]
          refine wpAnyH_take (i := 3) (oi := ⟨some 99, _, _, _, _, _⟩) (v := ?v3gb) rfl (by kernel_rfl) (by kernel_rfl) (by kernel_rfl) (fun _ _ _ h => h) (Or.inl ⟨by rfl, ?y3gb⟩) ⟨⟨HTu.out.r9, HTu.out.r15⟩, HTu.out.s7.rp, HTu.out.s7.r7⟩ ?r3gb
          case y3gb =>
            rintro w' hSw
            go_simp
            try with_reducible rfl
          try simp only [Act.put, List.setIfInBounds_toArray, List.set_cons_zero, List.set_cons_succ]
          refine wpAnyH_take (i := 4) (oi := ⟨some 100, _, _, _, _, _⟩) (v := ?v4gb) rfl (by kernel_rfl) (by kernel_rfl) (by kernel_rfl) (fun _ _ _ h => h) (Or.inl ⟨by rfl, ?y4gb⟩) ⟨⟨HTu.out.r9, HTu.out.r15⟩, HTu.out.s7.rp, HTu.out.s7.r7⟩ ?r4gb
          case y4gb =>
            rintro w' hSw
            go_simp
            try with_reducible rfl
          try simp only [Act.put, List.setIfInBounds_toArray, List.set_cons_zero, List.set_cons_succ]
          refine wpAnyH_take (i := 5) (oi := ⟨some 101, _, _, _, _, _⟩) (v := ?v5gb) rfl (by kernel_rfl) (by kernel_rfl) (by kernel_rfl) (fun _ _ _ h => h) (Or.inl ⟨by rfl, ?y5gb⟩) ⟨⟨HTu.out.r9, HTu.out.r15⟩, HTu.out.s7.rp, HTu.out.s7.r7⟩ ?r5gb
          case y5gb =>
            rintro w' hSw
            go_simp
            try with_reducible rfl
          try simp only [Act.put, List.setIfInBounds_toArray, List.set_cons_zero, List.set_cons_succ]
          refine wpAnyH_take (i := 6) (oi := ⟨some 102, _, _, _, _, _⟩) (v := ?v6gb) rfl (by kernel_rfl) (by kernel_rfl) (by kernel_rfl) (fun _ _ _ h => h) (Or.inl ⟨by rfl, ?y6gb⟩) ⟨⟨HTu.out.r9, HTu.out.r15⟩, HTu.out.s7.rp, HTu.out.s7.r7⟩ ?r6gb
          case y6gb =>
            rintro w' hSw
            go_simp
            try with_reducible rfl
          try simp only [Act.put, List.setIfInBounds_toArray, List.set_cons_zero, List.set_cons_succ]
          refine wpAnyH_take (i := 7) (oi := ⟨some 103, _, _, _, _, _⟩) (v := ?v7gb) rfl (by kernel_rfl) (by kernel_rfl) (by kernel_rfl) (fun _ _ _ h => h) (Or.inl ⟨by rfl, ?y7gb⟩) ⟨⟨HTu.out.r9, HTu.out.r15⟩, HTu.out.s7.rp, HTu.out.s7.r7⟩ ?r7gb
          case y7gb =>
            rintro w' hSw
            go_simp
            try with_reducible rfl
          try simp only [Act.put, List.setIfInBounds_toArray, List.set_cons_zero, List.set_cons_succ]
          refine wpAnyH_take (i := 8) (oi := ⟨some 104, _, _, _, _, _⟩) (v := ?v8gb) rfl (by kernel_rfl) (by kernel_rfl) (by kernel_rfl) (fun _ _ _ h => h) (Or.inl ⟨by rfl, ?y8gb⟩) ⟨⟨HTu.out.r9, HTu.out.r15⟩, HTu.out.s7.rp, HTu.out.s7.r7⟩ ?r8gb
          case y8gb =>
            rintro w' hSw
            go_simp
            try with_reducible rfl
          try simp only [Act.put, List.setIfInBounds_toArray, List.set_cons_zero, List.set_cons_succ]
          refine wpAnyH_take (i := 9) (oi := ⟨some 105, _, _, _, _, _⟩) rfl (by kernel_rfl) (by kernel_rfl) (by kernel_rfl) (fun _ _ _ h => h) (yieldsIf_load_mid (by rfl) 28 (.tmp 9) rfl P9 0 ?x9gb (pcs 0 0 s9) _ (fun _ h => Row.all h.1.1) Try.underlying28 rfl page_info) ⟨⟨HTu.out.r9, HTu.out.r15⟩, HTu.out.s7.rp, HTu.out.s7.r7⟩ ?r9gb
          case x9gb => first | rfl | (simp [Act.eval, go_sem]; done)
          try simp only [Act.put, List.setIfInBounds_toArray, List.set_cons_zero, List.set_cons_succ]
          refine wpAnyH_take (i := 10) (oi := ⟨some 106, _, _, _, _, _⟩) rfl (by kernel_rfl) (by kernel_rfl) (by kernel_rfl) (fun _ _ _ h => h) (yieldsIf_load_mid (by rfl) 28 (.tmp 15) rfl P15 0 ?x10gb (pcs 0 0 zs) _ (fun _ h => Row.all h.1.2) Try.underlying28 rfl page_info) ⟨⟨HTu.out.r9, HTu.out.r15⟩, HTu.out.s7.rp, HTu.out.s7.r7⟩ ?r10gb
          case x10gb => first | rfl | (simp [Act.eval, go_sem]; done)
          try simp only [Act.put, List.setIfInBounds_toArray, List.set_cons_zero, List.set_cons_succ]
          refine wpAnyH_ready (rs := [11]) (by kernel_rfl) (by simp) ?_
          refine AllReadyH.cons rfl (fun K hK => ?_) AllReadyH.nil
          go_simp
          refine (rsame_any 0 0 s9 none_ 0 0 zs none_ wu.heap.size wu HQu.out.at_ HTu.out.ow.at_ (Nat.le_refl _)).mono ?_
          rintro e wv ⟨rfl, hbx⟩
          rw [same_self]
          have HTv := Lib.hid (HTu.out.then hbx)
          clear hbx HTu HQu
          refine hK _ _ ⟨⟨HTv.out.r9, HTv.out.r15⟩, HTv.out.s7.rp, HTv.out.s7.r7⟩ (fun _ => ?_)
          clear hK K
          try simp only [Act.put, List.setIfInBounds_toArray, List.set_cons_zero, List.set_cons_succ]
          refine wpAnyH_take (i := 12) (oi := ⟨some 108, _, _, _, _, _⟩) (v := ?v12gb) rfl (by kernel_rfl) (by kernel_rfl) (by kernel_rfl) (fun _ _ _ h => h) (Or.inl ⟨by rfl, ?y12gb⟩) ⟨⟨HTv.out.r9, HTv.out.r15⟩, HTv.out.s7.rp, HTv.out.s7.r7⟩ ?r12gb
          case y12gb =>
            rintro w' hSw
            go_simp
            try with_reducible rfl
          try simp only [Act.put, List.setIfInBounds_toArray, List.set_cons_zero, List.set_cons_succ]
          refine wpAnyH_take (i := 13) (oi := ⟨some 109, _, _, _, _, _⟩) (v := ?v13gb) rfl (by kernel_rfl) (by kernel_rfl) (by kernel_rfl) (fun _ _ _ h => h) (Or.inl ⟨by rfl, ?y13gb⟩) ⟨⟨HTv.out.r9, HTv.out.r15⟩, HTv.out.s7.rp, HTv.out.s7.r7⟩ ?r13gb
          case y13gb =>
            rintro w' hSw
            go_simp
            try with_reducible rfl
          try simp only [Act.put, List.setIfInBounds_toArray, List.set_cons_zero, List.set_cons_succ]
          refine wpAnyH_take (i := 14) (oi := ⟨some 110, _, _, _, _, _⟩) (v := ?v14gb) rfl (by kernel_rfl) (by kernel_rfl) (by kernel_rfl) (fun _ _ _ h => h) (Or.inl ⟨by rfl, ?y14gb⟩) ⟨⟨HTv.out.r9, HTv.out.r15⟩, HTv.out.s7.rp, HTv.out.s7.r7⟩ ?r14gb
          case y14gb =>
            rintro w' hSw
            go_simp
            try with_reducible rfl
          try simp only [Act.put, List.setIfInBounds_toArray, List.set_cons_zero, List.set_cons_succ]
          refine wpAnyH_take (i := 15) (oi := ⟨some 111, _, _, _, _, _⟩) (v := ?v15gb) rfl (by kernel_rfl) (by kernel_rfl) (by kernel_rfl) (fun _ _ _ h => h) (Or.inl ⟨by rfl, ?y15gb⟩) ⟨⟨HTv.out.r9, HTv.out.r15⟩, HTv.out.s7.rp, HTv.out.s7.r7⟩ ?r15gb
          case y15gb =>
            rintro w' hSw
            go_simp
            try with_reducible rfl
          try simp only [Act.put, List.setIfInBounds_toArray, List.set_cons_zero, List.set_cons_succ]
          refine wpAnyH_take (i := 16) (oi := ⟨some 112, _, _, _, _, _⟩) (v := ?v16gb) rfl (by kernel_rfl) (by kernel_rfl) (by kernel_rfl) (fun _ _ _ h => h) (Or.inl ⟨by rfl, ?y16gb⟩) ⟨⟨HTv.out.r9, HTv.out.r15⟩, HTv.out.s7.rp, HTv.out.s7.r7⟩ ?r16gb
          case y16gb =>
            rintro w' hSw
            go_simp
            try with_reducible rfl
          try simp only [Act.put, List.setIfInBounds_toArray, List.set_cons_zero, List.set_cons_succ]
          refine wpAnyH_ready (rs := [17]) (by kernel_rfl) (by simp) ?_
          refine AllReadyH.cons rfl (fun K hK => ?_) AllReadyH.nil
          go_simp
          refine (bytesEq_any Ag (none) ng cg (0) (0) ([] : List UInt8) ([] : List UInt8) wv.heap.size Z wv HTv.out.glen.1 HTv.out.sl.len HTv.out.glen.2 HTv.out.sl.bs).mono ?_
          rintro e wy ⟨rfl, rfl⟩
          rw [show decide (([] : List UInt8) = ([] : List UInt8)) = true by simp]
          refine hK _ _ ⟨⟨HTv.out.r9, HTv.out.r15⟩, HTv.out.s7.rp, HTv.out.s7.r7⟩ (fun _ => ?_)
          clear hK K
          try simp only [Act.put, List.setIfInBounds_toArray, List.set_cons_zero, List.set_cons_succ]
          refine wpAnyH_take (i := 18) (oi := ⟨some 114, _, _, _, _, _⟩) (v := ?v18gb) rfl (by kernel_rfl) (by kernel_rfl) (by kernel_rfl) (fun _ _ _ h => h) (Or.inl ⟨by rfl, ?y18gb⟩) ⟨⟨HTv.out.r9, HTv.out.r15⟩, HTv.out.s7.rp, HTv.out.s7.r7⟩ ?r18gb
          case y18gb =>
            rintro w' hSw
            go_simp
            try with_reducible rfl
          try simp only [Act.put, List.setIfInBounds_toArray, List.set_cons_zero, List.set_cons_succ]
          refine wpAnyH_take (i := 19) (oi := ⟨some 115, _, _, _, _, _⟩) (v := ?v19gb) rfl (by kernel_rfl) (by kernel_rfl) (by kernel_rfl) (fun _ _ _ h => h) (Or.inl ⟨by rfl, ?y19gb⟩) ⟨⟨HTv.out.r9, HTv.out.r15⟩, HTv.out.s7.rp, HTv.out.s7.r7⟩ ?r19gb
          case y19gb =>
            rintro w' hSw
            go_simp
            try with_reducible rfl
          try simp only [Act.put, List.setIfInBounds_toArray, List.set_cons_zero, List.set_cons_succ]
          refine wpAnyH_take (i := 20) (oi := ⟨some 116, _, _, _, _, _⟩) (v := ?v20gb) rfl (by kernel_rfl) (by kernel_rfl) (by kernel_rfl) (fun _ _ _ h => h) (Or.inl ⟨by rfl, ?y20gb⟩) ⟨⟨HTv.out.r9, HTv.out.r15⟩, HTv.out.s7.rp, HTv.out.s7.r7⟩ ?r20gb
          case y20gb =>
            rintro w' hSw
            go_simp
            try with_reducible rfl
          try simp only [Act.put, List.setIfInBounds_toArray, List.set_cons_zero, List.set_cons_succ]
          refine wpAnyH_take (i := 21) (oi := ⟨some 117, _, _, _, _, _⟩) rfl (by kernel_rfl) (by kernel_rfl) (by kernel_rfl) (fun _ _ _ h => h) (yieldsIf_load_mid (by rfl) 28 (.tmp 2) rfl w.heap.size 0 ?x21gb (pcs num lsn s) _ (fun _ h => Row.all h.2.1) Try.underlying28 rfl page_info) ⟨⟨HTv.out.r9, HTv.out.r15⟩, HTv.out.s7.rp, HTv.out.s7.r7⟩ ?r21gb
          case x21gb => first | rfl | (simp [Act.eval, go_sem]; done)
          try simp only [Act.put, List.setIfInBounds_toArray, List.set_cons_zero, List.set_cons_succ]
          refine wpAnyH_take (i := 23) (oi := ⟨some 119, _, _, _, _, _⟩) rfl (by kernel_rfl) (by kernel_rfl) (by kernel_rfl) (fun _ _ _ h => h) (yieldsIf_load_mid (by rfl) 28 (.tmp 7) rfl P7 0 ?x23gb (pcs num lsn s7) _ (fun _ h => Row.all h.2.2) Try.underlying28 rfl page_info) ⟨⟨HTv.out.r9, HTv.out.r15⟩, HTv.out.s7.rp, HTv.out.s7.r7⟩ ?r23gb
          case x23gb => first | rfl | (simp [Act.eval, go_sem]; done)
          try simp only [Act.put, List.setIfInBounds_toArray, List.set_cons_zero, List.set_cons_succ]
          refine wpAnyH_ready (rs := [22]) (by kernel_rfl) (by simp) ?_
          refine AllReadyH.cons rfl (fun K hK => ?_) AllReadyH.nil
          go_simp
          refine (free_any num lsn s wv).mono ?_
          rintro e wz ⟨rfl, hbx⟩
          rw [free_eq HTv.out.s7.pp HTv.out.s7.p7]
          have HTz := Lib.hid (HTv.out.then hbx)
          clear hbx HTv
          refine hK _ _ ⟨⟨HTz.out.r9, HTz.out.r15⟩, HTz.out.s7.rp, HTz.out.s7.r7⟩ (fun _ => ?_)
          clear hK K
          try simp only [Act.put, List.setIfInBounds_toArray, List.set_cons_zero, List.set_cons_succ]
          refine wpAnyH_ready (rs := [24]) (by kernel_rfl) (by simp) ?_
          refine AllReadyH.cons rfl (fun K hK => ?_) AllReadyH.nil
          go_simp
          refine (lawfree_any num lsn s7 wz).mono ?_
          rintro e wq ⟨rfl, hbx⟩
          generalize freeN (okN num s7.n) s7.n = FV
          have hfv : (FV != FV) = false := by simp
          have HTq := Lib.hid (HTz.out.then hbx)
          clear hbx HTz
          refine hK _ _ ⟨⟨HTq.out.r9, HTq.out.r15⟩, HTq.out.s7.rp, HTq.out.s7.r7⟩ (fun _ => ?_)
          clear hK K
          try simp only [Act.put, List.setIfInBounds_toArray, List.set_cons_zero, List.set_cons_succ]
          refine wpAnyH_take (i := 25) (oi := ⟨some 121, _, _, _, _, _⟩) (v := ?v25gb) rfl (by kernel_rfl) (by kernel_rfl) (by kernel_rfl) (fun _ _ _ h => h) (Or.inl ⟨by rfl, ?y25gb⟩) ⟨⟨HTq.out.r9, HTq.out.r15⟩, HTq.out.s7.rp, HTq.out.s7.r7⟩ ?r25gb
          case y25gb =>
            rintro w' hSw
            go_simp
            try with_reducible rfl
          try simp only [Act.put, List.setIfInBounds_toArray, List.set_cons_zero, List.set_cons_succ]
          refine wpAnyH_take (i := 26) (oi := ⟨some 122, _, _, _, _, _⟩) (v := ?v26gb) rfl (by kernel_rfl) (by kernel_rfl) (by kernel_rfl) (fun _ _ _ h => h) (Or.inl ⟨by rfl, ?y26gb⟩) ⟨⟨HTq.out.r9, HTq.out.r15⟩, HTq.out.s7.rp, HTq.out.s7.r7⟩ ?r26gb
          case y26gb =>
            rintro w' hSw
            go_simp
            try with_reducible rfl
          try simp only [Act.put, List.setIfInBounds_toArray, List.set_cons_zero, List.set_cons_succ]
          refine wpAnyH_done (by kernel_rfl) ?_ _
          clear hfv
          have ha0 : wq.cell? ⟨P9, 0, none⟩ = some (.int .i64 0) := HTq.out.r9.cell 0
          have ha1 : wq.cell? ⟨P9, 1, none⟩ = some (.int .u64 0) := HTq.out.r9.cell 1
          have ha2 : wq.cell? ⟨P9, 2, none⟩ = some (.slice (s9.A 0) (s9.n 0) (s9.c 0)) := HTq.out.r9.cell 2
          have ha3 : wq.cell? ⟨P9, 3, none⟩ = some (.slice (s9.A 1) (s9.n 1) (s9.c 1)) := HTq.out.r9.cell 3
          have ha4 : wq.cell? ⟨P9, 4, none⟩ = some (.slice (s9.A 2) (s9.n 2) (s9.c 2)) := HTq.out.r9.cell 4
          have ha5 : wq.cell? ⟨P9, 5, none⟩ = some (.slice (s9.A 3) (s9.n 3) (s9.c 3)) := HTq.out.r9.cell 5
          have HNB : Hid (bb.length = nb) := HTq.out.blen
          have HNG : Hid ((([] : List UInt8)).length = ng) := HTq.out.glen.1
          have HSP := Lib.hid (spoil_keep (fun W => Some_ W Z U Ag ng cg ∧ Some_ W Z U Ab nb cb) 0 0 s9 Z U wq HTq.out.os HTq.out.us HM9.out (fun W hW => ⟨⟨⟨([] : List UInt8), HNG.out, HTq.out.og.below hW⟩, HGU.out⟩, ⟨⟨bb, HNB.out, HTq.out.ob.below hW⟩, HBU.out⟩⟩) (fun W g i y hy h => ⟨h.1.set g i y hy, h.2.set g i y hy⟩))
          unfold pcs at HSP
          go_wp2_with fail
          refine HSP.out.mono ?_
          rintro e w20 ⟨rfl, hout, hsome⟩
          have HOUT := Lib.hid hout
          have HXI : Hid (Some_ w20 Z U Ag ng cg ∧ Some_ w20 Z U Ab nb cb ∧ Out Z U w20 w20) := ⟨hsome.1, hsome.2, Out.refl _ _ _⟩
          clear HSP hout hsome ha0 ha1 ha2 ha3 ha4 ha5
          go_wp2_with fail
          go_loopw [127] (fun t wr => ∃ j : Nat, j ≤ ng ∧ t = .int .i64 (j : Int) ∧ Hid (Some_ wr Z U Ag ng cg ∧ Some_ wr Z U Ab nb cb ∧ Out Z U w20 wr)) (fun t _ => ng - (intOf t).toNat)
          case atStart => exact ⟨0, by omega, rfl, HXI⟩
          case round =>
            obtain ⟨j, hj, rfl, HJ⟩ := hrel
            clear HXI

            by_cases hjl : j < ng
            · have hj1 : (j : Int) < (ng : Int) := by omega
              have hj0 : 0 ≤ (j : Int) := by omega
              have hjn : (ng : Int) ≤ 100000 := by omega
              obtain ⟨⟨l', hl', ho'⟩, hk'⟩ := HJ.out.1
              obtain ⟨G, u, hA, hGb, hcl, hfr⟩ := own_cell ho' j hjl
              obtain ⟨y, hy, hxy⟩ := xor_nat u
              have hN : Hid (Some_ (wr.setCell ⟨G, j, none⟩ (.int .u8 (y : Int))) Z U Ag ng cg ∧ Some_ (wr.setCell ⟨G, j, none⟩ (.int .u8 (y : Int))) Z U Ab nb cb ∧ Out Z U w20 (wr.setCell ⟨G, j, none⟩ (.int .u8 (y : Int)))) := ⟨HJ.out.1.set G j y hy, HJ.out.2.1.set G j y hy, HJ.out.2.2.trans (Out.set wr j _ hGb (hk' G (by rw [hA]; rfl)))⟩
              have HAA := Lib.hid hA
              clear hl' ho' hA hk' HJ
              rw [HAA.out]

              go_upto_region 32 with fail

              generalize wr.setCell ⟨G, j, none⟩ (.int .u8 (y : Int)) = w3 at hN ⊢
              have HN := Lib.hid hN.out
              clear hN hcl hfr hxy

              go_wp2
              go_roundw
              case rel => exact ⟨j + 1, by omega, by go_num, by rw [← HAA.out]; exact HN⟩
              case measure => simp [intOf]; omega
            · have hj1 : ¬ (j : Int) < (ng : Int) := by omega
              obtain ⟨wl, hwl⟩ : ∃ wl : World, wl = wr := ⟨_, rfl⟩
              subst hwl
              have HXI := Lib.hid HJ.out
              clear HJ hj1
              go_wp2_with fail
              go_loopw [139] (fun t wr => ∃ j : Nat, j ≤ nb ∧ t = .int .i64 (j : Int) ∧ Hid (Some_ wr Z U Ag ng cg ∧ Some_ wr Z U Ab nb cb ∧ Out Z U w20 wr)) (fun t _ => nb - (intOf t).toNat)
              case atStart => exact ⟨0, by omega, rfl, HXI⟩
              case round =>
                obtain ⟨j, hj, rfl, HJ⟩ := hrel
                clear HXI

                by_cases hjl : j < nb
                · have hj1 : (j : Int) < (nb : Int) := by omega
                  have hj0 : 0 ≤ (j : Int) := by omega
                  have hjn : (nb : Int) ≤ 100000 := by omega
                  obtain ⟨⟨l', hl', ho'⟩, hk'⟩ := HJ.out.2.1
                  obtain ⟨G, u, hA, hGb, hcl, hfr⟩ := own_cell ho' j hjl
                  obtain ⟨y, hy, hxy⟩ := xor_nat u
                  have hN : Hid (Some_ (wr.setCell ⟨G, j, none⟩ (.int .u8 (y : Int))) Z U Ag ng cg ∧ Some_ (wr.setCell ⟨G, j, none⟩ (.int .u8 (y : Int))) Z U Ab nb cb ∧ Out Z U w20 (wr.setCell ⟨G, j, none⟩ (.int .u8 (y : Int)))) := ⟨HJ.out.1.set G j y hy, HJ.out.2.1.set G j y hy, HJ.out.2.2.trans (Out.set wr j _ hGb (hk' G (by rw [hA]; rfl)))⟩
                  have HAA := Lib.hid hA
                  clear hl' ho' hA hk' HJ
                  rw [HAA.out]

                  go_upto_region 37 with fail

                  generalize wr.setCell ⟨G, j, none⟩ (.int .u8 (y : Int)) = w3 at hN ⊢
                  have HN := Lib.hid hN.out
                  clear hN hcl hfr hxy

                  go_wp2
                  go_roundw
                  case rel => exact ⟨j + 1, by omega, by go_num, by rw [← HAA.out]; exact HN⟩
                  case measure => simp [intOf]; omega
                · have hj1 : ¬ (j : Int) < (nb : Int) := by omega
                  clear hj1
                  have HZZ : Hid (Out Z U wq wr) := HOUT.out.trans HJ.out.2.2
                  have HSZ := Lib.hid (HTq.out.s7.then (HZZ.out.below HTq.out.s7.le))
                  have HWZ := Lib.hid (Pg.Row.out HTq.out.r15 HZZ.out (.inr hP15))
                  have HOZ := Lib.hid (HTq.out.ow.out HZZ.out (Nat.le_refl _))
                  have HUZ : Hid (U ≤ wr.heap.size) := Nat.le_trans HTq.out.us HZZ.out.size
                  clear HZZ HJ HOUT HTq
                  have hb0 : wr.cell? ⟨w.heap.size, 0, none⟩ = some (.int .i64 num) := HSZ.out.rp.cell 0
                  have hb1 : wr.cell? ⟨w.heap.size, 1, none⟩ = some (.int .u64 (lsn : Int)) := HSZ.out.rp.cell 1
                  have hb2 : wr.cell? ⟨w.heap.size, 2, none⟩ = some (.slice (s.A 0) (s.n 0) (s.c 0)) := HSZ.out.rp.cell 2
                  have hb3 : wr.cell? ⟨w.heap.size, 3, none⟩ = some (.slice (s.A 1) (s.n 1) (s.c 1)) := HSZ.out.rp.cell 3
                  have hb4 : wr.cell? ⟨w.heap.size, 4, none⟩ = some (.slice (s.A 2) (s.n 2) (s.c 2)) := HSZ.out.rp.cell 4
                  have hb5 : wr.cell? ⟨w.heap.size, 5, none⟩ = some (.slice (s.A 3) (s.n 3) (s.c 3)) := HSZ.out.rp.cell 5
                  have hc0 : wr.cell? ⟨P7, 0, none⟩ = some (.int .i64 num) := HSZ.out.r7.cell 0
                  have hc1 : wr.cell? ⟨P7, 1, none⟩ = some (.int .u64 (lsn : Int)) := HSZ.out.r7.cell 1
                  have hc2 : wr.cell? ⟨P7, 2, none⟩ = some (.slice (s7.A 0) (s7.n 0) (s7.c 0)) := HSZ.out.r7.cell 2
                  have hc3 : wr.cell? ⟨P7, 3, none⟩ = some (.slice (s7.A 1) (s7.n 1) (s7.c 1)) := HSZ.out.r7.cell 3
                  have hc4 : wr.cell? ⟨P7, 4, none⟩ = some (.slice (s7.A 2) (s7.n 2) (s7.c 2)) := HSZ.out.r7.cell 4
                  have hc5 : wr.cell? ⟨P7, 5, none⟩ = some (.slice (s7.A 3) (s7.n 3) (s7.c 3)) := HSZ.out.r7.cell 5
                  have HSM := Lib.hid (rsame_any num lsn s f num lsn s7 f Z wr HSZ.out.pp HSZ.out.p7 HSZ.out.le)
                  rw [same_self] at HSM
                  unfold pcs at HSM
                  go_wp2_with fail
                  refine HSM.out.mono ?_
                  rintro e wz ⟨rfl, hbz⟩
                  have HSE := Lib.hid (HSZ.out.then (hbz.mono HSZ.out.le))
                  have HWE := Lib.hid (HWZ.out.below hbz HWZ.out.lt)
                  have HOE := Lib.hid (HOZ.out.below hbz)
                  clear HSM hbz HSZ HWZ HOZ hb0 hb1 hb2 hb3 hb4 hb5 hc0 hc1 hc2 hc3 hc4 hc5
                  go_wp2
                  go_roundw
                  case rel => exact ⟨i + 1, by omega, by go_num, rfl, ⟨lsn, f, s, HSE.out.rp, HSE.out.pp.more HSE.out.le, HF53.out, HSE.out.hb⟩⟩
                  case measure => simp [intOf]; omega

        · have hge : 4 ≤ slot := by omega
          clear hsl
          have HONE : Hid (∀ v ∈ pcs 0 0 zs, v.oneCell' = true) := pcs_one
          have HPI : Hid ((Try.prog.info? 28).map (·.size) = some (pcs 0 0 zs).length) := page_info
          have HLQ : Hid ((pcs 0 0 zs).length = (pcs num lsn s13).length) := (rfl : _ = _)
          go_upto_region 25 with ((with_reducible refine wpList_store_whole (op := ⟨none, _, _, _, _, _⟩) ?_ 28 (.tmp 15) (.tmp 95) ?_ P15 (pcs 0 0 zs) ?_ ?_ 28 (pcs num lsn s13) HWR15.out HLQ.out HONE.out HPI.out ?_))
          all_goals try (first | rfl | (simp; done))
          intro wt hr hg
          have HRGt := Lib.hid (HRG.out.put HWR15.out hg hP15 HZU.out)
          have HT := Lib.hid (HRGt.out.ts hr (PO.nil _ _) (Sl.nil_ _ _) (As := none) (ns := 0) (cs := 0))
          have HQ : Hid (PO wt Z none_ s9) := HRGt.out.q
          clear hr hg HRGt HRG HWR15 HWO15 hx0 hneg hge HONE HPI HLQ
          go_upto_region 25 with fail
          refine wp_region_held_drew (S := fun w' => (Row w' P9 28 (pcs 0 0 s9) ∧ Row w' P15 28 (pcs 0 0 zs)) ∧ Row w' w.heap.size 28 (pcs num lsn s) ∧ Row w' P7 28 (pcs num lsn s7)) (by kernel_rfl) ⟨⟨HT.out.r9, HT.out.r15⟩, HT.out.s7.rp, HT.out.s7.r7⟩ (fun hHeld => ?_)
          have HTu := Lib.hid (HT.out.then (below_still (Below.refl _ _) ⟨1, rfl⟩ : Below wt.heap.size wt wt.drew))
          have HQu := Lib.hid (HQ.out.below (below_still (Below.refl _ _) ⟨1, rfl⟩ : Below wt.heap.size wt wt.drew))
          clear HT HQ
          generalize wt.drew = wu at *
          refine wpAnyH_take (i := 0) (oi := ⟨some 96, _, _, _, _, _⟩) (v := ?v0gc) rfl (by kernel_rfl) (by kernel_rfl) (by kernel_rfl) (fun _ _ _ h => h) (Or.inl ⟨by rfl, ?y0gc⟩) ⟨⟨HTu.out.r9, HTu.out.r15⟩, HTu.out.s7.rp, HTu.out.s7.r7⟩ ?r0gc
          case y0gc =>
            rintro w' hSw
            go_simp
            try with_reducible rfl
          try simp only [Act.put, List.setIfInBounds_toArray, List.set_cons_zero, List.set_cons_succ]
          refine wpAnyH_take (i := 1) (oi := ⟨some 97, _, _, _, _, _⟩) (v := ?v1gc) rfl (by kernel_rfl) (by kernel_rfl) (by kernel_rfl) (fun _ _ _ h => h) (Or.inl ⟨by rfl, ?y1gc⟩) ⟨⟨HTu.out.r9, HTu.out.r15⟩, HTu.out.s7.rp, HTu.out.s7.r7⟩ ?r1gc
          case y1gc =>
            rintro w' hSw
            go_simp
            try with_reducible rfl
          try simp only [Act.put, List.setIfInBounds_toArray, List.set_cons_zero, List.set_cons_succ]
          refine wpAnyH_take (i := 2) (oi := ⟨some 98, _, _, _, _, _⟩) (v := ?v2gc) rfl (by kernel_rfl) (by kernel_rfl) (by kernel_rfl) (fun _ _ _ h => h) (Or.inl ⟨by rfl, ?y2gc⟩) ⟨⟨HTu.out.r9, HTu.out.r15⟩, HTu.out.s7.rp, HTu.out.s7.r7⟩ ?r2gc
          case y2gc =>
            rintro w' hSw
            go_simp
            try with_reducible rfl
          try simp only [Act.put, List.setIfInBounds_toArray, List.set_cons_zero, List.set_cons_succ]
          refine wpAnyH_take (i := 3) (oi := ⟨some 99, _, _, _, _, _⟩) (v := ?v3gc) rfl (by kernel_rfl) (by kernel_rfl) (by kernel_rfl) (fun _ _ _ h => h) (Or.inl ⟨by rfl, ?y3gc⟩) ⟨⟨HTu.out.r9, HTu.out.r15⟩, HTu.out.s7.rp, HTu.out.s7.r7⟩ ?r3gc
          case y3gc =>
            rintro w' hSw
            go_simp
            try with_reducible rfl
          try simp only [Act.put, List.setIfInBounds_toArray, List.set_cons_zero, List.set_cons_succ]
          refine wpAnyH_take (i := 4) (oi := ⟨some 100, _, _, _, _, _⟩) (v := ?v4gc) rfl (by kernel_rfl) (by kernel_rfl) (by kernel_rfl) (fun _ _ _ h => h) (Or.inl ⟨by rfl, ?y4gc⟩) ⟨⟨HTu.out.r9, HTu.out.r15⟩, HTu.out.s7.rp, HTu.out.s7.r7⟩ ?r4gc
          case y4gc =>
            rintro w' hSw
            go_simp
            try with_reducible rfl
          try simp only [Act.put, List.setIfInBounds_toArray, List.set_cons_zero, List.set_cons_succ]
          refine wpAnyH_take (i := 5) (oi := ⟨some 101, _, _, _, _, _⟩) (v := ?v5gc) rfl (by kernel_rfl) (by kernel_rfl) (by kernel_rfl) (fun _ _ _ h => h) (Or.inl ⟨by rfl, ?y5gc⟩) ⟨⟨HTu.out.r9, HTu.out.r15⟩, HTu.out.s7.rp, HTu.out.s7.r7⟩ ?r5gc
          case y5gc =>
            rintro w' hSw
            go_simp
            try with_reducible rfl
          try simp only [Act.put, List.setIfInBounds_toArray, List.set_cons_zero, List.set_cons_succ]
          refine wpAnyH_take (i := 6) (oi := ⟨some 102, _, _, _, _, _⟩) (v := ?v6gc) rfl (by kernel_rfl) (by kernel_rfl) (by kernel_rfl) (fun _ _ _ h => h) (Or.inl ⟨by rfl, ?y6gc⟩) ⟨⟨HTu.out.r9, HTu.out.r15⟩, HTu.out.s7.rp, HTu.out.s7.r7⟩ ?r6gc
          case y6gc =>
            rintro w' hSw
            go_simp
            try with_reducible rfl
          try simp only [Act.put, List.setIfInBounds_toArray, List.set_cons_zero, List.set_cons_succ]
          refine wpAnyH_take (i := 7) (oi := ⟨some 103, _, _, _, _, _⟩) (v := ?v7gc) rfl (by kernel_rfl) (by kernel_rfl) (by kernel_rfl) (fun _ _ _ h => h) (Or.inl ⟨by rfl, ?y7gc⟩) ⟨⟨HTu.out.r9, HTu.out.r15⟩, HTu.out.s7.rp, HTu.out.s7.r7⟩ ?r7gc
          case y7gc =>
            rintro w' hSw
            go_simp
            try with_reducible rfl
          try simp only [Act.put, List.setIfInBounds_toArray, List.set_cons_zero, List.set_cons_succ]
          refine wpAnyH_take (i := 8) (oi := ⟨some 104, _, _, _, _, _⟩) (v := ?v8gc) rfl (by kernel_rfl) (by kernel_rfl) (by kernel_rfl) (fun _ _ _ h => h) (Or.inl ⟨by rfl, ?y8gc⟩) ⟨⟨HTu.out.r9, HTu.out.r15⟩, HTu.out.s7.rp, HTu.out.s7.r7⟩ ?r8gc
          case y8gc =>
            rintro w' hSw
            go_simp
            try with_reducible rfl
          try simp only [Act.put, List.setIfInBounds_toArray, List.set_cons_zero, List.set_cons_succ]
          refine wpAnyH_take (i := 9) (oi := ⟨some 105, _, _, _, _, _⟩) rfl (by kernel_rfl) (by kernel_rfl) (by kernel_rfl) (fun _ _ _ h => h) (yieldsIf_load_mid (by rfl) 28 (.tmp 9) rfl P9 0 ?x9gc (pcs 0 0 s9) _ (fun _ h => Row.all h.1.1) Try.underlying28 rfl page_info) ⟨⟨HTu.out.r9, HTu.out.r15⟩, HTu.out.s7.rp, HTu.out.s7.r7⟩ ?r9gc
          case x9gc => first | rfl | (simp [Act.eval, go_sem]; done)
          try simp only [Act.put, List.setIfInBounds_toArray, List.set_cons_zero, List.set_cons_succ]
          refine wpAnyH_take (i := 10) (oi := ⟨some 106, _, _, _, _, _⟩) rfl (by kernel_rfl) (by kernel_rfl) (by kernel_rfl) (fun _ _ _ h => h) (yieldsIf_load_mid (by rfl) 28 (.tmp 15) rfl P15 0 ?x10gc (pcs 0 0 zs) _ (fun _ h => Row.all h.1.2) Try.underlying28 rfl page_info) ⟨⟨HTu.out.r9, HTu.out.r15⟩, HTu.out.s7.rp, HTu.out.s7.r7⟩ ?r10gc
          case x10gc => first | rfl | (simp [Act.eval, go_sem]; done)
          try simp only [Act.put, List.setIfInBounds_toArray, List.set_cons_zero, List.set_cons_succ]
          refine wpAnyH_ready (rs := [11]) (by kernel_rfl) (by simp) ?_
          refine AllReadyH.cons rfl (fun K hK => ?_) AllReadyH.nil
          go_simp
          refine (rsame_any 0 0 s9 none_ 0 0 zs none_ wu.heap.size wu HQu.out.at_ HTu.out.ow.at_ (Nat.le_refl _)).mono ?_
          rintro e wv ⟨rfl, hbx⟩
          rw [same_self]
          have HTv := Lib.hid (HTu.out.then hbx)
          clear hbx HTu HQu
          refine hK _ _ ⟨⟨HTv.out.r9, HTv.out.r15⟩, HTv.out.s7.rp, HTv.out.s7.r7⟩ (fun _ => ?_)
          clear hK K
          try simp only [Act.put, List.setIfInBounds_toArray, List.set_cons_zero, List.set_cons_succ]
          refine wpAnyH_take (i := 12) (oi := ⟨some 108, _, _, _, _, _⟩) (v := ?v12gc) rfl (by kernel_rfl) (by kernel_rfl) (by kernel_rfl) (fun _ _ _ h => h) (Or.inl ⟨by rfl, ?y12gc⟩) ⟨⟨HTv.out.r9, HTv.out.r15⟩, HTv.out.s7.rp, HTv.out.s7.r7⟩ ?r12gc
          case y12gc =>
            rintro w' hSw
            go_simp
            try with_reducible rfl
          try simp only [Act.put, List.setIfInBounds_toArray, List.set_cons_zero, List.set_cons_succ]
          refine wpAnyH_take (i := 13) (oi := ⟨some 109, _, _, _, _, _⟩) (v := ?v13gc) rfl (by kernel_rfl) (by kernel_rfl) (by kernel_rfl) (fun _ _ _ h => h) (Or.inl ⟨by rfl, ?y13gc⟩) ⟨⟨HTv.out.r9, HTv.out.r15⟩, HTv.out.s7.rp, HTv.out.s7.r7⟩ ?r13gc
          case y13gc =>
            rintro w' hSw
            go_simp
            try with_reducible rfl
          try simp only [Act.put, List.setIfInBounds_toArray, List.set_cons_zero, List.set_cons_succ]
          refine wpAnyH_take (i := 14) (oi := ⟨some 110, _, _, _, _, _⟩) (v := ?v14gc) rfl (by kernel_rfl) (by kernel_rfl) (by kernel_rfl) (fun _ _ _ h => h) (Or.inl ⟨by rfl, ?y14gc⟩) ⟨⟨HTv.out.r9, HTv.out.r15⟩, HTv.out.s7.rp, HTv.out.s7.r7⟩ ?r14gc
          case y14gc =>
            rintro w' hSw
            go_simp
            try with_reducible rfl
          try simp only [Act.put, List.setIfInBounds_toArray, List.set_cons_zero, List.set_cons_succ]
          refine wpAnyH_take (i := 15) (oi := ⟨some 111, _, _, _, _, _⟩) (v := ?v15gc) rfl (by kernel_rfl) (by kernel_rfl) (by kernel_rfl) (fun _ _ _ h => h) (Or.inl ⟨by rfl, ?y15gc⟩) ⟨⟨HTv.out.r9, HTv.out.r15⟩, HTv.out.s7.rp, HTv.out.s7.r7⟩ ?r15gc
          case y15gc =>
            rintro w' hSw
            go_simp
            try with_reducible rfl
          try simp only [Act.put, List.setIfInBounds_toArray, List.set_cons_zero, List.set_cons_succ]
          refine wpAnyH_take (i := 16) (oi := ⟨some 112, _, _, _, _, _⟩) (v := ?v16gc) rfl (by kernel_rfl) (by kernel_rfl) (by kernel_rfl) (fun _ _ _ h => h) (Or.inl ⟨by rfl, ?y16gc⟩) ⟨⟨HTv.out.r9, HTv.out.r15⟩, HTv.out.s7.rp, HTv.out.s7.r7⟩ ?r16gc
          case y16gc =>
            rintro w' hSw
            go_simp
            try with_reducible rfl
          try simp only [Act.put, List.setIfInBounds_toArray, List.set_cons_zero, List.set_cons_succ]
          refine wpAnyH_ready (rs := [17]) (by kernel_rfl) (by simp) ?_
          refine AllReadyH.cons rfl (fun K hK => ?_) AllReadyH.nil
          go_simp
          refine (bytesEq_any Ag (none) ng cg (0) (0) ([] : List UInt8) ([] : List UInt8) wv.heap.size Z wv HTv.out.glen.1 HTv.out.sl.len HTv.out.glen.2 HTv.out.sl.bs).mono ?_
          rintro e wy ⟨rfl, rfl⟩
          rw [show decide (([] : List UInt8) = ([] : List UInt8)) = true by simp]
          refine hK _ _ ⟨⟨HTv.out.r9, HTv.out.r15⟩, HTv.out.s7.rp, HTv.out.s7.r7⟩ (fun _ => ?_)
          clear hK K
          try simp only [Act.put, List.setIfInBounds_toArray, List.set_cons_zero, List.set_cons_succ]
          refine wpAnyH_take (i := 18) (oi := ⟨some 114, _, _, _, _, _⟩) (v := ?v18gc) rfl (by kernel_rfl) (by kernel_rfl) (by kernel_rfl) (fun _ _ _ h => h) (Or.inl ⟨by rfl, ?y18gc⟩) ⟨⟨HTv.out.r9, HTv.out.r15⟩, HTv.out.s7.rp, HTv.out.s7.r7⟩ ?r18gc
          case y18gc =>
            rintro w' hSw
            go_simp
            try with_reducible rfl
          try simp only [Act.put, List.setIfInBounds_toArray, List.set_cons_zero, List.set_cons_succ]
          refine wpAnyH_take (i := 19) (oi := ⟨some 115, _, _, _, _, _⟩) (v := ?v19gc) rfl (by kernel_rfl) (by kernel_rfl) (by kernel_rfl) (fun _ _ _ h => h) (Or.inl ⟨by rfl, ?y19gc⟩) ⟨⟨HTv.out.r9, HTv.out.r15⟩, HTv.out.s7.rp, HTv.out.s7.r7⟩ ?r19gc
          case y19gc =>
            rintro w' hSw
            go_simp
            try with_reducible rfl
          try simp only [Act.put, List.setIfInBounds_toArray, List.set_cons_zero, List.set_cons_succ]
          refine wpAnyH_take (i := 20) (oi := ⟨some 116, _, _, _, _, _⟩) (v := ?v20gc) rfl (by kernel_rfl) (by kernel_rfl) (by kernel_rfl) (fun _ _ _ h => h) (Or.inl ⟨by rfl, ?y20gc⟩) ⟨⟨HTv.out.r9, HTv.out.r15⟩, HTv.out.s7.rp, HTv.out.s7.r7⟩ ?r20gc
          case y20gc =>
            rintro w' hSw
            go_simp
            try with_reducible rfl
          try simp only [Act.put, List.setIfInBounds_toArray, List.set_cons_zero, List.set_cons_succ]
          refine wpAnyH_take (i := 21) (oi := ⟨some 117, _, _, _, _, _⟩) rfl (by kernel_rfl) (by kernel_rfl) (by kernel_rfl) (fun _ _ _ h => h) (yieldsIf_load_mid (by rfl) 28 (.tmp 2) rfl w.heap.size 0 ?x21gc (pcs num lsn s) _ (fun _ h => Row.all h.2.1) Try.underlying28 rfl page_info) ⟨⟨HTv.out.r9, HTv.out.r15⟩, HTv.out.s7.rp, HTv.out.s7.r7⟩ ?r21gc
          case x21gc => first | rfl | (simp [Act.eval, go_sem]; done)
          try simp only [Act.put, List.setIfInBounds_toArray, List.set_cons_zero, List.set_cons_succ]
          refine wpAnyH_take (i := 23) (oi := ⟨some 119, _, _, _, _, _⟩) rfl (by kernel_rfl) (by kernel_rfl) (by kernel_rfl) (fun _ _ _ h => h) (yieldsIf_load_mid (by rfl) 28 (.tmp 7) rfl P7 0 ?x23gc (pcs num lsn s7) _ (fun _ h => Row.all h.2.2) Try.underlying28 rfl page_info) ⟨⟨HTv.out.r9, HTv.out.r15⟩, HTv.out.s7.rp, HTv.out.s7.r7⟩ ?r23gc
          case x23gc => first | rfl | (simp [Act.eval, go_sem]; done)
          try simp only [Act.put, List.setIfInBounds_toArray, List.set_cons_zero, List.set_cons_succ]
          refine wpAnyH_ready (rs := [22]) (by kernel_rfl) (by simp) ?_
          refine AllReadyH.cons rfl (fun K hK => ?_) AllReadyH.nil
          go_simp
          refine (free_any num lsn s wv).mono ?_
          rintro e wz ⟨rfl, hbx⟩
          rw [free_eq HTv.out.s7.pp HTv.out.s7.p7]
          have HTz := Lib.hid (HTv.out.then hbx)
          clear hbx HTv
          refine hK _ _ ⟨⟨HTz.out.r9, HTz.out.r15⟩, HTz.out.s7.rp, HTz.out.s7.r7⟩ (fun _ => ?_)
          clear hK K
          try simp only [Act.put, List.setIfInBounds_toArray, List.set_cons_zero, List.set_cons_succ]
          refine wpAnyH_ready (rs := [24]) (by kernel_rfl) (by simp) ?_
          refine AllReadyH.cons rfl (fun K hK => ?_) AllReadyH.nil
          go_simp
          refine (lawfree_any num lsn s7 wz).mono ?_
          rintro e wq ⟨rfl, hbx⟩
          generalize freeN (okN num s7.n) s7.n = FV
          have hfv : (FV != FV) = false := by simp
          have HTq := Lib.hid (HTz.out.then hbx)
          clear hbx HTz
          refine hK _ _ ⟨⟨HTq.out.r9, HTq.out.r15⟩, HTq.out.s7.rp, HTq.out.s7.r7⟩ (fun _ => ?_)
          clear hK K
          try simp only [Act.put, List.setIfInBounds_toArray, List.set_cons_zero, List.set_cons_succ]
          refine wpAnyH_take (i := 25) (oi := ⟨some 121, _, _, _, _, _⟩) (v := ?v25gc) rfl (by kernel_rfl) (by kernel_rfl) (by kernel_rfl) (fun _ _ _ h => h) (Or.inl ⟨by rfl, ?y25gc⟩) ⟨⟨HTq.out.r9, HTq.out.r15⟩, HTq.out.s7.rp, HTq.out.s7.r7⟩ ?r25gc
          case y25gc =>
            rintro w' hSw
            go_simp
            try with_reducible rfl
          try simp only [Act.put, List.setIfInBounds_toArray, List.set_cons_zero, List.set_cons_succ]
          refine wpAnyH_take (i := 26) (oi := ⟨some 122, _, _, _, _, _⟩) (v := ?v26gc) rfl (by kernel_rfl) (by kernel_rfl) (by kernel_rfl) (fun _ _ _ h => h) (Or.inl ⟨by rfl, ?y26gc⟩) ⟨⟨HTq.out.r9, HTq.out.r15⟩, HTq.out.s7.rp, HTq.out.s7.r7⟩ ?r26gc
          case y26gc =>
            rintro w' hSw
            go_simp
            try with_reducible rfl
          try simp only [Act.put, List.setIfInBounds_toArray, List.set_cons_zero, List.set_cons_succ]
          refine wpAnyH_done (by kernel_rfl) ?_ _
          clear hfv
          have ha0 : wq.cell? ⟨P9, 0, none⟩ = some (.int .i64 0) := HTq.out.r9.cell 0
          have ha1 : wq.cell? ⟨P9, 1, none⟩ = some (.int .u64 0) := HTq.out.r9.cell 1
          have ha2 : wq.cell? ⟨P9, 2, none⟩ = some (.slice (s9.A 0) (s9.n 0) (s9.c 0)) := HTq.out.r9.cell 2
          have ha3 : wq.cell? ⟨P9, 3, none⟩ = some (.slice (s9.A 1) (s9.n 1) (s9.c 1)) := HTq.out.r9.cell 3
          have ha4 : wq.cell? ⟨P9, 4, none⟩ = some (.slice (s9.A 2) (s9.n 2) (s9.c 2)) := HTq.out.r9.cell 4
          have ha5 : wq.cell? ⟨P9, 5, none⟩ = some (.slice (s9.A 3) (s9.n 3) (s9.c 3)) := HTq.out.r9.cell 5
          have HNB : Hid (bb.length = nb) := HTq.out.blen
          have HNG : Hid ((([] : List UInt8)).length = ng) := HTq.out.glen.1
          have HSP := Lib.hid (spoil_keep (fun W => Some_ W Z U Ag ng cg ∧ Some_ W Z U Ab nb cb) 0 0 s9 Z U wq HTq.out.os HTq.out.us HM9.out (fun W hW => ⟨⟨⟨([] : List UInt8), HNG.out, HTq.out.og.below hW⟩, HGU.out⟩, ⟨⟨bb, HNB.out, HTq.out.ob.below hW⟩, HBU.out⟩⟩) (fun W g i y hy h => ⟨h.1.set g i y hy, h.2.set g i y hy⟩))
          unfold pcs at HSP
          go_wp2_with fail
          refine HSP.out.mono ?_
          rintro e w20 ⟨rfl, hout, hsome⟩
          have HOUT := Lib.hid hout
          have HXI : Hid (Some_ w20 Z U Ag ng cg ∧ Some_ w20 Z U Ab nb cb ∧ Out Z U w20 w20) := ⟨hsome.1, hsome.2, Out.refl _ _ _⟩
          clear HSP hout hsome ha0 ha1 ha2 ha3 ha4 ha5
          go_wp2_with fail
          go_loopw [127] (fun t wr => ∃ j : Nat, j ≤ ng ∧ t = .int .i64 (j : Int) ∧ Hid (Some_ wr Z U Ag ng cg ∧ Some_ wr Z U Ab nb cb ∧ Out Z U w20 wr)) (fun t _ => ng - (intOf t).toNat)
          case atStart => exact ⟨0, by omega, rfl, HXI⟩
          case round =>
            obtain ⟨j, hj, rfl, HJ⟩ := hrel
            clear HXI

            by_cases hjl : j < ng
            · have hj1 : (j : Int) < (ng : Int) := by omega
              have hj0 : 0 ≤ (j : Int) := by omega
              have hjn : (ng : Int) ≤ 100000 := by omega
              obtain ⟨⟨l', hl', ho'⟩, hk'⟩ := HJ.out.1
              obtain ⟨G, u, hA, hGb, hcl, hfr⟩ := own_cell ho' j hjl
              obtain ⟨y, hy, hxy⟩ := xor_nat u
              have hN : Hid (Some_ (wr.setCell ⟨G, j, none⟩ (.int .u8 (y : Int))) Z U Ag ng cg ∧ Some_ (wr.setCell ⟨G, j, none⟩ (.int .u8 (y : Int))) Z U Ab nb cb ∧ Out Z U w20 (wr.setCell ⟨G, j, none⟩ (.int .u8 (y : Int)))) := ⟨HJ.out.1.set G j y hy, HJ.out.2.1.set G j y hy, HJ.out.2.2.trans (Out.set wr j _ hGb (hk' G (by rw [hA]; rfl)))⟩
              have HAA := Lib.hid hA
              clear hl' ho' hA hk' HJ
              rw [HAA.out]

              go_upto_region 32 with fail

              generalize wr.setCell ⟨G, j, none⟩ (.int .u8 (y : Int)) = w3 at hN ⊢
              have HN := Lib.hid hN.out
              clear hN hcl hfr hxy

              go_wp2
              go_roundw
              case rel => exact ⟨j + 1, by omega, by go_num, by rw [← HAA.out]; exact HN⟩
              case measure => simp [intOf]; omega
            · have hj1 : ¬ (j : Int) < (ng : Int) := by omega
              obtain ⟨wl, hwl⟩ : ∃ wl : World, wl = wr := ⟨_, rfl⟩
              subst hwl
              have HXI := Lib.hid HJ.out
              clear HJ hj1
              go_wp2_with fail
              go_loopw [139] (fun t wr => ∃ j : Nat, j ≤ nb ∧ t = .int .i64 (j : Int) ∧ Hid (Some_ wr Z U Ag ng cg ∧ Some_ wr Z U Ab nb cb ∧ Out Z U w20 wr)) (fun t _ => nb - (intOf t).toNat)
              case atStart => exact ⟨0, by omega, rfl, HXI⟩
              case round =>
                obtain ⟨j, hj, rfl, HJ⟩ := hrel
                clear HXI

                by_cases hjl : j < nb
                · have hj1 : (j : Int) < (nb : Int) := by omega
                  have hj0 : 0 ≤ (j : Int) := by omega
                  have hjn : (nb : Int) ≤ 100000 := by omega
                  obtain ⟨⟨l', hl', ho'⟩, hk'⟩ := HJ.out.2.1
                  obtain ⟨G, u, hA, hGb, hcl, hfr⟩ := own_cell ho' j hjl
                  obtain ⟨y, hy, hxy⟩ := xor_nat u
                  have hN : Hid (Some_ (wr.setCell ⟨G, j, none⟩ (.int .u8 (y : Int))) Z U Ag ng cg ∧ Some_ (wr.setCell ⟨G, j, none⟩ (.int .u8 (y : Int))) Z U Ab nb cb ∧ Out Z U w20 (wr.setCell ⟨G, j, none⟩ (.int .u8 (y : Int)))) := ⟨HJ.out.1.set G j y hy, HJ.out.2.1.set G j y hy, HJ.out.2.2.trans (Out.set wr j _ hGb (hk' G (by rw [hA]; rfl)))⟩
                  have HAA := Lib.hid hA
                  clear hl' ho' hA hk' HJ
                  rw [HAA.out]

                  go_upto_region 37 with fail

                  generalize wr.setCell ⟨G, j, none⟩ (.int .u8 (y : Int)) = w3 at hN ⊢
                  have HN := Lib.hid hN.out
                  clear hN hcl hfr hxy

                  go_wp2
                  go_roundw
                  case rel => exact ⟨j + 1, by omega, by go_num, by rw [← HAA.out]; exact HN⟩
                  case measure => simp [intOf]; omega
                · have hj1 : ¬ (j : Int) < (nb : Int) := by omega
                  clear hj1
                  have HZZ : Hid (Out Z U wq wr) := HOUT.out.trans HJ.out.2.2
                  have HSZ := Lib.hid (HTq.out.s7.then (HZZ.out.below HTq.out.s7.le))
                  have HWZ := Lib.hid (Pg.Row.out HTq.out.r15 HZZ.out (.inr hP15))
                  have HOZ := Lib.hid (HTq.out.ow.out HZZ.out (Nat.le_refl _))
                  have HUZ : Hid (U ≤ wr.heap.size) := Nat.le_trans HTq.out.us HZZ.out.size
                  clear HZZ HJ HOUT HTq
                  have hb0 : wr.cell? ⟨w.heap.size, 0, none⟩ = some (.int .i64 num) := HSZ.out.rp.cell 0
                  have hb1 : wr.cell? ⟨w.heap.size, 1, none⟩ = some (.int .u64 (lsn : Int)) := HSZ.out.rp.cell 1
                  have hb2 : wr.cell? ⟨w.heap.size, 2, none⟩ = some (.slice (s.A 0) (s.n 0) (s.c 0)) := HSZ.out.rp.cell 2
                  have hb3 : wr.cell? ⟨w.heap.size, 3, none⟩ = some (.slice (s.A 1) (s.n 1) (s.c 1)) := HSZ.out.rp.cell 3
                  have hb4 : wr.cell? ⟨w.heap.size, 4, none⟩ = some (.slice (s.A 2) (s.n 2) (s.c 2)) := HSZ.out.rp.cell 4
                  have hb5 : wr.cell? ⟨w.heap.size, 5, none⟩ = some (.slice (s.A 3) (s.n 3) (s.c 3)) := HSZ.out.rp.cell 5
                  have hc0 : wr.cell? ⟨P7, 0, none⟩ = some (.int .i64 num) := HSZ.out.r7.cell 0
                  have hc1 : wr.cell? ⟨P7, 1, none⟩ = some (.int .u64 (lsn : Int)) := HSZ.out.r7.cell 1
                  have hc2 : wr.cell? ⟨P7, 2, none⟩ = some (.slice (s7.A 0) (s7.n 0) (s7.c 0)) := HSZ.out.r7.cell 2
                  have hc3 : wr.cell? ⟨P7, 3, none⟩ = some (.slice (s7.A 1) (s7.n 1) (s7.c 1)) := HSZ.out.r7.cell 3
                  have hc4 : wr.cell? ⟨P7, 4, none⟩ = some (.slice (s7.A 2) (s7.n 2) (s7.c 2)) := HSZ.out.r7.cell 4
                  have hc5 : wr.cell? ⟨P7, 5, none⟩ = some (.slice (s7.A 3) (s7.n 3) (s7.c 3)) := HSZ.out.r7.cell 5
                  have HSM := Lib.hid (rsame_any num lsn s f num lsn s7 f Z wr HSZ.out.pp HSZ.out.p7 HSZ.out.le)
                  rw [same_self] at HSM
                  unfold pcs at HSM
                  go_wp2_with fail
                  refine HSM.out.mono ?_
                  rintro e wz ⟨rfl, hbz⟩
                  have HSE := Lib.hid (HSZ.out.then (hbz.mono HSZ.out.le))
                  have HWE := Lib.hid (HWZ.out.below hbz HWZ.out.lt)
                  have HOE := Lib.hid (HOZ.out.below hbz)
                  clear HSM hbz HSZ HWZ HOZ hb0 hb1 hb2 hb3 hb4 hb5 hc0 hc1 hc2 hc3 hc4 hc5
                  go_wp2
                  go_roundw
                  case rel => exact ⟨i + 1, by omega, by go_num, rfl, ⟨lsn, f, s, HSE.out.rp, HSE.out.pp.more HSE.out.le, HF53.out, HSE.out.hb⟩⟩
                  case measure => simp [intOf]; omega

      obtain ⟨k, rfl⟩ := Int.eq_ofNat_of_zero_le hsl.1
      have hk4 : k < 4 := by omega
      have hk0 : 0 ≤ (k : Int) := hsl.1
      have hk4i : (k : Int) < 4 := hsl.2
      have hd := HD.out
      rw [set_in hk4] at hd
      have hE := HEE.out
      rw [ask_in hsl] at hE
      subst hE
      have HL0 : Hid (L = f k) := (show _ = _ by have := HLE.out; rw [if_pos rfl, Int.toNat_natCast] at this; exact this)
      have HDD := Lib.hid hd
      have HBB : Hid (bb.length = nb) := HNB.out
      clear hd HD HEE HLE HKM HK7 HKF hsl
      have hx0 : w15.cell? ⟨P6, 0, none⟩ = some (.int .i64 (k : Int)) := HRG.out.s7.rx.cell 0
      have hx7 : w15.cell? ⟨P7, 2 + k, none⟩ = some (.slice (s7.A k) (s7.n k) (s7.c k)) := pcs_cell HRG.out.s7.r7 k hk4
      go_upto_region 16 with fail
      clear hx0 hx7
      refine wp_region_held_drew (S := fun w' => Row w' P6 55 (PutX.cells ⟨(k : Int), A1, n1, c1, b1, l1⟩)) (by kernel_rfl) HRG.out.s7.rx (fun hHeld => ?_)
      have HRGd := Lib.hid (HRG.out.below (below_still (Below.refl _ _) ⟨1, rfl⟩ : Below w15.heap.size w15 w15.drew))
      have HWRd := Lib.hid (HWR15.out.below (below_still (Below.refl _ _) ⟨1, rfl⟩ : Below w15.heap.size w15 w15.drew) HWR15.out.lt)
      have HWOd := Lib.hid (HWO15.out.below (below_still (Below.refl _ _) ⟨1, rfl⟩ : Below w15.heap.size w15 w15.drew))
      clear HRG HWR15 HWO15
      generalize w15.drew = wd at *
      have HSB6 : Hid (Sl wd wd.heap.size Ab nb cb bb) := HRGd.out.ob.sl.elim fun A' q => q.elim fun n' q2 => q2.elim fun c' q3 => by
        obtain ⟨q4, q5⟩ := q3
        cases q4
        exact q5
      refine wpAnyH_take (i := 0) (oi := ⟨some 67, _, _, _, _, _⟩) (v := ?v0p) rfl (by kernel_rfl) (by kernel_rfl) (by kernel_rfl) (fun _ _ _ h => h) (Or.inl ⟨by rfl, ?y0p⟩) hHeld ?r0p
      case y0p =>
        rintro w' hSw
        go_simp
        try with_reducible rfl
      try simp only [Act.put, List.setIfInBounds_toArray, List.set_cons_zero, List.set_cons_succ]
      refine wpAnyH_take (i := 1) (oi := ⟨some 68, _, _, _, _, _⟩) (v := ?v1p) rfl (by kernel_rfl) (by kernel_rfl) (by kernel_rfl) (fun _ _ _ h => h) (Or.inl ⟨by rfl, ?y1p⟩) hHeld ?r1p
      case y1p =>
        rintro w' hSw
        have h0 : w'.cell? ⟨P6, 0, none⟩ = some (.int .i64 (k : Int)) := hSw.cell 0
        go_simp
        try with_reducible rfl
      try simp only [Act.put, List.setIfInBounds_toArray, List.set_cons_zero, List.set_cons_succ]
      refine wpAnyH_take (i := 5) (oi := ⟨some 72, _, _, _, _, _⟩) (v := ?v5p) rfl (by kernel_rfl) (by kernel_rfl) (by kernel_rfl) (fun _ _ _ h => h) (Or.inl ⟨by rfl, ?y5p⟩) hHeld ?r5p
      case y5p =>
        rintro w' hSw
        go_simp
        try with_reducible rfl
      try simp only [Act.put, List.setIfInBounds_toArray, List.set_cons_zero, List.set_cons_succ]
      refine wpAnyH_take (i := 6) (oi := ⟨some 73, _, _, _, _, _⟩) (v := ?v6p) rfl (by kernel_rfl) (by kernel_rfl) (by kernel_rfl) (fun _ _ _ h => h) (Or.inl ⟨by rfl, ?y6p⟩) hHeld ?r6p
      case y6p =>
        rintro w' hSw
        have h0 : w'.cell? ⟨P6, 2, none⟩ = some (.int .u64 (l1 : Int)) := hSw.cell 2
        go_simp
        try with_reducible rfl
      try simp only [Act.put, List.setIfInBounds_toArray, List.set_cons_zero, List.set_cons_succ]
      refine wpAnyH_take (i := 3) (oi := ⟨some 70, _, _, _, _, _⟩) (v := ?v3p) rfl (by kernel_rfl) (by kernel_rfl) (by kernel_rfl) (fun _ _ _ h => h) (Or.inl ⟨by rfl, ?y3p⟩) hHeld ?r3p
      case y3p =>
        rintro w' hSw
        go_simp
        try with_reducible rfl
      try simp only [Act.put, List.setIfInBounds_toArray, List.set_cons_zero, List.set_cons_succ]
      refine wpAnyH_take (i := 7) (oi := ⟨some 74, _, _, _, _, _⟩) (v := ?v7p) rfl (by kernel_rfl) (by kernel_rfl) (by kernel_rfl) (fun _ _ _ h => h) (Or.inl ⟨by rfl, ?y7p⟩) hHeld ?r7p
      case y7p =>
        rintro w' hSw
        go_simp
        try with_reducible rfl
      try simp only [Act.put, List.setIfInBounds_toArray, List.set_cons_zero, List.set_cons_succ]
      refine wpAnyH_ready (rs := [2]) (by kernel_rfl) (by simp) ?_
      refine AllReadyH.cons rfl (fun K hK => ?_) AllReadyH.nil
      go_simp
      have HS1 : Hid (Row (wd.alloc (.cells #[] 5)) P6 55 (PutX.cells ⟨(k : Int), A1, n1, c1, b1, l1⟩)) := HRGd.out.s7.rx.below ((Below.refl _ _).alloc (Nat.le_refl _) _) HRGd.out.s7.rx.lt
      refine hK _ _ HS1.out (fun _ => ?_)
      clear hK K HS1
      try simp only [Act.put, List.setIfInBounds_toArray, List.set_cons_zero, List.set_cons_succ]
      refine wpAnyH_ready (rs := [4]) (by kernel_rfl) (by simp) ?_
      refine AllReadyH.cons rfl (fun K hK => ?_) AllReadyH.nil
      rw [if_pos (by rfl)]
      refine wp_append_any (.tmp 69) (.tmp 70) 25 rfl wd.heap.size 5 i0 (.int .u8 0) Try.underlying25 hi0 hz0 hz1 hz2 rfl (.slice (some ⟨wd.heap.size, 0, none⟩) 0 0) 0 (bv []) rfl (Own.of_row (l := []) (Row.new wd _ _) (Nat.le_refl _) rfl (Nat.zero_le _)) Ab nb cb bb rfl HSB6.out.len wd.heap.size (HSB6.out.bs.below ((Below.refl _ _).alloc (Nat.le_refl _) _)) HSB6.out.nil (by omega) (by simp) ?_
      intro v2 w16 hown2 hg2
      have HG2 := Lib.hid (((Below.refl _ _).alloc (Nat.le_refl _) _).trans (below_own hg2 (fun k hk => by cases hk; exact Nat.le_refl _) (by simp)))
      have HO2 : Hid (Own w16 wd.heap.size v2 bb) := Lib.hid (show Own w16 wd.heap.size v2 bb from (by have hh := hown2; rw [show bv ([] : List UInt8) = [] from rfl, List.nil_append, Nat.zero_add] at hh; unfold Own; rw [HSB6.out.len]; exact hh))
      clear hown2 hg2
      have HRG6 := Lib.hid (HRGd.out.below HG2.out)
      have HWR6 := Lib.hid (HWRd.out.below HG2.out HWRd.out.lt)
      have HWO6 := Lib.hid (HWOd.out.below HG2.out)
      have HOU := Lib.hid (HO2.out.mono HRGd.out.us)
      clear HRGd HWRd HWOd HG2 HO2 HSB6
      obtain ⟨A2, n2, c2, rfl, hs2⟩ := HOU.out.sl
      clear hs2
      refine hK _ _ HRG6.out.s7.rx (fun _ => ?_)
      clear hK K
      try simp only [Act.put, List.setIfInBounds_toArray, List.set_cons_zero, List.set_cons_succ]
      refine wpAnyH_take (i := 8) (oi := ⟨some 75, _, _, _, _, _⟩) (v := ?v8p) rfl (by kernel_rfl) (by kernel_rfl) (by kernel_rfl) (fun _ _ _ h => h) (Or.inl ⟨by rfl, ?y8p⟩) HRG6.out.s7.rx ?r8p
      case y8p =>
        rintro w' hSw
        go_simp
        try with_reducible rfl
      try simp only [Act.put, List.setIfInBounds_toArray, List.set_cons_zero, List.set_cons_succ]
      refine wpAnyH_ready (rs := [9]) (by kernel_rfl) (by simp) ?_
      refine AllReadyH.cons rfl (fun K hK => ?_) AllReadyH.nil
      have hcl : w16.cell? ⟨P15, 2 + k, none⟩ = some (.slice (s13.A k) (s13.n k) (s13.c k)) := pcs_cell HWR6.out k hk4
      have hfr := HWR6.out.frozen (2 + k)
      go_simp
      clear hcl hfr
      have HW9 := Lib.hid (po_put HWO6.out HWR6.out hk4 HOU.out)
      have HRG9 := Lib.hid (HRG6.out.put HWR6.out (grown_store w16 P15 (2 + k) (.slice A2 n2 c2)) hP15 HZU.out)
      generalize w16.setCell ⟨P15, 2 + k, none⟩ (.slice A2 n2 c2) = w17 at *
      obtain ⟨sk, hsk⟩ : ∃ sk, sk = s13.set k A2 n2 c2 := ⟨_, rfl⟩
      rw [← hsk] at HW9
      have HWR9 := Lib.hid HW9.out.1
      have HWO9 := Lib.hid HW9.out.2
      clear HW9 HWR6 HWO6 HRG6 HOU hsk
      refine hK _ _ HRG9.out.s7.rx (fun _ => ?_)
      clear hK K
      try simp only [Act.put, List.setIfInBounds_toArray, List.set_cons_zero, List.set_cons_succ]
      refine wpAnyH_take (i := 10) (oi := ⟨some 76, _, _, _, _, _⟩) (v := ?v10p) rfl (by kernel_rfl) (by kernel_rfl) (by kernel_rfl) (fun _ _ _ h => h) (Or.inl ⟨by rfl, ?y10p⟩) HRG9.out.s7.rx ?r10p
      case y10p =>
        rintro w' hSw
        go_simp
        try with_reducible rfl
      try simp only [Act.put, List.setIfInBounds_toArray, List.set_cons_zero, List.set_cons_succ]
      refine wpAnyH_ready (rs := [11]) (by kernel_rfl) (by simp) ?_
      refine AllReadyH.cons rfl (fun K hK => ?_) AllReadyH.nil
      have hcl : w17.cell? ⟨P15, 1, none⟩ = some (.int .u64 (lsn : Int)) := HWR9.out.cell 1
      have hfr := HWR9.out.frozen 1
      go_simp
      clear hcl hfr
      have HWX := Lib.hid (po_setl HWO9.out HWR9.out l1)
      have HRGe := Lib.hid (HRG9.out.put HWR9.out (grown_store w17 P15 1 (.int .u64 (l1 : Int))) hP15 HZU.out)
      generalize w17.setCell ⟨P15, 1, none⟩ (.int .u64 (l1 : Int)) = we at *
      have HWRe := Lib.hid HWX.out.1
      have HWOe := Lib.hid HWX.out.2
      clear HWX HWR9 HWO9 HRG9
      refine hK _ _ HRGe.out.s7.rx (fun _ => ?_)
      clear hK K
      try simp only [Act.put, List.setIfInBounds_toArray, List.set_cons_zero, List.set_cons_succ]
      refine wpAnyH_done (by kernel_rfl) ?_ _

      by_cases h52 : 52 < nb
      · have h52i : 52 < (nb : Int) := by omega
        have hd := HDD.out
        rw [if_pos (by rw [HBB.out]; exact h52)] at hd
        obtain ⟨rfl, rfl, rfl, rfl⟩ := DP.mk.inj hd
        clear hd HDD
        have HONE : Hid (∀ v ∈ pcs 0 0 zs, v.oneCell' = true) := pcs_one
        have HPI : Hid ((Try.prog.info? 28).map (·.size) = some (pcs 0 0 zs).length) := page_info
        have HLQ : Hid ((pcs 0 0 zs).length = (pcs num l1 sk).length) := (rfl : _ = _)
        go_upto_region 25 with ((with_reducible refine wpList_store_whole (op := ⟨none, _, _, _, _, _⟩) ?_ 28 (.tmp 15) (.tmp 95) ?_ P15 (pcs 0 0 zs) ?_ ?_ 28 (pcs num l1 sk) HWRe.out HLQ.out HONE.out HPI.out ?_))
        all_goals try (first | rfl | (simp; done))
        intro wt hr hg
        have HRGt := Lib.hid (HRGe.out.put HWRe.out hg hP15 HZU.out)
        have HT := Lib.hid (HRGt.out.ts hr (PO.nil _ _) (by rw [HL0.out]; exact HRGt.out.s7.p7 k hk4) (As := (s7.A k)) (ns := (s7.n k)) (cs := (s7.c k)))
        have HQ : Hid (PO wt Z none_ s9) := HRGt.out.q
        clear hr hg HRGt HRGe HWRe HWOe h52 h52i HONE HPI HLQ
        go_upto_region 25 with fail
        refine wp_region_held_drew (S := fun w' => (Row w' P9 28 (pcs 0 0 s9) ∧ Row w' P15 28 (pcs 0 0 zs)) ∧ Row w' w.heap.size 28 (pcs num lsn s) ∧ Row w' P7 28 (pcs num lsn s7)) (by kernel_rfl) ⟨⟨HT.out.r9, HT.out.r15⟩, HT.out.s7.rp, HT.out.s7.r7⟩ (fun hHeld => ?_)
        have HTu := Lib.hid (HT.out.then (below_still (Below.refl _ _) ⟨1, rfl⟩ : Below wt.heap.size wt wt.drew))
        have HQu := Lib.hid (HQ.out.below (below_still (Below.refl _ _) ⟨1, rfl⟩ : Below wt.heap.size wt wt.drew))
        clear HT HQ
        generalize wt.drew = wu at *
        refine wpAnyH_take (i := 0) (oi := ⟨some 96, _, _, _, _, _⟩) (v := ?v0gd) rfl (by kernel_rfl) (by kernel_rfl) (by kernel_rfl) (fun _ _ _ h => h) (Or.inl ⟨by rfl, ?y0gd⟩) ⟨⟨HTu.out.r9, HTu.out.r15⟩, HTu.out.s7.rp, HTu.out.s7.r7⟩ ?r0gd
        case y0gd =>
          rintro w' hSw
          go_simp
          try with_reducible rfl
        try simp only [Act.put, List.setIfInBounds_toArray, List.set_cons_zero, List.set_cons_succ]
        refine wpAnyH_take (i := 1) (oi := ⟨some 97, _, _, _, _, _⟩) (v := ?v1gd) rfl (by kernel_rfl) (by kernel_rfl) (by kernel_rfl) (fun _ _ _ h => h) (Or.inl ⟨by rfl, ?y1gd⟩) ⟨⟨HTu.out.r9, HTu.out.r15⟩, HTu.out.s7.rp, HTu.out.s7.r7⟩ ?r1gd
        case y1gd =>
          rintro w' hSw
          go_simp
          try with_reducible rfl
        try simp only [Act.put, List.setIfInBounds_toArray, List.set_cons_zero, List.set_cons_succ]
        refine wpAnyH_take (i := 2) (oi := ⟨some 98, _, _, _, _, _⟩) (v := ?v2gd) rfl (by kernel_rfl) (by kernel_rfl) (by kernel_rfl) (fun _ _ _ h => h) (Or.inl ⟨by rfl, ?y2gd⟩) ⟨⟨HTu.out.r9, HTu.out.r15⟩, HTu.out.s7.rp, HTu.out.s7.r7⟩ ?r2gd
        case y2gd =>
          rintro w' hSw
          go_simp
          try with_reducible rfl
        try simp only [Act.put, List.setIfInBounds_toArray, List.set_cons_zero, List.set_cons_succ]
        refine wpAnyH_take (i := 3) (oi := ⟨some 99, _, _, _, _, _⟩) (v := ?v3gd) rfl (by kernel_rfl) (by kernel_rfl) (by kernel_rfl) (fun _ _ _ h => h) (Or.inl ⟨by rfl, ?y3gd⟩) ⟨⟨HTu.out.r9, HTu.out.r15⟩, HTu.out.s7.rp, HTu.out.s7.r7⟩ ?r3gd
        case y3gd =>
          rintro w' hSw
          go_simp
          try with_reducible rfl
        try simp only [Act.put, List.setIfInBounds_toArray, List.set_cons_zero, List.set_cons_succ]
        refine wpAnyH_take (i := 4) (oi := ⟨some 100, _, _, _, _, _⟩) (v := ?v4gd) rfl (by kernel_rfl) (by kernel_rfl) (by kernel_rfl) (fun _ _ _ h => h) (Or.inl ⟨by rfl, ?y4gd⟩) ⟨⟨HTu.out.r9, HTu.out.r15⟩, HTu.out.s7.rp, HTu.out.s7.r7⟩ ?r4gd
        case y4gd =>
          rintro w' hSw
          go_simp
          try with_reducible rfl
        try simp only [Act.put, List.setIfInBounds_toArray, List.set_cons_zero, List.set_cons_succ]
        refine wpAnyH_take (i := 5) (oi := ⟨some 101, _, _, _, _, _⟩) (v := ?v5gd) rfl (by kernel_rfl) (by kernel_rfl) (by kernel_rfl) (fun _ _ _ h => h) (Or.inl ⟨by rfl, ?y5gd⟩) ⟨⟨HTu.out.r9, HTu.out.r15⟩, HTu.out.s7.rp, HTu.out.s7.r7⟩ ?r5gd
        case y5gd =>
          rintro w' hSw
          go_simp
          try with_reducible rfl
        try simp only [Act.put, List.setIfInBounds_toArray, List.set_cons_zero, List.set_cons_succ]
        refine wpAnyH_take (i := 6) (oi := ⟨some 102, _, _, _, _, _⟩) (v := ?v6gd) rfl (by kernel_rfl) (by kernel_rfl) (by kernel_rfl) (fun _ _ _ h => h) (Or.inl ⟨by rfl, ?y6gd⟩) ⟨⟨HTu.out.r9, HTu.out.r15⟩, HTu.out.s7.rp, HTu.out.s7.r7⟩ ?r6gd
        case y6gd =>
          rintro w' hSw
          go_simp
          try with_reducible rfl
        try simp only [Act.put, List.setIfInBounds_toArray, List.set_cons_zero, List.set_cons_succ]
        refine wpAnyH_take (i := 7) (oi := ⟨some 103, _, _, _, _, _⟩) (v := ?v7gd) rfl (by kernel_rfl) (by kernel_rfl) (by kernel_rfl) (fun _ _ _ h => h) (Or.inl ⟨by rfl, ?y7gd⟩) ⟨⟨HTu.out.r9, HTu.out.r15⟩, HTu.out.s7.rp, HTu.out.s7.r7⟩ ?r7gd
        case y7gd =>
          rintro w' hSw
          go_simp
          try with_reducible rfl
        try simp only [Act.put, List.setIfInBounds_toArray, List.set_cons_zero, List.set_cons_succ]
        refine wpAnyH_take (i := 8) (oi := ⟨some 104, _, _, _, _, _⟩) (v := ?v8gd) rfl (by kernel_rfl) (by kernel_rfl) (by kernel_rfl) (fun _ _ _ h => h) (Or.inl ⟨by rfl, ?y8gd⟩) ⟨⟨HTu.out.r9, HTu.out.r15⟩, HTu.out.s7.rp, HTu.out.s7.r7⟩ ?r8gd
        case y8gd =>
          rintro w' hSw
          go_simp
          try with_reducible rfl
        try simp only [Act.put, List.setIfInBounds_toArray, List.set_cons_zero, List.set_cons_succ]
        refine wpAnyH_take (i := 9) (oi := ⟨some 105, _, _, _, _, _⟩) rfl (by kernel_rfl) (by kernel_rfl) (by kernel_rfl) (fun _ _ _ h => h) (yieldsIf_load_mid (by rfl) 28 (.tmp 9) rfl P9 0 ?x9gd (pcs 0 0 s9) _ (fun _ h => Row.all h.1.1) Try.underlying28 rfl page_info) ⟨⟨HTu.out.r9, HTu.out.r15⟩, HTu.out.s7.rp, HTu.out.s7.r7⟩ ?r9gd
        case x9gd => first | rfl | (simp [Act.eval, go_sem]; done)
        try simp only [Act.put, List.setIfInBounds_toArray, List.set_cons_zero, List.set_cons_succ]
        refine wpAnyH_take (i := 10) (oi := ⟨some 106, _, _, _, _, _⟩) rfl (by kernel_rfl) (by kernel_rfl) (by kernel_rfl) (fun _ _ _ h => h) (yieldsIf_load_mid (by rfl) 28 (.tmp 15) rfl P15 0 ?x10gd (pcs 0 0 zs) _ (fun _ h => Row.all h.1.2) Try.underlying28 rfl page_info) ⟨⟨HTu.out.r9, HTu.out.r15⟩, HTu.out.s7.rp, HTu.out.s7.r7⟩ ?r10gd
        case x10gd => first | rfl | (simp [Act.eval, go_sem]; done)
        try simp only [Act.put, List.setIfInBounds_toArray, List.set_cons_zero, List.set_cons_succ]
        refine wpAnyH_ready (rs := [11]) (by kernel_rfl) (by simp) ?_
        refine AllReadyH.cons rfl (fun K hK => ?_) AllReadyH.nil
        go_simp
        refine (rsame_any 0 0 s9 none_ 0 0 zs none_ wu.heap.size wu HQu.out.at_ HTu.out.ow.at_ (Nat.le_refl _)).mono ?_
        rintro e wv ⟨rfl, hbx⟩
        rw [same_self]
        have HTv := Lib.hid (HTu.out.then hbx)
        clear hbx HTu HQu
        refine hK _ _ ⟨⟨HTv.out.r9, HTv.out.r15⟩, HTv.out.s7.rp, HTv.out.s7.r7⟩ (fun _ => ?_)
        clear hK K
        try simp only [Act.put, List.setIfInBounds_toArray, List.set_cons_zero, List.set_cons_succ]
        refine wpAnyH_take (i := 12) (oi := ⟨some 108, _, _, _, _, _⟩) (v := ?v12gd) rfl (by kernel_rfl) (by kernel_rfl) (by kernel_rfl) (fun _ _ _ h => h) (Or.inl ⟨by rfl, ?y12gd⟩) ⟨⟨HTv.out.r9, HTv.out.r15⟩, HTv.out.s7.rp, HTv.out.s7.r7⟩ ?r12gd
        case y12gd =>
          rintro w' hSw
          go_simp
          try with_reducible rfl
        try simp only [Act.put, List.setIfInBounds_toArray, List.set_cons_zero, List.set_cons_succ]
        refine wpAnyH_take (i := 13) (oi := ⟨some 109, _, _, _, _, _⟩) (v := ?v13gd) rfl (by kernel_rfl) (by kernel_rfl) (by kernel_rfl) (fun _ _ _ h => h) (Or.inl ⟨by rfl, ?y13gd⟩) ⟨⟨HTv.out.r9, HTv.out.r15⟩, HTv.out.s7.rp, HTv.out.s7.r7⟩ ?r13gd
        case y13gd =>
          rintro w' hSw
          go_simp
          try with_reducible rfl
        try simp only [Act.put, List.setIfInBounds_toArray, List.set_cons_zero, List.set_cons_succ]
        refine wpAnyH_take (i := 14) (oi := ⟨some 110, _, _, _, _, _⟩) (v := ?v14gd) rfl (by kernel_rfl) (by kernel_rfl) (by kernel_rfl) (fun _ _ _ h => h) (Or.inl ⟨by rfl, ?y14gd⟩) ⟨⟨HTv.out.r9, HTv.out.r15⟩, HTv.out.s7.rp, HTv.out.s7.r7⟩ ?r14gd
        case y14gd =>
          rintro w' hSw
          go_simp
          try with_reducible rfl
        try simp only [Act.put, List.setIfInBounds_toArray, List.set_cons_zero, List.set_cons_succ]
        refine wpAnyH_take (i := 15) (oi := ⟨some 111, _, _, _, _, _⟩) (v := ?v15gd) rfl (by kernel_rfl) (by kernel_rfl) (by kernel_rfl) (fun _ _ _ h => h) (Or.inl ⟨by rfl, ?y15gd⟩) ⟨⟨HTv.out.r9, HTv.out.r15⟩, HTv.out.s7.rp, HTv.out.s7.r7⟩ ?r15gd
        case y15gd =>
          rintro w' hSw
          go_simp
          try with_reducible rfl
        try simp only [Act.put, List.setIfInBounds_toArray, List.set_cons_zero, List.set_cons_succ]
        refine wpAnyH_take (i := 16) (oi := ⟨some 112, _, _, _, _, _⟩) (v := ?v16gd) rfl (by kernel_rfl) (by kernel_rfl) (by kernel_rfl) (fun _ _ _ h => h) (Or.inl ⟨by rfl, ?y16gd⟩) ⟨⟨HTv.out.r9, HTv.out.r15⟩, HTv.out.s7.rp, HTv.out.s7.r7⟩ ?r16gd
        case y16gd =>
          rintro w' hSw
          go_simp
          try with_reducible rfl
        try simp only [Act.put, List.setIfInBounds_toArray, List.set_cons_zero, List.set_cons_succ]
        refine wpAnyH_ready (rs := [17]) (by kernel_rfl) (by simp) ?_
        refine AllReadyH.cons rfl (fun K hK => ?_) AllReadyH.nil
        go_simp
        refine (bytesEq_any Ag ((s7.A k)) ng cg ((s7.n k)) ((s7.c k)) L L wv.heap.size Z wv HTv.out.glen.1 HTv.out.sl.len HTv.out.glen.2 HTv.out.sl.bs).mono ?_
        rintro e wy ⟨rfl, rfl⟩
        rw [show decide (L = L) = true by simp]
        refine hK _ _ ⟨⟨HTv.out.r9, HTv.out.r15⟩, HTv.out.s7.rp, HTv.out.s7.r7⟩ (fun _ => ?_)
        clear hK K
        try simp only [Act.put, List.setIfInBounds_toArray, List.set_cons_zero, List.set_cons_succ]
        refine wpAnyH_take (i := 18) (oi := ⟨some 114, _, _, _, _, _⟩) (v := ?v18gd) rfl (by kernel_rfl) (by kernel_rfl) (by kernel_rfl) (fun _ _ _ h => h) (Or.inl ⟨by rfl, ?y18gd⟩) ⟨⟨HTv.out.r9, HTv.out.r15⟩, HTv.out.s7.rp, HTv.out.s7.r7⟩ ?r18gd
        case y18gd =>
          rintro w' hSw
          go_simp
          try with_reducible rfl
        try simp only [Act.put, List.setIfInBounds_toArray, List.set_cons_zero, List.set_cons_succ]
        refine wpAnyH_take (i := 19) (oi := ⟨some 115, _, _, _, _, _⟩) (v := ?v19gd) rfl (by kernel_rfl) (by kernel_rfl) (by kernel_rfl) (fun _ _ _ h => h) (Or.inl ⟨by rfl, ?y19gd⟩) ⟨⟨HTv.out.r9, HTv.out.r15⟩, HTv.out.s7.rp, HTv.out.s7.r7⟩ ?r19gd
        case y19gd =>
          rintro w' hSw
          go_simp
          try with_reducible rfl
        try simp only [Act.put, List.setIfInBounds_toArray, List.set_cons_zero, List.set_cons_succ]
        refine wpAnyH_take (i := 20) (oi := ⟨some 116, _, _, _, _, _⟩) (v := ?v20gd) rfl (by kernel_rfl) (by kernel_rfl) (by kernel_rfl) (fun _ _ _ h => h) (Or.inl ⟨by rfl, ?y20gd⟩) ⟨⟨HTv.out.r9, HTv.out.r15⟩, HTv.out.s7.rp, HTv.out.s7.r7⟩ ?r20gd
        case y20gd =>
          rintro w' hSw
          go_simp
          try with_reducible rfl
        try simp only [Act.put, List.setIfInBounds_toArray, List.set_cons_zero, List.set_cons_succ]
        refine wpAnyH_take (i := 21) (oi := ⟨some 117, _, _, _, _, _⟩) rfl (by kernel_rfl) (by kernel_rfl) (by kernel_rfl) (fun _ _ _ h => h) (yieldsIf_load_mid (by rfl) 28 (.tmp 2) rfl w.heap.size 0 ?x21gd (pcs num lsn s) _ (fun _ h => Row.all h.2.1) Try.underlying28 rfl page_info) ⟨⟨HTv.out.r9, HTv.out.r15⟩, HTv.out.s7.rp, HTv.out.s7.r7⟩ ?r21gd
        case x21gd => first | rfl | (simp [Act.eval, go_sem]; done)
        try simp only [Act.put, List.setIfInBounds_toArray, List.set_cons_zero, List.set_cons_succ]
        refine wpAnyH_take (i := 23) (oi := ⟨some 119, _, _, _, _, _⟩) rfl (by kernel_rfl) (by kernel_rfl) (by kernel_rfl) (fun _ _ _ h => h) (yieldsIf_load_mid (by rfl) 28 (.tmp 7) rfl P7 0 ?x23gd (pcs num lsn s7) _ (fun _ h => Row.all h.2.2) Try.underlying28 rfl page_info) ⟨⟨HTv.out.r9, HTv.out.r15⟩, HTv.out.s7.rp, HTv.out.s7.r7⟩ ?r23gd
        case x23gd => first | rfl | (simp [Act.eval, go_sem]; done)
        try simp only [Act.put, List.setIfInBounds_toArray, List.set_cons_zero, List.set_cons_succ]
        refine wpAnyH_ready (rs := [22]) (by kernel_rfl) (by simp) ?_
        refine AllReadyH.cons rfl (fun K hK => ?_) AllReadyH.nil
        go_simp
        refine (free_any num lsn s wv).mono ?_
        rintro e wz ⟨rfl, hbx⟩
        rw [free_eq HTv.out.s7.pp HTv.out.s7.p7]
        have HTz := Lib.hid (HTv.out.then hbx)
        clear hbx HTv
        refine hK _ _ ⟨⟨HTz.out.r9, HTz.out.r15⟩, HTz.out.s7.rp, HTz.out.s7.r7⟩ (fun _ => ?_)
        clear hK K
        try simp only [Act.put, List.setIfInBounds_toArray, List.set_cons_zero, List.set_cons_succ]
        refine wpAnyH_ready (rs := [24]) (by kernel_rfl) (by simp) ?_
        refine AllReadyH.cons rfl (fun K hK => ?_) AllReadyH.nil
        go_simp
        refine (lawfree_any num lsn s7 wz).mono ?_
        rintro e wq ⟨rfl, hbx⟩
        generalize freeN (okN num s7.n) s7.n = FV
        have hfv : (FV != FV) = false := by simp
        have HTq := Lib.hid (HTz.out.then hbx)
        clear hbx HTz
        refine hK _ _ ⟨⟨HTq.out.r9, HTq.out.r15⟩, HTq.out.s7.rp, HTq.out.s7.r7⟩ (fun _ => ?_)
        clear hK K
        try simp only [Act.put, List.setIfInBounds_toArray, List.set_cons_zero, List.set_cons_succ]
        refine wpAnyH_take (i := 25) (oi := ⟨some 121, _, _, _, _, _⟩) (v := ?v25gd) rfl (by kernel_rfl) (by kernel_rfl) (by kernel_rfl) (fun _ _ _ h => h) (Or.inl ⟨by rfl, ?y25gd⟩) ⟨⟨HTq.out.r9, HTq.out.r15⟩, HTq.out.s7.rp, HTq.out.s7.r7⟩ ?r25gd
        case y25gd =>
          rintro w' hSw
          go_simp
          try with_reducible rfl
        try simp only [Act.put, List.setIfInBounds_toArray, List.set_cons_zero, List.set_cons_succ]
        refine wpAnyH_take (i := 26) (oi := ⟨some 122, _, _, _, _, _⟩) (v := ?v26gd) rfl (by kernel_rfl) (by kernel_rfl) (by kernel_rfl) (fun _ _ _ h => h) (Or.inl ⟨by rfl, ?y26gd⟩) ⟨⟨HTq.out.r9, HTq.out.r15⟩, HTq.out.s7.rp, HTq.out.s7.r7⟩ ?r26gd
        case y26gd =>
          rintro w' hSw
          go_simp
          try with_reducible rfl
        try simp only [Act.put, List.setIfInBounds_toArray, List.set_cons_zero, List.set_cons_succ]
        refine wpAnyH_done (by kernel_rfl) ?_ _
        clear hfv
        have ha0 : wq.cell? ⟨P9, 0, none⟩ = some (.int .i64 0) := HTq.out.r9.cell 0
        have ha1 : wq.cell? ⟨P9, 1, none⟩ = some (.int .u64 0) := HTq.out.r9.cell 1
        have ha2 : wq.cell? ⟨P9, 2, none⟩ = some (.slice (s9.A 0) (s9.n 0) (s9.c 0)) := HTq.out.r9.cell 2
        have ha3 : wq.cell? ⟨P9, 3, none⟩ = some (.slice (s9.A 1) (s9.n 1) (s9.c 1)) := HTq.out.r9.cell 3
        have ha4 : wq.cell? ⟨P9, 4, none⟩ = some (.slice (s9.A 2) (s9.n 2) (s9.c 2)) := HTq.out.r9.cell 4
        have ha5 : wq.cell? ⟨P9, 5, none⟩ = some (.slice (s9.A 3) (s9.n 3) (s9.c 3)) := HTq.out.r9.cell 5
        have HNB : Hid (bb.length = nb) := HTq.out.blen
        have HNG : Hid ((L).length = ng) := HTq.out.glen.1
        have HSP := Lib.hid (spoil_keep (fun W => Some_ W Z U Ag ng cg ∧ Some_ W Z U Ab nb cb) 0 0 s9 Z U wq HTq.out.os HTq.out.us HM9.out (fun W hW => ⟨⟨⟨L, HNG.out, HTq.out.og.below hW⟩, HGU.out⟩, ⟨⟨bb, HNB.out, HTq.out.ob.below hW⟩, HBU.out⟩⟩) (fun W g i y hy h => ⟨h.1.set g i y hy, h.2.set g i y hy⟩))
        unfold pcs at HSP
        go_wp2_with fail
        refine HSP.out.mono ?_
        rintro e w20 ⟨rfl, hout, hsome⟩
        have HOUT := Lib.hid hout
        have HXI : Hid (Some_ w20 Z U Ag ng cg ∧ Some_ w20 Z U Ab nb cb ∧ Out Z U w20 w20) := ⟨hsome.1, hsome.2, Out.refl _ _ _⟩
        clear HSP hout hsome ha0 ha1 ha2 ha3 ha4 ha5
        go_wp2_with fail
        go_loopw [127] (fun t wr => ∃ j : Nat, j ≤ ng ∧ t = .int .i64 (j : Int) ∧ Hid (Some_ wr Z U Ag ng cg ∧ Some_ wr Z U Ab nb cb ∧ Out Z U w20 wr)) (fun t _ => ng - (intOf t).toNat)
        case atStart => exact ⟨0, by omega, rfl, HXI⟩
        case round =>
          obtain ⟨j, hj, rfl, HJ⟩ := hrel
          clear HXI

          by_cases hjl : j < ng
          · have hj1 : (j : Int) < (ng : Int) := by omega
            have hj0 : 0 ≤ (j : Int) := by omega
            have hjn : (ng : Int) ≤ 100000 := by omega
            obtain ⟨⟨l', hl', ho'⟩, hk'⟩ := HJ.out.1
            obtain ⟨G, u, hA, hGb, hcl, hfr⟩ := own_cell ho' j hjl
            obtain ⟨y, hy, hxy⟩ := xor_nat u
            have hN : Hid (Some_ (wr.setCell ⟨G, j, none⟩ (.int .u8 (y : Int))) Z U Ag ng cg ∧ Some_ (wr.setCell ⟨G, j, none⟩ (.int .u8 (y : Int))) Z U Ab nb cb ∧ Out Z U w20 (wr.setCell ⟨G, j, none⟩ (.int .u8 (y : Int)))) := ⟨HJ.out.1.set G j y hy, HJ.out.2.1.set G j y hy, HJ.out.2.2.trans (Out.set wr j _ hGb (hk' G (by rw [hA]; rfl)))⟩
            have HAA := Lib.hid hA
            clear hl' ho' hA hk' HJ
            rw [HAA.out]

            go_upto_region 32 with fail

            generalize wr.setCell ⟨G, j, none⟩ (.int .u8 (y : Int)) = w3 at hN ⊢
            have HN := Lib.hid hN.out
            clear hN hcl hfr hxy

            go_wp2
            go_roundw
            case rel => exact ⟨j + 1, by omega, by go_num, by rw [← HAA.out]; exact HN⟩
            case measure => simp [intOf]; omega
          · have hj1 : ¬ (j : Int) < (ng : Int) := by omega
            obtain ⟨wl, hwl⟩ : ∃ wl : World, wl = wr := ⟨_, rfl⟩
            subst hwl
            have HXI := Lib.hid HJ.out
            clear HJ hj1
            go_wp2_with fail
            go_loopw [139] (fun t wr => ∃ j : Nat, j ≤ nb ∧ t = .int .i64 (j : Int) ∧ Hid (Some_ wr Z U Ag ng cg ∧ Some_ wr Z U Ab nb cb ∧ Out Z U w20 wr)) (fun t _ => nb - (intOf t).toNat)
            case atStart => exact ⟨0, by omega, rfl, HXI⟩
            case round =>
              obtain ⟨j, hj, rfl, HJ⟩ := hrel
              clear HXI

              by_cases hjl : j < nb
              · have hj1 : (j : Int) < (nb : Int) := by omega
                have hj0 : 0 ≤ (j : Int) := by omega
                have hjn : (nb : Int) ≤ 100000 := by omega
                obtain ⟨⟨l', hl', ho'⟩, hk'⟩ := HJ.out.2.1
                obtain ⟨G, u, hA, hGb, hcl, hfr⟩ := own_cell ho' j hjl
                obtain ⟨y, hy, hxy⟩ := xor_nat u
                have hN : Hid (Some_ (wr.setCell ⟨G, j, none⟩ (.int .u8 (y : Int))) Z U Ag ng cg ∧ Some_ (wr.setCell ⟨G, j, none⟩ (.int .u8 (y : Int))) Z U Ab nb cb ∧ Out Z U w20 (wr.setCell ⟨G, j, none⟩ (.int .u8 (y : Int)))) := ⟨HJ.out.1.set G j y hy, HJ.out.2.1.set G j y hy, HJ.out.2.2.trans (Out.set wr j _ hGb (hk' G (by rw [hA]; rfl)))⟩
                have HAA := Lib.hid hA
                clear hl' ho' hA hk' HJ
                rw [HAA.out]

                go_upto_region 37 with fail

                generalize wr.setCell ⟨G, j, none⟩ (.int .u8 (y : Int)) = w3 at hN ⊢
                have HN := Lib.hid hN.out
                clear hN hcl hfr hxy

                go_wp2
                go_roundw
                case rel => exact ⟨j + 1, by omega, by go_num, by rw [← HAA.out]; exact HN⟩
                case measure => simp [intOf]; omega
              · have hj1 : ¬ (j : Int) < (nb : Int) := by omega
                clear hj1
                have HZZ : Hid (Out Z U wq wr) := HOUT.out.trans HJ.out.2.2
                have HSZ := Lib.hid (HTq.out.s7.then (HZZ.out.below HTq.out.s7.le))
                have HWZ := Lib.hid (Pg.Row.out HTq.out.r15 HZZ.out (.inr hP15))
                have HOZ := Lib.hid (HTq.out.ow.out HZZ.out (Nat.le_refl _))
                have HUZ : Hid (U ≤ wr.heap.size) := Nat.le_trans HTq.out.us HZZ.out.size
                clear HZZ HJ HOUT HTq
                have hb0 : wr.cell? ⟨w.heap.size, 0, none⟩ = some (.int .i64 num) := HSZ.out.rp.cell 0
                have hb1 : wr.cell? ⟨w.heap.size, 1, none⟩ = some (.int .u64 (lsn : Int)) := HSZ.out.rp.cell 1
                have hb2 : wr.cell? ⟨w.heap.size, 2, none⟩ = some (.slice (s.A 0) (s.n 0) (s.c 0)) := HSZ.out.rp.cell 2
                have hb3 : wr.cell? ⟨w.heap.size, 3, none⟩ = some (.slice (s.A 1) (s.n 1) (s.c 1)) := HSZ.out.rp.cell 3
                have hb4 : wr.cell? ⟨w.heap.size, 4, none⟩ = some (.slice (s.A 2) (s.n 2) (s.c 2)) := HSZ.out.rp.cell 4
                have hb5 : wr.cell? ⟨w.heap.size, 5, none⟩ = some (.slice (s.A 3) (s.n 3) (s.c 3)) := HSZ.out.rp.cell 5
                have hc0 : wr.cell? ⟨P7, 0, none⟩ = some (.int .i64 num) := HSZ.out.r7.cell 0
                have hc1 : wr.cell? ⟨P7, 1, none⟩ = some (.int .u64 (lsn : Int)) := HSZ.out.r7.cell 1
                have hc2 : wr.cell? ⟨P7, 2, none⟩ = some (.slice (s7.A 0) (s7.n 0) (s7.c 0)) := HSZ.out.r7.cell 2
                have hc3 : wr.cell? ⟨P7, 3, none⟩ = some (.slice (s7.A 1) (s7.n 1) (s7.c 1)) := HSZ.out.r7.cell 3
                have hc4 : wr.cell? ⟨P7, 4, none⟩ = some (.slice (s7.A 2) (s7.n 2) (s7.c 2)) := HSZ.out.r7.cell 4
                have hc5 : wr.cell? ⟨P7, 5, none⟩ = some (.slice (s7.A 3) (s7.n 3) (s7.c 3)) := HSZ.out.r7.cell 5
                have HSM := Lib.hid (rsame_any num lsn s f num lsn s7 f Z wr HSZ.out.pp HSZ.out.p7 HSZ.out.le)
                rw [same_self] at HSM
                unfold pcs at HSM
                go_wp2_with fail
                refine HSM.out.mono ?_
                rintro e wz ⟨rfl, hbz⟩
                have HSE := Lib.hid (HSZ.out.then (hbz.mono HSZ.out.le))
                have HWE := Lib.hid (HWZ.out.below hbz HWZ.out.lt)
                have HOE := Lib.hid (HOZ.out.below hbz)
                clear HSM hbz HSZ HWZ HOZ hb0 hb1 hb2 hb3 hb4 hb5 hc0 hc1 hc2 hc3 hc4 hc5
                go_wp2
                go_roundw
                case rel => exact ⟨i + 1, by omega, by go_num, rfl, ⟨lsn, f, s, HSE.out.rp, HSE.out.pp.more HSE.out.le, HF53.out, HSE.out.hb⟩⟩
                case measure => simp [intOf]; omega

      · have h52i : ¬ 52 < (nb : Int) := by omega
        have hd := HDD.out
        rw [if_neg (by rw [HBB.out]; exact h52)] at hd
        obtain ⟨q1, q2, q3, q4⟩ := DP.mk.inj hd
        clear hd HDD
        subst de dn dl dsl
        have HLE53 : Hid (∀ j, j < 4 → (upd f k bb j).length ≤ 53) := fun j hj => by
          by_cases hjk : j = k
          · rw [hjk, upd_at, HBB.out]
            omega
          · rw [upd_not _ _ hjk]
            exact HF53.out j hj
        go_upto_region 25 with fail
        obtain ⟨wt, hwt⟩ : ∃ wt : World, wt = we := ⟨_, rfl⟩
        subst hwt
        have HT : Hid (TS w Z U P6 P7 P9 P15 num lsn f s ⟨(k : Int), A1, n1, c1, b1, l1⟩ s7 num l1 (upd f k bb) s9 sk Ab nb cb bb Ag ng cg L (s7.A k) (s7.n k) (s7.c k) wt) := HRGe.out.ts HWRe.out HWOe.out (by rw [HL0.out]; exact HRGe.out.s7.p7 k hk4)
        have HQ : Hid (PO wt Z (upd f k bb) s9) := HRGe.out.q
        clear HRGe HWRe HWOe h52 h52i
        refine wp_region_held_drew (S := fun w' => (Row w' P9 28 (pcs num l1 s9) ∧ Row w' P15 28 (pcs num l1 sk)) ∧ Row w' w.heap.size 28 (pcs num lsn s) ∧ Row w' P7 28 (pcs num lsn s7)) (by kernel_rfl) ⟨⟨HT.out.r9, HT.out.r15⟩, HT.out.s7.rp, HT.out.s7.r7⟩ (fun hHeld => ?_)
        have HTu := Lib.hid (HT.out.then (below_still (Below.refl _ _) ⟨1, rfl⟩ : Below wt.heap.size wt wt.drew))
        have HQu := Lib.hid (HQ.out.below (below_still (Below.refl _ _) ⟨1, rfl⟩ : Below wt.heap.size wt wt.drew))
        clear HT HQ
        generalize wt.drew = wu at *
        refine wpAnyH_take (i := 0) (oi := ⟨some 96, _, _, _, _, _⟩) (v := ?v0ge) rfl (by kernel_rfl) (by kernel_rfl) (by kernel_rfl) (fun _ _ _ h => h) (Or.inl ⟨by rfl, ?y0ge⟩) ⟨⟨HTu.out.r9, HTu.out.r15⟩, HTu.out.s7.rp, HTu.out.s7.r7⟩ ?r0ge
        case y0ge =>
          rintro w' hSw
          go_simp
          try with_reducible rfl
        try simp only [Act.put, List.setIfInBounds_toArray, List.set_cons_zero, List.set_cons_succ]
        refine wpAnyH_take (i := 1) (oi := ⟨some 97, _, _, _, _, _⟩) (v := ?v1ge) rfl (by kernel_rfl) (by kernel_rfl) (by kernel_rfl) (fun _ _ _ h => h) (Or.inl ⟨by rfl, ?y1ge⟩) ⟨⟨HTu.out.r9, HTu.out.r15⟩, HTu.out.s7.rp, HTu.out.s7.r7⟩ ?r1ge
        case y1ge =>
          rintro w' hSw
          go_simp
          try with_reducible rfl
        try simp only [Act.put, List.setIfInBounds_toArray, List.set_cons_zero, List.set_cons_succ]
        refine wpAnyH_take (i := 2) (oi := ⟨some 98, _, _, _, _, _⟩) (v := ?v2ge) rfl (by kernel_rfl) (by kernel_rfl) (by kernel_rfl) (fun _ _ _ h => h) (Or.inl ⟨by rfl, ?y2ge⟩) ⟨⟨HTu.out.r9, HTu.out.r15⟩, HTu.out.s7.rp, HTu.out.s7.r7⟩ ?r2ge
        case y2ge =>
          rintro w' hSw
          go_simp
          try with_reducible rfl
        try simp only [Act.put, List.setIfInBounds_toArray, List.set_cons_zero, List.set_cons_succ]
        refine wpAnyH_take (i := 3) (oi := ⟨some 99, _, _, _, _, _⟩) (v := ?v3ge) rfl (by kernel_rfl) (by kernel_rfl) (by kernel_rfl) (fun _ _ _ h => h) (Or.inl ⟨by rfl, ?y3ge⟩) ⟨⟨HTu.out.r9, HTu.out.r15⟩, HTu.out.s7.rp, HTu.out.s7.r7⟩ ?r3ge
        case y3ge =>
          rintro w' hSw
          go_simp
          try with_reducible rfl
        try simp only [Act.put, List.setIfInBounds_toArray, List.set_cons_zero, List.set_cons_succ]
        refine wpAnyH_take (i := 4) (oi := ⟨some 100, _, _, _, _, _⟩) (v := ?v4ge) rfl (by kernel_rfl) (by kernel_rfl) (by kernel_rfl) (fun _ _ _ h => h) (Or.inl ⟨by rfl, ?y4ge⟩) ⟨⟨HTu.out.r9, HTu.out.r15⟩, HTu.out.s7.rp, HTu.out.s7.r7⟩ ?r4ge
        case y4ge =>
          rintro w' hSw
          go_simp
          try with_reducible rfl
        try simp only [Act.put, List.setIfInBounds_toArray, List.set_cons_zero, List.set_cons_succ]
        refine wpAnyH_take (i := 5) (oi := ⟨some 101, _, _, _, _, _⟩) (v := ?v5ge) rfl (by kernel_rfl) (by kernel_rfl) (by kernel_rfl) (fun _ _ _ h => h) (Or.inl ⟨by rfl, ?y5ge⟩) ⟨⟨HTu.out.r9, HTu.out.r15⟩, HTu.out.s7.rp, HTu.out.s7.r7⟩ ?r5ge
        case y5ge =>
          rintro w' hSw
          go_simp
          try with_reducible rfl
        try simp only [Act.put, List.setIfInBounds_toArray, List.set_cons_zero, List.set_cons_succ]
        refine wpAnyH_take (i := 6) (oi := ⟨some 102, _, _, _, _, _⟩) (v := ?v6ge) rfl (by kernel_rfl) (by kernel_rfl) (by kernel_rfl) (fun _ _ _ h => h) (Or.inl ⟨by rfl, ?y6ge⟩) ⟨⟨HTu.out.r9, HTu.out.r15⟩, HTu.out.s7.rp, HTu.out.s7.r7⟩ ?r6ge
        case y6ge =>
          rintro w' hSw
          go_simp
          try with_reducible rfl
        try simp only [Act.put, List.setIfInBounds_toArray, List.set_cons_zero, List.set_cons_succ]
        refine wpAnyH_take (i := 7) (oi := ⟨some 103, _, _, _, _, _⟩) (v := ?v7ge) rfl (by kernel_rfl) (by kernel_rfl) (by kernel_rfl) (fun _ _ _ h => h) (Or.inl ⟨by rfl, ?y7ge⟩) ⟨⟨HTu.out.r9, HTu.out.r15⟩, HTu.out.s7.rp, HTu.out.s7.r7⟩ ?r7ge
        case y7ge =>
          rintro w' hSw
          go_simp
          try with_reducible rfl
        try simp only [Act.put, List.setIfInBounds_toArray, List.set_cons_zero, List.set_cons_succ]
        refine wpAnyH_take (i := 8) (oi := ⟨some 104, _, _, _, _, _⟩) (v := ?v8ge) rfl (by kernel_rfl) (by kernel_rfl) (by kernel_rfl) (fun _ _ _ h => h) (Or.inl ⟨by rfl, ?y8ge⟩) ⟨⟨HTu.out.r9, HTu.out.r15⟩, HTu.out.s7.rp, HTu.out.s7.r7⟩ ?r8ge
        case y8ge =>
          rintro w' hSw
          go_simp
          try with_reducible rfl
        try simp only [Act.put, List.setIfInBounds_toArray, List.set_cons_zero, List.set_cons_succ]
        refine wpAnyH_take (i := 9) (oi := ⟨some 105, _, _, _, _, _⟩) rfl (by kernel_rfl) (by kernel_rfl) (by kernel_rfl) (fun _ _ _ h => h) (yieldsIf_load_mid (by rfl) 28 (.tmp 9) rfl P9 0 ?x9ge (pcs num l1 s9) _ (fun _ h => Row.all h.1.1) Try.underlying28 rfl page_info) ⟨⟨HTu.out.r9, HTu.out.r15⟩, HTu.out.s7.rp, HTu.out.s7.r7⟩ ?r9ge
        case x9ge => first | rfl | (simp [Act.eval, go_sem]; done)
        try simp only [Act.put, List.setIfInBounds_toArray, List.set_cons_zero, List.set_cons_succ]
        refine wpAnyH_take (i := 10) (oi := ⟨some 106, _, _, _, _, _⟩) rfl (by kernel_rfl) (by kernel_rfl) (by kernel_rfl) (fun _ _ _ h => h) (yieldsIf_load_mid (by rfl) 28 (.tmp 15) rfl P15 0 ?x10ge (pcs num l1 sk) _ (fun _ h => Row.all h.1.2) Try.underlying28 rfl page_info) ⟨⟨HTu.out.r9, HTu.out.r15⟩, HTu.out.s7.rp, HTu.out.s7.r7⟩ ?r10ge
        case x10ge => first | rfl | (simp [Act.eval, go_sem]; done)
        try simp only [Act.put, List.setIfInBounds_toArray, List.set_cons_zero, List.set_cons_succ]
        refine wpAnyH_ready (rs := [11]) (by kernel_rfl) (by simp) ?_
        refine AllReadyH.cons rfl (fun K hK => ?_) AllReadyH.nil
        go_simp
        refine (rsame_any num l1 s9 (upd f k bb) num l1 sk (upd f k bb) wu.heap.size wu HQu.out.at_ HTu.out.ow.at_ (Nat.le_refl _)).mono ?_
        rintro e wv ⟨rfl, hbx⟩
        rw [same_self]
        have HTv := Lib.hid (HTu.out.then hbx)
        clear hbx HTu HQu
        refine hK _ _ ⟨⟨HTv.out.r9, HTv.out.r15⟩, HTv.out.s7.rp, HTv.out.s7.r7⟩ (fun _ => ?_)
        clear hK K
        try simp only [Act.put, List.setIfInBounds_toArray, List.set_cons_zero, List.set_cons_succ]
        refine wpAnyH_take (i := 12) (oi := ⟨some 108, _, _, _, _, _⟩) (v := ?v12ge) rfl (by kernel_rfl) (by kernel_rfl) (by kernel_rfl) (fun _ _ _ h => h) (Or.inl ⟨by rfl, ?y12ge⟩) ⟨⟨HTv.out.r9, HTv.out.r15⟩, HTv.out.s7.rp, HTv.out.s7.r7⟩ ?r12ge
        case y12ge =>
          rintro w' hSw
          go_simp
          try with_reducible rfl
        try simp only [Act.put, List.setIfInBounds_toArray, List.set_cons_zero, List.set_cons_succ]
        refine wpAnyH_take (i := 13) (oi := ⟨some 109, _, _, _, _, _⟩) (v := ?v13ge) rfl (by kernel_rfl) (by kernel_rfl) (by kernel_rfl) (fun _ _ _ h => h) (Or.inl ⟨by rfl, ?y13ge⟩) ⟨⟨HTv.out.r9, HTv.out.r15⟩, HTv.out.s7.rp, HTv.out.s7.r7⟩ ?r13ge
        case y13ge =>
          rintro w' hSw
          go_simp
          try with_reducible rfl
        try simp only [Act.put, List.setIfInBounds_toArray, List.set_cons_zero, List.set_cons_succ]
        refine wpAnyH_take (i := 14) (oi := ⟨some 110, _, _, _, _, _⟩) (v := ?v14ge) rfl (by kernel_rfl) (by kernel_rfl) (by kernel_rfl) (fun _ _ _ h => h) (Or.inl ⟨by rfl, ?y14ge⟩) ⟨⟨HTv.out.r9, HTv.out.r15⟩, HTv.out.s7.rp, HTv.out.s7.r7⟩ ?r14ge
        case y14ge =>
          rintro w' hSw
          go_simp
          try with_reducible rfl
        try simp only [Act.put, List.setIfInBounds_toArray, List.set_cons_zero, List.set_cons_succ]
        refine wpAnyH_take (i := 15) (oi := ⟨some 111, _, _, _, _, _⟩) (v := ?v15ge) rfl (by kernel_rfl) (by kernel_rfl) (by kernel_rfl) (fun _ _ _ h => h) (Or.inl ⟨by rfl, ?y15ge⟩) ⟨⟨HTv.out.r9, HTv.out.r15⟩, HTv.out.s7.rp, HTv.out.s7.r7⟩ ?r15ge
        case y15ge =>
          rintro w' hSw
          go_simp
          try with_reducible rfl
        try simp only [Act.put, List.setIfInBounds_toArray, List.set_cons_zero, List.set_cons_succ]
        refine wpAnyH_take (i := 16) (oi := ⟨some 112, _, _, _, _, _⟩) (v := ?v16ge) rfl (by kernel_rfl) (by kernel_rfl) (by kernel_rfl) (fun _ _ _ h => h) (Or.inl ⟨by rfl, ?y16ge⟩) ⟨⟨HTv.out.r9, HTv.out.r15⟩, HTv.out.s7.rp, HTv.out.s7.r7⟩ ?r16ge
        case y16ge =>
          rintro w' hSw
          go_simp
          try with_reducible rfl
        try simp only [Act.put, List.setIfInBounds_toArray, List.set_cons_zero, List.set_cons_succ]
        refine wpAnyH_ready (rs := [17]) (by kernel_rfl) (by simp) ?_
        refine AllReadyH.cons rfl (fun K hK => ?_) AllReadyH.nil
        go_simp
        refine (bytesEq_any Ag ((s7.A k)) ng cg ((s7.n k)) ((s7.c k)) L L wv.heap.size Z wv HTv.out.glen.1 HTv.out.sl.len HTv.out.glen.2 HTv.out.sl.bs).mono ?_
        rintro e wy ⟨rfl, rfl⟩
        rw [show decide (L = L) = true by simp]
        refine hK _ _ ⟨⟨HTv.out.r9, HTv.out.r15⟩, HTv.out.s7.rp, HTv.out.s7.r7⟩ (fun _ => ?_)
        clear hK K
        try simp only [Act.put, List.setIfInBounds_toArray, List.set_cons_zero, List.set_cons_succ]
        refine wpAnyH_take (i := 18) (oi := ⟨some 114, _, _, _, _, _⟩) (v := ?v18ge) rfl (by kernel_rfl) (by kernel_rfl) (by kernel_rfl) (fun _ _ _ h => h) (Or.inl ⟨by rfl, ?y18ge⟩) ⟨⟨HTv.out.r9, HTv.out.r15⟩, HTv.out.s7.rp, HTv.out.s7.r7⟩ ?r18ge
        case y18ge =>
          rintro w' hSw
          go_simp
          try with_reducible rfl
        try simp only [Act.put, List.setIfInBounds_toArray, List.set_cons_zero, List.set_cons_succ]
        refine wpAnyH_take (i := 19) (oi := ⟨some 115, _, _, _, _, _⟩) (v := ?v19ge) rfl (by kernel_rfl) (by kernel_rfl) (by kernel_rfl) (fun _ _ _ h => h) (Or.inl ⟨by rfl, ?y19ge⟩) ⟨⟨HTv.out.r9, HTv.out.r15⟩, HTv.out.s7.rp, HTv.out.s7.r7⟩ ?r19ge
        case y19ge =>
          rintro w' hSw
          go_simp
          try with_reducible rfl
        try simp only [Act.put, List.setIfInBounds_toArray, List.set_cons_zero, List.set_cons_succ]
        refine wpAnyH_take (i := 20) (oi := ⟨some 116, _, _, _, _, _⟩) (v := ?v20ge) rfl (by kernel_rfl) (by kernel_rfl) (by kernel_rfl) (fun _ _ _ h => h) (Or.inl ⟨by rfl, ?y20ge⟩) ⟨⟨HTv.out.r9, HTv.out.r15⟩, HTv.out.s7.rp, HTv.out.s7.r7⟩ ?r20ge
        case y20ge =>
          rintro w' hSw
          go_simp
          try with_reducible rfl
        try simp only [Act.put, List.setIfInBounds_toArray, List.set_cons_zero, List.set_cons_succ]
        refine wpAnyH_take (i := 21) (oi := ⟨some 117, _, _, _, _, _⟩) rfl (by kernel_rfl) (by kernel_rfl) (by kernel_rfl) (fun _ _ _ h => h) (yieldsIf_load_mid (by rfl) 28 (.tmp 2) rfl w.heap.size 0 ?x21ge (pcs num lsn s) _ (fun _ h => Row.all h.2.1) Try.underlying28 rfl page_info) ⟨⟨HTv.out.r9, HTv.out.r15⟩, HTv.out.s7.rp, HTv.out.s7.r7⟩ ?r21ge
        case x21ge => first | rfl | (simp [Act.eval, go_sem]; done)
        try simp only [Act.put, List.setIfInBounds_toArray, List.set_cons_zero, List.set_cons_succ]
        refine wpAnyH_take (i := 23) (oi := ⟨some 119, _, _, _, _, _⟩) rfl (by kernel_rfl) (by kernel_rfl) (by kernel_rfl) (fun _ _ _ h => h) (yieldsIf_load_mid (by rfl) 28 (.tmp 7) rfl P7 0 ?x23ge (pcs num lsn s7) _ (fun _ h => Row.all h.2.2) Try.underlying28 rfl page_info) ⟨⟨HTv.out.r9, HTv.out.r15⟩, HTv.out.s7.rp, HTv.out.s7.r7⟩ ?r23ge
        case x23ge => first | rfl | (simp [Act.eval, go_sem]; done)
        try simp only [Act.put, List.setIfInBounds_toArray, List.set_cons_zero, List.set_cons_succ]
        refine wpAnyH_ready (rs := [22]) (by kernel_rfl) (by simp) ?_
        refine AllReadyH.cons rfl (fun K hK => ?_) AllReadyH.nil
        go_simp
        refine (free_any num lsn s wv).mono ?_
        rintro e wz ⟨rfl, hbx⟩
        rw [free_eq HTv.out.s7.pp HTv.out.s7.p7]
        have HTz := Lib.hid (HTv.out.then hbx)
        clear hbx HTv
        refine hK _ _ ⟨⟨HTz.out.r9, HTz.out.r15⟩, HTz.out.s7.rp, HTz.out.s7.r7⟩ (fun _ => ?_)
        clear hK K
        try simp only [Act.put, List.setIfInBounds_toArray, List.set_cons_zero, List.set_cons_succ]
        refine wpAnyH_ready (rs := [24]) (by kernel_rfl) (by simp) ?_
        refine AllReadyH.cons rfl (fun K hK => ?_) AllReadyH.nil
        go_simp
        refine (lawfree_any num lsn s7 wz).mono ?_
        rintro e wq ⟨rfl, hbx⟩
        generalize freeN (okN num s7.n) s7.n = FV
        have hfv : (FV != FV) = false := by simp
        have HTq := Lib.hid (HTz.out.then hbx)
        clear hbx HTz
        refine hK _ _ ⟨⟨HTq.out.r9, HTq.out.r15⟩, HTq.out.s7.rp, HTq.out.s7.r7⟩ (fun _ => ?_)
        clear hK K
        try simp only [Act.put, List.setIfInBounds_toArray, List.set_cons_zero, List.set_cons_succ]
        refine wpAnyH_take (i := 25) (oi := ⟨some 121, _, _, _, _, _⟩) (v := ?v25ge) rfl (by kernel_rfl) (by kernel_rfl) (by kernel_rfl) (fun _ _ _ h => h) (Or.inl ⟨by rfl, ?y25ge⟩) ⟨⟨HTq.out.r9, HTq.out.r15⟩, HTq.out.s7.rp, HTq.out.s7.r7⟩ ?r25ge
        case y25ge =>
          rintro w' hSw
          go_simp
          try with_reducible rfl
        try simp only [Act.put, List.setIfInBounds_toArray, List.set_cons_zero, List.set_cons_succ]
        refine wpAnyH_take (i := 26) (oi := ⟨some 122, _, _, _, _, _⟩) (v := ?v26ge) rfl (by kernel_rfl) (by kernel_rfl) (by kernel_rfl) (fun _ _ _ h => h) (Or.inl ⟨by rfl, ?y26ge⟩) ⟨⟨HTq.out.r9, HTq.out.r15⟩, HTq.out.s7.rp, HTq.out.s7.r7⟩ ?r26ge
        case y26ge =>
          rintro w' hSw
          go_simp
          try with_reducible rfl
        try simp only [Act.put, List.setIfInBounds_toArray, List.set_cons_zero, List.set_cons_succ]
        refine wpAnyH_done (by kernel_rfl) ?_ _
        clear hfv
        have ha0 : wq.cell? ⟨P9, 0, none⟩ = some (.int .i64 num) := HTq.out.r9.cell 0
        have ha1 : wq.cell? ⟨P9, 1, none⟩ = some (.int .u64 (l1 : Int)) := HTq.out.r9.cell 1
        have ha2 : wq.cell? ⟨P9, 2, none⟩ = some (.slice (s9.A 0) (s9.n 0) (s9.c 0)) := HTq.out.r9.cell 2
        have ha3 : wq.cell? ⟨P9, 3, none⟩ = some (.slice (s9.A 1) (s9.n 1) (s9.c 1)) := HTq.out.r9.cell 3
        have ha4 : wq.cell? ⟨P9, 4, none⟩ = some (.slice (s9.A 2) (s9.n 2) (s9.c 2)) := HTq.out.r9.cell 4
        have ha5 : wq.cell? ⟨P9, 5, none⟩ = some (.slice (s9.A 3) (s9.n 3) (s9.c 3)) := HTq.out.r9.cell 5
        have HNB : Hid (bb.length = nb) := HTq.out.blen
        have HNG : Hid ((L).length = ng) := HTq.out.glen.1
        have HSP := Lib.hid (spoil_keep (fun W => Some_ W Z U Ag ng cg ∧ Some_ W Z U Ab nb cb) num l1 s9 Z U wq HTq.out.os HTq.out.us HM9.out (fun W hW => ⟨⟨⟨L, HNG.out, HTq.out.og.below hW⟩, HGU.out⟩, ⟨⟨bb, HNB.out, HTq.out.ob.below hW⟩, HBU.out⟩⟩) (fun W g i y hy h => ⟨h.1.set g i y hy, h.2.set g i y hy⟩))
        unfold pcs at HSP
        go_wp2_with fail
        refine HSP.out.mono ?_
        rintro e w20 ⟨rfl, hout, hsome⟩
        have HOUT := Lib.hid hout
        have HXI : Hid (Some_ w20 Z U Ag ng cg ∧ Some_ w20 Z U Ab nb cb ∧ Out Z U w20 w20) := ⟨hsome.1, hsome.2, Out.refl _ _ _⟩
        clear HSP hout hsome ha0 ha1 ha2 ha3 ha4 ha5
        go_wp2_with fail
        go_loopw [127] (fun t wr => ∃ j : Nat, j ≤ ng ∧ t = .int .i64 (j : Int) ∧ Hid (Some_ wr Z U Ag ng cg ∧ Some_ wr Z U Ab nb cb ∧ Out Z U w20 wr)) (fun t _ => ng - (intOf t).toNat)
        case atStart => exact ⟨0, by omega, rfl, HXI⟩
        case round =>
          obtain ⟨j, hj, rfl, HJ⟩ := hrel
          clear HXI

          by_cases hjl : j < ng
          · have hj1 : (j : Int) < (ng : Int) := by omega
            have hj0 : 0 ≤ (j : Int) := by omega
            have hjn : (ng : Int) ≤ 100000 := by omega
            obtain ⟨⟨l', hl', ho'⟩, hk'⟩ := HJ.out.1
            obtain ⟨G, u, hA, hGb, hcl, hfr⟩ := own_cell ho' j hjl
            obtain ⟨y, hy, hxy⟩ := xor_nat u
            have hN : Hid (Some_ (wr.setCell ⟨G, j, none⟩ (.int .u8 (y : Int))) Z U Ag ng cg ∧ Some_ (wr.setCell ⟨G, j, none⟩ (.int .u8 (y : Int))) Z U Ab nb cb ∧ Out Z U w20 (wr.setCell ⟨G, j, none⟩ (.int .u8 (y : Int)))) := ⟨HJ.out.1.set G j y hy, HJ.out.2.1.set G j y hy, HJ.out.2.2.trans (Out.set wr j _ hGb (hk' G (by rw [hA]; rfl)))⟩
            have HAA := Lib.hid hA
            clear hl' ho' hA hk' HJ
            rw [HAA.out]

            go_upto_region 32 with fail

            generalize wr.setCell ⟨G, j, none⟩ (.int .u8 (y : Int)) = w3 at hN ⊢
            have HN := Lib.hid hN.out
            clear hN hcl hfr hxy

            go_wp2
            go_roundw
            case rel => exact ⟨j + 1, by omega, by go_num, by rw [← HAA.out]; exact HN⟩
            case measure => simp [intOf]; omega
          · have hj1 : ¬ (j : Int) < (ng : Int) := by omega
            obtain ⟨wl, hwl⟩ : ∃ wl : World, wl = wr := ⟨_, rfl⟩
            subst hwl
            have HXI := Lib.hid HJ.out
            clear HJ hj1
            go_wp2_with fail
            go_loopw [139] (fun t wr => ∃ j : Nat, j ≤ nb ∧ t = .int .i64 (j : Int) ∧ Hid (Some_ wr Z U Ag ng cg ∧ Some_ wr Z U Ab nb cb ∧ Out Z U w20 wr)) (fun t _ => nb - (intOf t).toNat)
            case atStart => exact ⟨0, by omega, rfl, HXI⟩
            case round =>
              obtain ⟨j, hj, rfl, HJ⟩ := hrel
              clear HXI

              by_cases hjl : j < nb
              · have hj1 : (j : Int) < (nb : Int) := by omega
                have hj0 : 0 ≤ (j : Int) := by omega
                have hjn : (nb : Int) ≤ 100000 := by omega
                obtain ⟨⟨l', hl', ho'⟩, hk'⟩ := HJ.out.2.1
                obtain ⟨G, u, hA, hGb, hcl, hfr⟩ := own_cell ho' j hjl
                obtain ⟨y, hy, hxy⟩ := xor_nat u
                have hN : Hid (Some_ (wr.setCell ⟨G, j, none⟩ (.int .u8 (y : Int))) Z U Ag ng cg ∧ Some_ (wr.setCell ⟨G, j, none⟩ (.int .u8 (y : Int))) Z U Ab nb cb ∧ Out Z U w20 (wr.setCell ⟨G, j, none⟩ (.int .u8 (y : Int)))) := ⟨HJ.out.1.set G j y hy, HJ.out.2.1.set G j y hy, HJ.out.2.2.trans (Out.set wr j _ hGb (hk' G (by rw [hA]; rfl)))⟩
                have HAA := Lib.hid hA
                clear hl' ho' hA hk' HJ
                rw [HAA.out]

                go_upto_region 37 with fail

                generalize wr.setCell ⟨G, j, none⟩ (.int .u8 (y : Int)) = w3 at hN ⊢
                have HN := Lib.hid hN.out
                clear hN hcl hfr hxy

                go_wp2
                go_roundw
                case rel => exact ⟨j + 1, by omega, by go_num, by rw [← HAA.out]; exact HN⟩
                case measure => simp [intOf]; omega
              · have hj1 : ¬ (j : Int) < (nb : Int) := by omega
                clear hj1
                have HZZ : Hid (Out Z U wq wr) := HOUT.out.trans HJ.out.2.2
                have HSZ := Lib.hid (HTq.out.s7.then (HZZ.out.below HTq.out.s7.le))
                have HWZ := Lib.hid (Pg.Row.out HTq.out.r15 HZZ.out (.inr hP15))
                have HOZ := Lib.hid (HTq.out.ow.out HZZ.out (Nat.le_refl _))
                have HUZ : Hid (U ≤ wr.heap.size) := Nat.le_trans HTq.out.us HZZ.out.size
                clear HZZ HJ HOUT HTq
                have hb0 : wr.cell? ⟨w.heap.size, 0, none⟩ = some (.int .i64 num) := HSZ.out.rp.cell 0
                have hb1 : wr.cell? ⟨w.heap.size, 1, none⟩ = some (.int .u64 (lsn : Int)) := HSZ.out.rp.cell 1
                have hb2 : wr.cell? ⟨w.heap.size, 2, none⟩ = some (.slice (s.A 0) (s.n 0) (s.c 0)) := HSZ.out.rp.cell 2
                have hb3 : wr.cell? ⟨w.heap.size, 3, none⟩ = some (.slice (s.A 1) (s.n 1) (s.c 1)) := HSZ.out.rp.cell 3
                have hb4 : wr.cell? ⟨w.heap.size, 4, none⟩ = some (.slice (s.A 2) (s.n 2) (s.c 2)) := HSZ.out.rp.cell 4
                have hb5 : wr.cell? ⟨w.heap.size, 5, none⟩ = some (.slice (s.A 3) (s.n 3) (s.c 3)) := HSZ.out.rp.cell 5
                have hc0 : wr.cell? ⟨P7, 0, none⟩ = some (.int .i64 num) := HSZ.out.r7.cell 0
                have hc1 : wr.cell? ⟨P7, 1, none⟩ = some (.int .u64 (lsn : Int)) := HSZ.out.r7.cell 1
                have hc2 : wr.cell? ⟨P7, 2, none⟩ = some (.slice (s7.A 0) (s7.n 0) (s7.c 0)) := HSZ.out.r7.cell 2
                have hc3 : wr.cell? ⟨P7, 3, none⟩ = some (.slice (s7.A 1) (s7.n 1) (s7.c 1)) := HSZ.out.r7.cell 3
                have hc4 : wr.cell? ⟨P7, 4, none⟩ = some (.slice (s7.A 2) (s7.n 2) (s7.c 2)) := HSZ.out.r7.cell 4
                have hc5 : wr.cell? ⟨P7, 5, none⟩ = some (.slice (s7.A 3) (s7.n 3) (s7.c 3)) := HSZ.out.r7.cell 5
                have HSM := Lib.hid (rsame_any num lsn s f num lsn s7 f Z wr HSZ.out.pp HSZ.out.p7 HSZ.out.le)
                rw [same_self] at HSM
                unfold pcs at HSM
                go_wp2_with fail
                refine HSM.out.mono ?_
                rintro e wz ⟨rfl, hbz⟩
                have HSE := Lib.hid (HSZ.out.then (hbz.mono HSZ.out.le))
                have HWE := Lib.hid (HWZ.out.below hbz HWZ.out.lt)
                have HOE := Lib.hid (HOZ.out.below hbz)
                clear HSM hbz HSZ HWZ HOZ hb0 hb1 hb2 hb3 hb4 hb5 hc0 hc1 hc2 hc3 hc4 hc5
                have HONE : Hid (∀ v ∈ pcs num l1 sk, v.oneCell' = true) := pcs_one
                have HPI : Hid ((Try.prog.info? 28).map (·.size) = some (pcs num l1 sk).length) := page_info
                have HLQ : Hid ((pcs num l1 sk).length = (pcs num lsn s).length) := (rfl : _ = _)
                have hd0 : wz.cell? ⟨P15, 0, none⟩ = some (.int .i64 num) := HWE.out.cell 0
                have hd1 : wz.cell? ⟨P15, 1, none⟩ = some (.int .u64 (l1 : Int)) := HWE.out.cell 1
                have hd2 : wz.cell? ⟨P15, 2, none⟩ = some (.slice (sk.A 0) (sk.n 0) (sk.c 0)) := HWE.out.cell 2
                have hd3 : wz.cell? ⟨P15, 3, none⟩ = some (.slice (sk.A 1) (sk.n 1) (sk.c 1)) := HWE.out.cell 3
                have hd4 : wz.cell? ⟨P15, 4, none⟩ = some (.slice (sk.A 2) (sk.n 2) (sk.c 2)) := HWE.out.cell 4
                have hd5 : wz.cell? ⟨P15, 5, none⟩ = some (.slice (sk.A 3) (sk.n 3) (sk.c 3)) := HWE.out.cell 5
                go_upto_region 42 with ((with_reducible refine wpList_store_whole (op := ⟨none, _, _, _, _, _⟩) ?_ 28 (.tmp 2) (.tmp 155) ?_ w.heap.size (pcs num l1 sk) ?_ ?_ 28 (pcs num lsn s) HSE.out.rp HLQ.out HONE.out HPI.out ?_))
                all_goals try (first | rfl | (simp; done))
                intro wf hr hg
                have hot := Out.grown hg
                have HPF : Hid (PI w num l1 (upd f k bb) sk wf) := ⟨hr, Pg.PO.at_ (base := U) (fun j hj => (HOE.out j hj).kept hg (own_ne (HOE.out j hj) HSE.out.rp (by decide)) : PO wf U (upd f k bb) sk), HLE53.out, HSE.out.hb.grown hg HSE.out.hb.size (fun k hk => by have := Option.some.inj hk; omega)⟩
                clear hr hg hot HSE HWE HOE HONE HPI HLQ hd0 hd1 hd2 hd3 hd4 hd5
                go_wp2
                go_roundw
                case rel => exact ⟨i + 1, by omega, by go_num, rfl, ⟨l1, upd f k bb, sk, HPF.out⟩⟩
                case measure => simp [intOf]; omega


theorem resT_PageSets : Try.f5.resultTypes = #[4] := by kernel_rfl
set_option maxRecDepth 100000 in
theorem lifted_PageSets (os : Os) (started : os.Started) (H : Type) (enc : TypeId × Value → H) :
    ReturnsInHanded {} Try.checked os 5 .any (Rows.pageSetsSpec.pre6 enc Try.prog Try.f5 Rows.pageSetsRow.domain false) (Rows.pageSetsSpec.post enc Try.prog Try.f5 false true false false) := by
  refine Lift.law_lift (C := Try.checked) (s := Rows.pageSetsSpec) (tb := 4) own laidOut started (by kernel_rfl) Try.func5
    (ChangeSpec.witness6 (enc := enc) (C := Try.checked) false ⟨#[], #[.agg #[.int .i64 0, .int .u64 0, .slice none 0 0, .slice none 0 0, .slice none 0 0, .slice none 0 0], .slice none 0 0], []⟩ 8 (by kernel_rfl) (by kernel_rfl) (by kernel_rfl) (by kernel_rfl))
    rfl resT_PageSets Try.underlying4 (by
      have hr : ∀ t ∈ ([28, 53] : List TypeId), Try.prog.readableRec t = true ∧ t < Try.prog.types.size := by
        intro t ht
        simp only [List.mem_cons, List.not_mem_nil, or_false] at ht
        rcases ht with rfl | rfl <;> exact ⟨by kernel_rfl, of_decide_eq_true (by kernel_rfl)⟩
      intro t ht
      exact hr t (by
        have ht' : t ∈ Try.f5.params.toList := ht
        rw [Try.params5] at ht'
        exact ht')) ?_
  intro W base args ds p hval0 hA0 hsz0
  have hval : ∀ (j : Nat) t v, Try.f5.params[j]? = some t → args[j]? = some v → Value.okWide Try.prog W .any base t v := hval0
  have hA : DataW.TrodAll enc Try.prog W 0 (fun _ => true) true Try.f5.params.toList args.toList ds p := hA0
  have hsz : (DataW.weightsEach Try.prog Try.f5.params.toList ds).all (· ≤ reachBytes) = true := hsz0
  clear hval0 hA0 hsz0
  rw [Try.params5] at hA hval hsz
  obtain ⟨v0, vs0, d0, ds0, p0, q0, hargs, rfl, rfl, h0, r0⟩ := trodAll_cons hA
  obtain ⟨v1, vs1, d1, ds1, p1, q1, rfl, rfl, rfl, h1, r1⟩ := trodAll_cons r0
  obtain ⟨rfl, rfl, rfl⟩ := trodAll_nil r1
  obtain rfl : args = #[v0, v1] := by cases args; simp_all
  obtain ⟨cs0, rfl, _⟩ := okWide_struct Try.underlying28 (hval 0 28 v0 rfl rfl)
  obtain ⟨fuel0, hf0⟩ := h0
  obtain ⟨o0, hcs0, hok0⟩ := open_page hf0 (by rw [List.all_eq_true] at hsz ⊢; intro z hz; exact hsz z (DataW.weights_mem_each (j := 0) (t := 28) (d := d0) rfl rfl z hz))
  have hv0 : Value.agg cs0 = .agg o0.cells.toArray := by
    have : cs0.toList = o0.cells := by simpa [Value.cells] using hcs0
    rw [← this]
  rw [hv0]
  obtain ⟨A1, n1, c1, os1, rfl, hl1, hlc1, hn1, hm1, ho1, hk1⟩ := open_puts (hval 1 53 v1 rfl rfl) h1 (by rw [List.all_eq_true] at hsz ⊢; intro z hz; exact hsz z (DataW.weights_mem_each (j := 1) (t := 53) (d := d1) rfl rfl z hz))
  exact ⟨rfl, sets_walk o0 A1 n1 c1 os1 W hok0 hl1 hlc1 hm1 ho1 hk1⟩

theorem proved_PageSets : Rows.PageSetsSaid :=
  OpenClaim.holds_of_wide 5 Try.f5 rfl rfl rfl rfl rfl rfl rfl ⟨rfl, rfl, rfl, rfl, rfl⟩ rfl rfl rfl rfl rfl (by kernel_rfl) Try.func5 (by kernel_rfl)
    (of_decide_eq_true (by kernel_rfl)) (by unfold Func.isWrapper; first | (rw [if_pos (by decide +kernel)]; kernel_rfl) | (rw [if_neg (by decide +kernel)]; exact ⟨rfl, rfl⟩))
    (fun os started H enc _ => lifted_PageSets os started H enc)
end Go.Proofs.Yteoopijcclfdcaa.PgSets
