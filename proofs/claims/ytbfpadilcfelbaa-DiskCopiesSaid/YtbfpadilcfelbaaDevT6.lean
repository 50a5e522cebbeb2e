/-
  The reference's Write.
-/
import Derived.Test.YtbfpadilcfelbaaDevT5
namespace Go.Proofs.Ytbfpadilcfelbaa.Dsk
open Go.RowKit Go.Proofs.Ytbfpadilcfelbaa.Wd

theorem wp_append_k {P : Program} {w : World} {o : Oper} {a : Act} {K : Act → World → Prop} {Q : Exit → Act → World → Prop} (s x : Operand) (t : TypeId)
    (ho : o.op = .call { callee := .builtin .append, args := #[s, x], argTypes := #[t, t] })
    (base : Nat) (e : TypeId) (i : TypeInfo) (z : Value) (size bytes : Nat) (ht : P.underlying t = some (.slice e)) (hi : P.info? e = some i) (hz : i.zero = some z) (hsize : i.size = size) (hby : i.bytes = bytes) (hzs : z.cells.size = size) (hsz : 0 < size)
    (v : Value) (n : Nat) (xs : List Value) (hs : a.eval s = v) (hown : w.ownsRow base e size v n xs)
    (A : Option Addr) (m c : Nat) (vs : List Value) (hx : a.eval x = .slice A m c) (hl : vs.length = m * size) (B : Nat) (hr : Vs w B A vs) (h1 : ∀ u ∈ vs, u.oneCell' = true) (hA : A = none → c = 0)
    (h63 : n + m ≤ maxLen) (hb : (n + m) * bytes ≤ 140737488355328) (hbase : base ≤ w.heap.size)
    (h : ∀ v' w', w'.ownsRow base e size v' (n + m) (xs ++ vs) → w.grownBy w' v.ownBlock → K (a.put o.dst v') w') : o.wp P a w K Q := by
  cases A with
  | none =>
    have h0 : m = 0 := by
      rcases Nat.eq_zero_or_pos m with h0 | h0
      · exact h0
      · obtain ⟨b, o, e, _⟩ := hr (by rw [hl]; exact Nat.mul_pos h0 hsz)
        cases e
    subst h0
    obtain rfl := hA rfl
    obtain rfl : vs = [] := List.eq_nil_of_length_eq_zero (by rw [hl, Nat.zero_mul])
    have hrun := run_append_owned_none (P := P) w base t o.type e i size ht hi v n xs hown
    unfold Oper.wp
    simp [execOp, ho, resolve, invoke, builtin, hs, hx, hrun, Result.andThen]
    exact h v w (by simpa using hown) (World.grownBy.refl _ _)
  | some ad =>
    refine wp_append_own w s x t ho base e i z size bytes ht hi hz hsize hby hzs hsz v n xs hs hown ad m c vs hx hl (fun j u hu => ?_) h1 h63 hb hbase fun v' w' h2 h3 _ => h v' w' h2 h3
    have hj : j < vs.length := (List.getElem?_eq_some_iff.1 hu).1
    obtain ⟨b, o, e, _, hc⟩ := hr (by omega)
    obtain rfl := Option.some.inj e
    rw [Addr.add_lit, hc j u hu]
theorem zero72 : (Try.prog.info? 72).bind (·.zero) = some (.agg (wcs (0, nought)).toArray) := by kernel_rfl
theorem info72 : (Try.prog.info? 72).map (fun i => (i.zero, i.size, i.bytes)) = some (some (.agg (wcs (0, nought)).toArray), 65, 72) := by kernel_rfl
theorem built72 (i : Int) (b : List UInt8) (hb : b.length = 64) : Try.prog.built 72 [(0, .int .i64 i), (1, .agg (bv b).toArray)] = some (wcs (i, b)).toArray := by
  have h := built_of (P := Try.prog) 72 [(0, .int .i64 i), (1, .agg (bv b).toArray)] _ [(0, 1), (1, 64)] (wcs (0, nought)) Try.underlying72 zero72 (by kernel_rfl)
  rw [h]
  have hn : (bv nought).length = 64 := by rw [bv_length]; rfl
  have hb' : (bv b).length = 64 := by rw [bv_length, hb]
  rw [fill_part _ _ 0 (.int .i64 i) [.int .i64 i] _ 0 rfl rfl (by simp [wcs])]
  have e1 : splice (wcs (0, nought)) 0 [.int .i64 i] = [.int .i64 i] ++ (bv nought ++ []) := by
    have := splice_mid [] [.int .i64 0] (bv nought) [.int .i64 i] 0 rfl rfl
    rw [List.append_nil]; exact this
  rw [e1, fill_part _ _ 1 (.agg (bv b).toArray) (bv b) _ 1 rfl (by rw [hb']; rfl) (by simp [hn, hb'])]
  rw [splice_mid [.int .i64 i] (bv nought) [] (bv b) 1 (by rw [hn, hb']) rfl]
  simp [Instr.fill, wcs]
/-- writes, cell by cell -/
theorem Wrs.vs {w : World} {B : Nat} {A : Option Addr} {ps : List (Int × List UInt8)} (h : Wrs w B A ps) (h64 : ∀ p ∈ ps, p.2.length = 64) : Vs w B A (ps.flatMap wcs) := fun hp => by
  have hl : (ps.flatMap wcs).length = ps.length * 65 := by
    rw [List.length_flatMap]
    have : ∀ (l : List (Int × List UInt8)), (∀ p ∈ l, p.2.length = 64) → (l.map fun p => (wcs p).length).sum = l.length * 65 := by
      intro l
      induction l with
      | nil => intro _; rfl
      | cons p l ih => intro hh; simp only [List.map_cons, List.sum_cons, List.length_cons]; rw [ih (fun q hq => hh q (by simp [hq])), wcs_len p (hh p (by simp))]; omega
    exact this ps h64
  by_cases h0 : ps.length = 0
  · rw [hl, h0] at hp; exact absurd hp (by decide)
  obtain ⟨b, o, e, hlt, hr⟩ := h (by omega)
  refine ⟨b, o, e, hlt, fun j v hj => ?_⟩
  have hjl : j < ps.length * 65 := by rw [← hl]; exact (List.getElem?_eq_some_iff.1 hj).1
  have hi : j / 65 < ps.length := by omega
  have hls : ∀ x ∈ ps.map wcs, x.length = 65 := fun x hx => by
    obtain ⟨p, hpp, rfl⟩ := List.mem_map.1 hx
    exact wcs_len p (h64 p hpp)
  have hf := flatm_get 65 (ps.map wcs) (j / 65) (j % 65) hls (by simpa using hi) (Nat.mod_lt _ (by omega))
  rw [show j / 65 * 65 + j % 65 = j from by omega] at hf
  have e2 : (ps.map wcs).getD (j / 65) [] = wcs (ps.getD (j / 65) (0, [])) := by
    simp [List.getD_eq_getElem?_getD, hi]
  rw [e2] at hf
  have h1 := (hr (j / 65) hi).2 (j % 65) v (by rw [← hf, ← List.flatMap_def]; exact hj)
  rwa [show o + j / 65 * 65 + j % 65 = o + j from by omega] at h1
theorem wcss_one (ps : List (Int × List UInt8)) : ∀ u ∈ ps.flatMap wcs, u.oneCell' = true := fun u hu => by
  obtain ⟨p, _, hp⟩ := List.mem_flatMap.1 hu
  exact wcs_one p u hp
theorem wcss_len (ps : List (Int × List UInt8)) (h64 : ∀ p ∈ ps, p.2.length = 64) : (ps.flatMap wcs).length = ps.length * 65 := by
  induction ps with
  | nil => rfl
  | cons p l ih => rw [List.flatMap_cons, List.length_append, ih (fun q hq => h64 q (by simp [hq])), wcs_len p (h64 p (by simp)), List.length_cons]; omega
/-- a row that holds writes reads so -/
theorem own_wrs {w : World} {base n : Nat} {v : Value} {ps : List (Int × List UInt8)} (h : w.ownsRow base 72 65 v n (ps.flatMap wcs)) (hn : 0 < n) (hp : ps.length = n) (h64 : ∀ p ∈ ps, p.2.length = 64) :
    ∃ g cap, v = .slice (some ⟨g, 0, none⟩) n cap ∧ base ≤ g ∧ g < w.heap.size ∧ n ≤ cap ∧ Wrs w w.heap.size (some ⟨g, 0, none⟩) ps := by
  obtain ⟨g, cap, rest, rfl, hb, hc, hr, _⟩ := own_row h hn
  refine ⟨g, cap, rfl, hb, hr.lt, hc, fun _ => ⟨g, 0, rfl, hr.lt, fun i hi => ?_⟩⟩
  have h65 : (ps.getD i (0, [])).2.length = 64 := h64 _ (by rw [List.getD_eq_getElem?_getD, List.getElem?_eq_getElem hi]; exact List.getElem_mem _)
  refine ⟨h65, Row.range hr fun j v hj => ?_⟩
  have hj65 : j < 65 := by have := (List.getElem?_eq_some_iff.1 hj).1; rwa [wcs_len _ h65] at this
  have hls : ∀ x ∈ ps.map wcs, x.length = 65 := fun x hx => by
    obtain ⟨p, hpp, rfl⟩ := List.mem_map.1 hx
    exact wcs_len p (h64 p hpp)
  have hf := flatm_get 65 (ps.map wcs) i j hls (by simpa using hi) hj65
  have e2 : (ps.map wcs).getD i [] = wcs (ps.getD i (0, [])) := by simp [List.getD_eq_getElem?_getD, hi]
  rw [e2, ← List.flatMap_def] at hf
  rw [Nat.zero_add, List.getElem?_append_left (by rw [wcss_len ps h64]; omega), hf]
  exact hj
theorem Wrs.cells {w w' : World} {g B : Nat} {ps : List (Int × List UInt8)} (h : Wrs w B (some ⟨g, 0, none⟩) ps) {B' : Nat} (hB : B ≤ B') (he : w'.heap[g]? = w.heap[g]?) : Wrs w' B' (some ⟨g, 0, none⟩) ps := fun hp => by
  obtain ⟨b, o, e, hlt, hr⟩ := h hp
  cases e
  exact ⟨g, 0, rfl, by omega, fun i hi => ⟨(hr i hi).1, range_kept (hr i hi).2 he⟩⟩
theorem Wrs.far {w : World} {g : Nat} {ps : List (Int × List UInt8)} (h : Wrs w w.heap.size (some ⟨g, 0, none⟩) ps) {p : Addr} (hg : g ≠ p.block) (v : Value) : Wrs (w.setCell p v) (w.setCell p v).heap.size (some ⟨g, 0, none⟩) ps :=
  h.cells (by simp [World.setCell]) (Below.heap_setCell w p v g hg)
theorem Wrs.grown {w w' : World} {g : Nat} {ps : List (Int × List UInt8)} {row : Option Nat} (h : Wrs w w.heap.size (some ⟨g, 0, none⟩) ps) (hg : w.grownBy w' row) (hr : some g ≠ row) : Wrs w' w'.heap.size (some ⟨g, 0, none⟩) ps := fun hp => by
  have h' := h hp
  obtain ⟨b, o, e, hlt, _⟩ := h'
  cases e
  exact h.cells hg.size (hg.block g hlt hr) hp
theorem RVat.put {w : World} {xs : List Nat} {safe : List (List UInt8)} {pend pend' : List (Int × List UInt8)} {dead dead' : Bool} {left left' fails fails' ops ops' : Int} {A A2 : Option Addr} {n c m c2 g k cap : Nat} (h : RVat w xs ⟨safe, pend, dead, left, fails, ops⟩ ⟨A, n, c, A2, m, c2⟩)
    (hl : pend'.length = k) (hc : k ≤ cap) (hw : Wrs w w.heap.size (some ⟨g, 0, none⟩) pend') (hg : g < w.heap.size) : RVat w (g :: xs) ⟨safe, pend', dead', left', fails', ops'⟩ ⟨A, n, c, some ⟨g, 0, none⟩, k, cap⟩ :=
  ⟨h.sl, hl, h.nc, hc, h.n0, (fun e => by cases e), h.sb, hw, (fun b o s e => List.mem_cons_of_mem _ (h.sx b o s e)), (fun b o s e => by cases e; simp), fun b hb => by
    rcases List.mem_cons.1 hb with rfl | hb
    · exact hg
    · exact h.lt b hb⟩
/-- the boxes of Write -/
structure Wr (w W : World) (vs : List Value) (b : List UInt8) : Prop where
  r0 : Row W w.heap.size 31 vs
  rb : Row W (w.heap.size + 1) 39 (bv b)
  r6 : Row W (w.heap.size + 1 + 1) 31 rz
  bel : Below w.heap.size w W
theorem Wr.sz {w W : World} {vs : List Value} {b : List UInt8} (h : Wr w W vs b) : w.heap.size + 1 + 1 + 1 ≤ W.heap.size := h.r6.lt
theorem Wr.alloc {w W : World} {vs : List Value} {b : List UInt8} (h : Wr w W vs b) (o : Obj) : Wr w (W.alloc o) vs b := ⟨h.r0.alloc o, h.rb.alloc o, h.r6.alloc o, h.bel.alloc h.bel.size o⟩
theorem Wr.grown {w W W' : World} {vs : List Value} {b : List UInt8} {row : Option Nat} (h : Wr w W vs b) (hg : W.grownBy W' row) (hr : ∀ k, row = some k → w.heap.size + 1 + 1 + 1 ≤ k) : Wr w W' vs b :=
  ⟨h.r0.grown hg (fun e => by have := hr _ e.symm; omega), h.rb.grown hg (fun e => by have := hr _ e.symm; omega), h.r6.grown hg (fun e => by have := hr _ e.symm; omega), h.bel.grown hg h.bel.size (fun k hk => by have := hr k hk; omega)⟩
theorem Wr.below {w W W' : World} {vs : List Value} {b : List UInt8} (h : Wr w W vs b) (hb : Below W.heap.size W W') : Wr w W' vs b :=
  ⟨h.r0.below hb h.r0.lt, h.rb.below hb h.rb.lt, h.r6.below hb h.r6.lt, h.bel.trans (hb.mono h.bel.size)⟩
theorem Wr.drew {w W : World} {vs : List Value} {b : List UInt8} (h : Wr w W vs b) : Wr w W.drew vs b := ⟨h.r0.drew, h.rb.drew, h.r6.drew, ⟨h.bel.os, h.bel.tape, h.bel.output, h.bel.size, h.bel.block⟩⟩
theorem Wr.put0 {w W W' : World} {vs vs' : List Value} {b : List UInt8} (h : Wr w W vs b) (hr : Row W' w.heap.size 31 vs') (hg : W.grownBy W' (some w.heap.size)) : Wr w W' vs' b :=
  ⟨hr, h.rb.grown hg (by simp), h.r6.grown hg (by simp; omega), h.bel.grown hg h.bel.size (fun k hk => by simp at hk; omega)⟩

set_option maxRecDepth 100000 in
set_option maxHeartbeats 8000000 in
theorem rwrite_any (x : RA) (r : RX) (xs : List Nat) (i : Int) (b : List UInt8) (w : World) (h : RVat w xs x r) (hg : RGood x) (hb : b.length = 64) :
    Calls Try.prog 30 #[x.val r, .int .i64 i, blk b] w (ROut w xs (x.writeR i b).1 (x.writeR i b).2) := by
  obtain ⟨safe, pend, dead, left, fails, ops⟩ := x
  obtain ⟨A, n, c, A2, m, c2⟩ := r
  have hsl : safe.length = n := h.sl
  have hpl : pend.length = m := h.pl
  have hm1 : m ≤ 1000000 := by have : pend.length ≤ 1000000 := hg.few; omega
  obtain ⟨am, ham⟩ : ∃ am, am = askedM dead n fails i := ⟨_, rfl⟩
  obtain ⟨dm, hdm⟩ : ∃ dm, dm = doneM dead left ops := ⟨_, rfl⟩
  have hf : fails ≤ 9223372036854775807 := hg.fails.2
  have hlf : left ≤ 9223372036854775807 := hg.left.2
  have hlf0 : -9223372036854775808 ≤ left := by have : -1 ≤ left := hg.left.1; omega
  have hops : ops ≤ 1000001 := hg.ops.2
  have hops0 : 0 ≤ ops := hg.ops.1
  obtain ⟨y, hy⟩ : ∃ y, y = ({ safe := safe, pend := pend, dead := dead, left := left, fails := fails, ops := ops } : RA).writeR i b := ⟨_, rfl⟩
  rw [← hy]
  have HY := Lib.hid hy
  clear hy
  have hp64 : ∀ p ∈ pend, p.2.length = 64 := fun p hp => (hg.inr p hp).2.2
  have HRV : Hid (∀ w', Below w.heap.size w w' → RVat w' xs ({ safe := safe, pend := pend, dead := dead, left := left, fails := fails, ops := ops } : RA) ⟨A, n, c, A2, m, c2⟩) := (show ∀ _, _ from fun w' hb => h.below hb)
  have HPV : Hid (Vs w w.heap.size A2 (pend.flatMap wcs)) := (show Vs _ _ _ _ from h.pb.vs hp64)
  have HPLEN : Hid ((pend.flatMap wcs).length = m * 65) := (show _ = _ by rw [wcss_len pend hp64, hpl])
  have HM0 : Hid (A2 = none → c2 = 0) := h.m0
  have HFM : Hid (pend.flatMap wcs ++ wcs (i, b) = (pend ++ [(i, b)]).flatMap wcs) := (show _ = _ by simp)
  have HPL1 : Hid ((pend ++ [(i, b)]).length = m + 1) := (show _ = _ by simp [hpl])
  have HP64 : Hid (∀ p ∈ pend ++ [(i, b)], p.2.length = 64) := (show ∀ p ∈ _, _ from fun p hp => by
    rcases List.mem_append.1 hp with hp | hp
    · exact hp64 p hp
    · obtain rfl := List.mem_singleton.1 hp
      exact hb)
  have HBU := Lib.hid (built72 i b hb)
  have HWL : Hid ((wcs (i, b)).length = (wcs (0, nought)).length) := (show _ = _ by rw [wcs_len _ hb, wcs_len _ rfl])
  have HWL2 : Hid ((wcs (i, b)).length = 1 * 65) := (show _ = _ by rw [wcs_len _ hb])
  have HSB : Hid ((Try.prog.info? 39).map (·.size) = some (bv b).length) := (show _ = _ by rw [bv_length, hb]; exact size39)
  obtain ⟨ie, hie, hz0, hz1, hz2⟩ := info_parts info72
  have HIE := Lib.hid hie
  have HZ0 : Hid (ie.zero = some (.agg (wcs (0, nought)).toArray)) := hz0
  have HZ1 := Lib.hid hz1
  have HZ2 := Lib.hid hz2
  have HSL := Lib.hid hsl
  have HPL := Lib.hid hpl
  have HAM := Lib.hid ham
  have HDM := Lib.hid hdm
  have HASK := Lib.hid (asked_any A n c A2 m c2 dead left fails ops i)
  have HDONE := Lib.hid (done_any A n c A2 m c2 dead left am.1 ops)
  clear h hg hsl hpl ham hdm hp64 hie hz0 hz1 hz2 hb
  obtain ⟨W1, hW1⟩ : ∃ W1, W1 = w.alloc (.cells (rcs ⟨A, n, c, A2, m, c2⟩ dead left fails ops).toArray 31) := ⟨_, rfl⟩
  obtain ⟨W2, hW2⟩ : ∃ W2, W2 = W1.alloc (.cells (bv b).toArray 39) := ⟨_, rfl⟩
  obtain ⟨W3, hW3⟩ : ∃ W3, W3 = W2.alloc (.cells rz.toArray 31) := ⟨_, rfl⟩
  have s1 : W1.heap.size = w.heap.size + 1 := by rw [hW1]; simp
  have s2 : W2.heap.size = w.heap.size + 1 + 1 := by rw [hW2]; simp [s1]
  have HWR0 : Hid (Wr w W3 (rcs ⟨A, n, c, A2, m, c2⟩ dead left fails ops) b) := (show Wr _ _ _ _ from ⟨by rw [hW3, hW2, hW1]; exact ((Row.new w _ (rcs ⟨A, n, c, A2, m, c2⟩ dead left fails ops)).alloc _).alloc _, by
    have := (Row.new W1 39 (bv b)).alloc (.cells rz.toArray 31)
    rw [s1] at this
    rw [hW3, hW2]; exact this, by
    have := Row.new W2 31 rz
    rw [s2] at this
    rw [hW3]; exact this, by
    rw [hW3, hW2, hW1]
    exact (((Below.refl _ _).alloc (Nat.le_refl _) _).alloc (by simp) _).alloc (by simp; omega) _⟩)
  have HW : Hid (W3 = ((w.alloc (.cells (rcs ⟨A, n, c, A2, m, c2⟩ dead left fails ops).toArray 31)).alloc (.cells (bv b).toArray 39)).alloc (.cells rz.toArray 31)) := (show _ = _ by rw [hW3, hW2, hW1])
  clear hW1 hW2 hW3 s1 s2
  show Calls _ _ #[.agg #[.slice A n c, .slice A2 m c2, .bool dead, .int .i64 left, .int .i64 fails, .int .i64 ops], .int .i64 i, .agg (bv b).toArray] w _
  go_enter Try.func30, Try.ntmps30
  go_wp2_with fail
  refine (HASK.out _ hf).mono ?_
  rintro e w1 ⟨rfl, hb1⟩
  have hb1' : Below W3.heap.size W3 w1 := by rw [HW.out]; exact hb1
  rw [← HAM.out]
  have HWR1 := Lib.hid (HWR0.out.below hb1')
  clear hb1 hb1' HW HWR0 HASK
  go_wp2_with (first
    | (with_reducible refine wpList_store_in (op := ⟨none, _, _, _, _, _⟩) ?_ 31 (.tmp 3) (.tmp 14) (by rfl) w.heap.size 0 (rcs ⟨A, n, c, A2, m, c2⟩ dead left am.1 ops) ?_ ?_ 31 (rcs ⟨A, n, c, A2, m, c2⟩ dead left fails ops) ?_ ?_ (rcs_one _ _ _ _ _) ?_ ?_))
  all_goals try (first | rfl | exact HWR1.out.r0 | exact size31 | exact size39 | (show 0 + 6 ≤ 6; decide) | (show 0 + 64 ≤ 64; decide))
  intro w2 hr hgr
  rw [splice_all _ _ (by rfl)] at hr
  have HWR2 := Lib.hid (HWR1.out.put0 hr hgr)
  have HAR : Hid (({ safe := safe, pend := pend, dead := dead, left := left, fails := fails, ops := ops } : RA).askR i = ({ safe := safe, pend := pend, dead := dead, left := left, fails := am.1, ops := ops }, am.2)) := (show _ = _ by
    rw [HAM.out, ← HSL.out]; rfl)
  clear hr hgr HWR1
  by_cases he : am.2 = 0
  case neg =>
    have hne : (am.2 != 0) = true := by simp [he]
    have HRR : Hid (({ safe := safe, pend := pend, dead := dead, left := left, fails := fails, ops := ops } : RA).writeR i b = ({ safe := safe, pend := pend, dead := dead, left := left, fails := am.1, ops := ops }, am.2)) := (show _ = _ by
      unfold RA.writeR
      rw [HAR.out]
      exact if_neg he)
    clear he
    go_wp2_with (first
      | (with_reducible refine wpList_load_mid (op := ⟨some 18, _, _, _, _, _⟩) ?_ 31 (.tmp 3) (by rfl) w.heap.size 0 ?_ (rcs ⟨A, n, c, A2, m, c2⟩ dead left am.1 ops) _ ?_ Try.underlying31 ?_ ?_ ?_)
      | (with_reducible refine wpList_store_in (op := ⟨none, _, _, _, _, _⟩) ?_ 31 (.tmp 6) (.tmp 18) (by rfl) (w.heap.size + 1 + 1) 0 (rcs ⟨A, n, c, A2, m, c2⟩ dead left am.1 ops) ?_ ?_ 31 rz ?_ ?_ (rcs_one _ _ _ _ _) ?_ ?_))
    all_goals try (first | rfl | exact Row.all HWR2.out.r0 | exact HWR2.out.r6 | exact size31 | exact size39 | (show 0 + 6 ≤ 6; decide) | (show 0 + 64 ≤ 64; decide))
    intro w3 hr hgr
    rw [splice_all _ _ (by rfl)] at hr
    have T1 := Lib.hid hr
    have TB := Lib.hid (HWR2.out.bel.grown hgr HWR2.out.bel.size (fun k hk => by simp at hk; omega))
    clear hr hgr HWR2
    go_wp2
    refine bodyPost_ret (v := .tuple #[.agg (rcs ⟨A, n, c, A2, m, c2⟩ dead left am.1 ops).toArray, .int .i64 am.2]) (results_ct (p := 6) (q := 7) (ty := 31) rfl _ _ ⟨w.heap.size + 1 + 1, 0, none⟩ _ _ rfl (run_load_rcs _ _ _ rfl T1.out) rfl) rfl ?_
    rw [HY.out, HRR.out]
    exact ⟨⟨A, n, c, A2, m, c2⟩, xs, rfl, (HRV.out _ TB.out).turn rfl rfl, fun b hb => .inl hb, TB.out⟩
  have hne : (am.2 != 0) = false := by simp [he]
  go_wp2_with (first
    | (with_reducible refine wpList_load_mid (op := ⟨some 21, _, _, _, _, _⟩) ?_ 31 (.tmp 3) (by rfl) w.heap.size 0 ?_ (rcs ⟨A, n, c, A2, m, c2⟩ dead left am.1 ops) _ ?_ Try.underlying31 ?_ ?_ ?_))
  all_goals try (first | rfl | exact Row.all HWR2.out.r0 | exact size31 | exact size39 | (show 0 + 6 ≤ 6; decide) | (show 0 + 64 ≤ 64; decide))
  refine (HDONE.out _ hlf hlf0 hops0 (by omega)).mono ?_
  rintro e w3 ⟨rfl, hb3⟩
  rw [← HDM.out]
  have HWR3 := Lib.hid (HWR2.out.below hb3)
  have HDR : Hid (({ safe := safe, pend := pend, dead := dead, left := left, fails := am.1, ops := ops } : RA).doneR = ({ safe := safe, pend := pend, dead := dm.1, left := dm.2.1, fails := am.1, ops := dm.2.2.1 }, dm.2.2.2)) := (show _ = _ by rw [HDM.out]; rfl)
  clear hb3 HWR2 HDONE
  go_wp2_with (first
    | (with_reducible refine wpList_store_in (op := ⟨none, _, _, _, _, _⟩) ?_ 31 (.tmp 3) (.tmp 23) (by rfl) w.heap.size 0 (rcs ⟨A, n, c, A2, m, c2⟩ dm.1 dm.2.1 am.1 dm.2.2.1) ?_ ?_ 31 (rcs ⟨A, n, c, A2, m, c2⟩ dead left am.1 ops) ?_ ?_ (rcs_one _ _ _ _ _) ?_ ?_))
  all_goals try (first | rfl | exact HWR3.out.r0 | exact size31 | exact size39 | (show 0 + 6 ≤ 6; decide) | (show 0 + 64 ≤ 64; decide))
  intro w4 hr hgr
  rw [splice_all _ _ (by rfl)] at hr
  have HWR4 := Lib.hid (HWR3.out.put0 hr hgr)
  clear hr hgr HWR3
  cases hok : dm.2.2.2 with
  | false =>
    have HRR : Hid (({ safe := safe, pend := pend, dead := dead, left := left, fails := fails, ops := ops } : RA).writeR i b = ({ safe := safe, pend := pend, dead := dm.1, left := dm.2.1, fails := am.1, ops := dm.2.2.1 }, 9)) := (show _ = _ by
      unfold RA.writeR
      rw [HAR.out, if_pos he]
      dsimp only
      rw [HDR.out, if_neg (by rw [hok]; decide)])
    clear he hok
    go_wp2_with (first
      | (with_reducible refine wpList_load_mid (op := ⟨some 27, _, _, _, _, _⟩) ?_ 31 (.tmp 3) (by rfl) w.heap.size 0 ?_ (rcs ⟨A, n, c, A2, m, c2⟩ dm.1 dm.2.1 am.1 dm.2.2.1) _ ?_ Try.underlying31 ?_ ?_ ?_)
      | (with_reducible refine wpList_store_in (op := ⟨none, _, _, _, _, _⟩) ?_ 31 (.tmp 6) (.tmp 27) (by rfl) (w.heap.size + 1 + 1) 0 (rcs ⟨A, n, c, A2, m, c2⟩ dm.1 dm.2.1 am.1 dm.2.2.1) ?_ ?_ 31 rz ?_ ?_ (rcs_one _ _ _ _ _) ?_ ?_))
    all_goals try (first | rfl | exact Row.all HWR4.out.r0 | exact HWR4.out.r6 | exact size31 | exact size39 | (show 0 + 6 ≤ 6; decide) | (show 0 + 64 ≤ 64; decide))
    intro w5 hr hgr
    rw [splice_all _ _ (by rfl)] at hr
    have T1 := Lib.hid hr
    have TB := Lib.hid (HWR4.out.bel.grown hgr HWR4.out.bel.size (fun k hk => by simp at hk; omega))
    clear hr hgr HWR4
    go_wp2
    refine bodyPost_ret (v := .tuple #[.agg (rcs ⟨A, n, c, A2, m, c2⟩ dm.1 dm.2.1 am.1 dm.2.2.1).toArray, .int .i64 9]) (results_ct (p := 6) (q := 7) (ty := 31) rfl _ _ ⟨w.heap.size + 1 + 1, 0, none⟩ _ _ rfl (run_load_rcs _ _ _ rfl T1.out) rfl) rfl ?_
    rw [HY.out, HRR.out]
    exact ⟨⟨A, n, c, A2, m, c2⟩, xs, rfl, (HRV.out _ TB.out).turn rfl rfl, fun b hb => .inl hb, TB.out⟩
  | true =>
    have HOK2 : Hid (({ safe := safe, pend := pend, dead := dead, left := left, fails := fails, ops := ops } : RA).writeR i b = ({ safe := safe, pend := pend ++ [(i, b)], dead := dm.1, left := dm.2.1, fails := am.1, ops := dm.2.2.1 }, 0)) := (show _ = _ by
      unfold RA.writeR
      rw [HAR.out, if_pos he]
      dsimp only
      rw [HDR.out, if_pos hok])
    clear he hok
    have HWR := HWR4
    clear HWR4 w3
    obtain ⟨w3, rfl⟩ : ∃ w3 : World, w3 = w4 := ⟨_, rfl⟩
    go_wp2_with fail
    refine wp_region_held_drew (S := fun w' : World => w'.rangeAt (w.heap.size + 1) 0 (bv b)) (by kernel_rfl) (Row.all HWR.out.rb) (fun hHeld => ?_)
    refine wpAnyH_take (i := 1) (oi := ⟨some 29, _, _, _, _, _⟩) (v := ?v1) rfl (by kernel_rfl) (by kernel_rfl) (by kernel_rfl) (fun _ _ _ h => h) (Or.inl ⟨by rfl, ?y1⟩) hHeld ?r1
    case y1 =>
      rintro w' q0
      go_simp
      try with_reducible rfl
    try simp only [Act.put, List.setIfInBounds_toArray, List.set_cons_zero, List.set_cons_succ]
    refine wpAnyH_take (i := 4) (oi := ⟨some 32, _, _, _, _, _⟩) (v := ?v4) rfl (by kernel_rfl) (by kernel_rfl) (by kernel_rfl) (fun _ _ _ h => h) (Or.inl ⟨by rfl, ?y4⟩) hHeld ?r4
    case y4 =>
      rintro w' q0
      go_simp
      try with_reducible rfl
    try simp only [Act.put, List.setIfInBounds_toArray, List.set_cons_zero, List.set_cons_succ]
    refine wpAnyH_take (i := 5) (oi := ⟨some 33, _, _, _, _, _⟩) rfl (by kernel_rfl) (by kernel_rfl) (by kernel_rfl) (fun _ _ _ h => h) (yieldsIf_load_mid (by rfl) 39 (.tmp 5) rfl (w.heap.size + 1) 0 ?x5 (bv b) _ (fun _ hS => hS) Try.underlying39 rfl HSB.out) hHeld ?r5
    case x5 => first | rfl | (simp [Act.eval, go_sem]; done)
    try simp only [Act.put, List.setIfInBounds_toArray, List.set_cons_zero, List.set_cons_succ]
    refine wpAnyH_take (i := 6) (oi := ⟨some 34, _, _, _, _, _⟩) rfl (by kernel_rfl) (by kernel_rfl) (by kernel_rfl) (fun _ _ _ h => h) (yieldsIf_build (by rfl) 72 _ rfl (wcs (i, b)).toArray ?x6) hHeld ?r6
    case x6 => first | exact HBU.out | (simp only [List.map_toArray, List.map_cons, List.map_nil, List.toList_toArray]; exact HBU.out)
    try simp only [Act.put, List.setIfInBounds_toArray, List.set_cons_zero, List.set_cons_succ]
    have HW0 := Lib.hid HWR.out.drew
    clear hHeld HWR
    generalize w3.drew = W0 at HW0 ⊢
    refine wpAnyH_ready (rs := [0, 2, 7]) (by kernel_rfl) (by simp) ?_
    refine (AllReadyH.cons rfl (fun K hK => ?_) (AllReadyH.cons rfl (fun K hK => ?_) (AllReadyH.cons rfl (fun K hK => ?_) AllReadyH.nil)))
    · rw [if_pos (by rfl)]
      go_simp
      have OW1 : Hid ((W0.alloc (.cells #[] 72)).ownsRow (w.heap.size + 1 + 1 + 1) 72 65 (.slice (some ⟨W0.heap.size, 0, none⟩) 0 0) 0 []) := (show World.ownsRow _ _ _ _ _ _ _ from World.ownsRow_made W0 #[] 0 HW0.out.sz (Nat.zero_le _) rfl)
      have HW1 := Lib.hid (HW0.out.alloc (.cells #[] 72))
      obtain ⟨g0, hg0⟩ : ∃ g0, g0 = W0.heap.size := ⟨_, rfl⟩
      rw [← hg0] at OW1 ⊢
      clear hg0
      generalize W0.alloc (.cells #[] 72) = W1 at OW1 HW1  ⊢
      refine hK _ _ (Row.all HW1.out.rb) (fun _ => ?_)
      clear hK K
      try simp only [Act.put, List.setIfInBounds_toArray, List.set_cons_zero, List.set_cons_succ]
      refine wpAnyH_ready (rs := [2, 7]) (by kernel_rfl) (by simp) ?_
      refine (AllReadyH.cons rfl (fun K hK => ?_) (AllReadyH.cons rfl (fun K hK => ?_) AllReadyH.nil))
      · rw [if_pos (by rfl)]
        have c1 : W1.cell? ⟨w.heap.size, 1, none⟩ = some (.slice A2 m c2) := HW1.out.r0.cell 1
        go_simp
        refine hK _ _ (Row.all HW1.out.rb) (fun _ => ?_)
        clear hK K c1
        try simp only [Act.put, List.setIfInBounds_toArray, List.set_cons_zero, List.set_cons_succ]
        refine wpAnyH_ready (rs := [3, 7]) (by kernel_rfl) (by simp) ?_
        refine (AllReadyH.cons rfl (fun K hK => ?_) (AllReadyH.cons rfl (fun K hK => ?_) AllReadyH.nil))
        · rw [if_pos (by rfl)]
          refine wp_append_k (.tmp 28) (.tmp 30) 29 rfl (w.heap.size + 1 + 1 + 1) 72 ie _ 65 72 Try.underlying29 HIE.out HZ0.out HZ1.out HZ2.out rfl (by decide) (.slice (some ⟨g0, 0, none⟩) 0 0) 0 [] rfl OW1.out A2 m c2 (pend.flatMap wcs) rfl HPLEN.out w.heap.size (HPV.out.below HW1.out.bel) (wcss_one _) HM0.out (by unfold maxLen; omega) (by omega) HW1.out.sz ?_
          intro v3 W3 hown3 hg3
          have hx3 : ∀ q, some g0 = some q → w.heap.size + 1 + 1 + 1 ≤ q := fun q hq => (World.ownsRow.lt OW1.out q (by simpa [Value.ownBlock] using hq)).1
          have HW3 := Lib.hid (HW1.out.grown hg3 (fun q hq => hx3 q (by simpa [Value.ownBlock] using hq)))
          have OW3 : Hid (W3.ownsRow (w.heap.size + 1 + 1 + 1) 72 65 v3 m (pend.flatMap wcs)) := (show World.ownsRow _ _ _ _ _ _ _ from by simpa using hown3)
          refine hK _ _ (Row.all HW3.out.rb) (fun _ => ?_)
          clear hK K hown3 hg3
          try simp only [Act.put, List.setIfInBounds_toArray, List.set_cons_zero, List.set_cons_succ]
          refine wpAnyH_ready (rs := [7]) (by kernel_rfl) (by simp) ?_
          refine (AllReadyH.cons rfl (fun K hK => ?_) AllReadyH.nil)
          rw [if_pos (by rfl)]
          refine wp_buildOne 29 72 (.tmp 34) rfl (wcs (i, b)) (wcs (0, nought)) ie rfl Try.underlying29 HIE.out HZ0.out (HZ1.out.trans rfl) HWL.out (by decide) (by decide) ?_
          have RN4 : Hid (Row (W3.alloc (.cells (wcs (i, b)).toArray 72)) W3.heap.size 72 (wcs (i, b))) := Row.new W3 _ _
          have HW4 := Lib.hid (HW3.out.alloc (.cells (wcs (i, b)).toArray 72))
          have OW4 := Lib.hid (OW3.out.alloc (.cells (wcs (i, b)).toArray 72))
          obtain ⟨g7, hg7⟩ : ∃ g7, g7 = W3.heap.size := ⟨_, rfl⟩
          have hg7s : w.heap.size + 1 + 1 + 1 ≤ g7 := by rw [hg7]; exact HW3.out.sz
          rw [← hg7] at RN4 ⊢
          clear hg7
          generalize W3.alloc (.cells (wcs (i, b)).toArray 72) = W4 at RN4 HW4 OW4 ⊢
          refine hK _ _ (Row.all HW4.out.rb) (fun _ => ?_)
          clear hK K
          try simp only [Act.put, List.setIfInBounds_toArray, List.set_cons_zero, List.set_cons_succ]
          refine wpAnyH_ready (rs := [8]) (by kernel_rfl) (by simp) ?_
          refine (AllReadyH.cons rfl (fun K hK => ?_) AllReadyH.nil)
          rw [if_pos (by rfl)]
          refine wp_append_own _ (.tmp 31) (.tmp 35) 29 rfl (w.heap.size + 1 + 1 + 1) 72 ie _ 65 72 Try.underlying29 HIE.out HZ0.out HZ1.out HZ2.out rfl (by decide) v3 m (pend.flatMap wcs) rfl OW4.out ⟨g7, 0, none⟩ 1 1 (wcs (i, b)) rfl (HWL2.out) (fun j u hu => by rw [Addr.add_lit, Nat.zero_add, RN4.out.cell]; exact hu) (wcs_one _) (by unfold maxLen; omega) (by omega) HW4.out.sz ?_
          intro v8 W5 hown8 hg8 _
          have HW5 := Lib.hid (HW4.out.grown hg8 (fun q hq => (World.ownsRow.lt OW4.out q hq).1))
          rw [HFM.out] at hown8
          obtain ⟨g8, cap8, rfl, hgb8, hgl8, hgc8, hwr8⟩ := own_wrs hown8 (by omega) HPL1.out HP64.out
          have HWR8 := Lib.hid hwr8
          clear hown8 hg8 hwr8
          refine hK _ _ (Row.all HW5.out.rb) (fun _ => ?_)
          clear hK K
          try simp only [Act.put, List.setIfInBounds_toArray, List.set_cons_zero, List.set_cons_succ]
          have hHeld := Row.all HW5.out.rb
          refine wpAnyH_take (i := 9) (oi := ⟨some 37, _, _, _, _, _⟩) (v := ?v9x5) rfl (by kernel_rfl) (by kernel_rfl) (by kernel_rfl) (fun _ _ _ h => h) (Or.inl ⟨by rfl, ?y9x5⟩) hHeld ?r9x5
          case y9x5 =>
            rintro w' q0
            go_simp
            try with_reducible rfl
          try simp only [Act.put, List.setIfInBounds_toArray, List.set_cons_zero, List.set_cons_succ]
          clear hHeld
          refine wpAnyH_ready (rs := [10]) (by kernel_rfl) (by simp) ?_
          refine AllReadyH.cons rfl (fun K hK => ?_) AllReadyH.nil
          rw [if_pos (by rfl)]
          have c1 : W5.cell? ⟨w.heap.size, 1, none⟩ = some (.slice A2 m c2) := HW5.out.r0.cell 1
          have f1 := HW5.out.r0.frozen 1
          go_simp
          have HWF : Hid (Wr w (W5.setCell ⟨w.heap.size, 1, none⟩ (.slice (some ⟨g8, 0, none⟩) (m + 1) cap8)) (rcs ⟨A, n, c, some ⟨g8, 0, none⟩, m + 1, cap8⟩ dm.1 dm.2.1 am.1 dm.2.2.1) b) := (show Wr _ _ _ _ from ⟨HW5.out.r0.store 1 _, HW5.out.rb.far (by simp) _, HW5.out.r6.far (by simp; omega) _, HW5.out.bel.setCell (p := ⟨w.heap.size, 1, none⟩) (Nat.le_refl _) _⟩)
          have HWX := Lib.hid (Wrs.far HWR8.out (p := ⟨w.heap.size, 1, none⟩) (by simp; omega) (.slice (some ⟨g8, 0, none⟩) (m + 1) cap8))
          clear c1 f1 HWR8 HW5
          generalize W5.setCell ⟨w.heap.size, 1, none⟩ (.slice (some ⟨g8, 0, none⟩) (m + 1) cap8) = Wf at HWF HWX ⊢
          refine hK _ _ (Row.all HWF.out.rb) (fun _ => ?_)
          clear hK K
          try simp only [Act.put, List.setIfInBounds_toArray, List.set_cons_zero, List.set_cons_succ]
          refine wpAnyH_done (by kernel_rfl) ?_ _
          go_wp2_with (first
            | (with_reducible refine wpList_load_mid (op := ⟨some 38, _, _, _, _, _⟩) ?_ 31 (.tmp 3) (by rfl) w.heap.size 0 ?_ (rcs ⟨A, n, c, some ⟨g8, 0, none⟩, m + 1, cap8⟩ dm.1 dm.2.1 am.1 dm.2.2.1) _ ?_ Try.underlying31 ?_ ?_ ?_)
            | (with_reducible refine wpList_store_in (op := ⟨none, _, _, _, _, _⟩) ?_ 31 (.tmp 6) (.tmp 38) (by rfl) (w.heap.size + 1 + 1) 0 (rcs ⟨A, n, c, some ⟨g8, 0, none⟩, m + 1, cap8⟩ dm.1 dm.2.1 am.1 dm.2.2.1) ?_ ?_ 31 rz ?_ ?_ (rcs_one _ _ _ _ _) ?_ ?_))
          all_goals try (first | rfl | exact Row.all HWF.out.r0 | exact HWF.out.r6 | exact size31 | exact size39 | (show 0 + 6 ≤ 6; decide) | (show 0 + 64 ≤ 64; decide))
          intro w9 hr hgr
          rw [splice_all _ _ (by rfl)] at hr
          have T1 := Lib.hid hr
          have TB := Lib.hid (HWF.out.bel.grown hgr HWF.out.bel.size (fun k hk => by simp at hk; omega))
          have TW := Lib.hid (Wrs.grown HWX.out hgr (by simp; omega))
          have hg9 : g8 < w9.heap.size := by
            obtain ⟨b', o', e', hlt', _⟩ := TW.out (by rw [HPL1.out]; omega)
            cases e'; exact hlt'
          clear hr hgr HWF HWX
          go_wp2
          refine bodyPost_ret (v := .tuple #[.agg (rcs ⟨A, n, c, some ⟨g8, 0, none⟩, m + 1, cap8⟩ dm.1 dm.2.1 am.1 dm.2.2.1).toArray, .int .i64 0]) (results_ct (p := 6) (q := 7) (ty := 31) rfl _ _ ⟨w.heap.size + 1 + 1, 0, none⟩ _ _ rfl (run_load_rcs _ _ _ rfl T1.out) rfl) rfl ?_
          rw [HY.out, HOK2.out]
          exact ⟨⟨A, n, c, some ⟨g8, 0, none⟩, m + 1, cap8⟩, g8 :: xs, rfl, RVat.put (HRV.out _ TB.out) HPL1.out hgc8 TW.out hg9, (fun q hq => by rcases List.mem_cons.1 hq with rfl | hq; exact .inr (by omega); exact .inl hq), TB.out⟩
        · rw [if_pos (by rfl)]
          refine wp_buildOne 29 72 (.tmp 34) rfl (wcs (i, b)) (wcs (0, nought)) ie rfl Try.underlying29 HIE.out HZ0.out (HZ1.out.trans rfl) HWL.out (by decide) (by decide) ?_
          have RN6 : Hid (Row (W1.alloc (.cells (wcs (i, b)).toArray 72)) W1.heap.size 72 (wcs (i, b))) := Row.new W1 _ _
          have HW6 := Lib.hid (HW1.out.alloc (.cells (wcs (i, b)).toArray 72))
          have OW6 := Lib.hid (OW1.out.alloc (.cells (wcs (i, b)).toArray 72))
          obtain ⟨g7, hg7⟩ : ∃ g7, g7 = W1.heap.size := ⟨_, rfl⟩
          have hg7s : w.heap.size + 1 + 1 + 1 ≤ g7 := by rw [hg7]; exact HW1.out.sz
          rw [← hg7] at RN6 ⊢
          have hg07 : g7 ≠ g0 := by have := (World.ownsRow.lt OW1.out g0 rfl).2; omega
          clear hg7
          generalize W1.alloc (.cells (wcs (i, b)).toArray 72) = W6 at RN6 HW6 OW6 ⊢
          refine hK _ _ (Row.all HW6.out.rb) (fun _ => ?_)
          clear hK K
          try simp only [Act.put, List.setIfInBounds_toArray, List.set_cons_zero, List.set_cons_succ]
          refine wpAnyH_ready (rs := [3]) (by kernel_rfl) (by simp) ?_
          refine (AllReadyH.cons rfl (fun K hK => ?_) AllReadyH.nil)
          rw [if_pos (by rfl)]
          refine wp_append_k (.tmp 28) (.tmp 30) 29 rfl (w.heap.size + 1 + 1 + 1) 72 ie _ 65 72 Try.underlying29 HIE.out HZ0.out HZ1.out HZ2.out rfl (by decide) (.slice (some ⟨g0, 0, none⟩) 0 0) 0 [] rfl OW6.out A2 m c2 (pend.flatMap wcs) rfl HPLEN.out w.heap.size (HPV.out.below HW6.out.bel) (wcss_one _) HM0.out (by unfold maxLen; omega) (by omega) HW6.out.sz ?_
          intro v3 W7 hown3 hg3
          have hx3 : ∀ q, some g0 = some q → w.heap.size + 1 + 1 + 1 ≤ q := fun q hq => (World.ownsRow.lt OW6.out q (by simpa [Value.ownBlock] using hq)).1
          have HW7 := Lib.hid (HW6.out.grown hg3 (fun q hq => hx3 q (by simpa [Value.ownBlock] using hq)))
          have OW7 : Hid (W7.ownsRow (w.heap.size + 1 + 1 + 1) 72 65 v3 m (pend.flatMap wcs)) := (show World.ownsRow _ _ _ _ _ _ _ from by simpa using hown3)
          have RN7 := Lib.hid (RN6.out.grown hg3 (fun e => hg07 (by simpa [Value.ownBlock] using e)))
          refine hK _ _ (Row.all HW7.out.rb) (fun _ => ?_)
          clear hK K hown3 hg3
          try simp only [Act.put, List.setIfInBounds_toArray, List.set_cons_zero, List.set_cons_succ]
          refine wpAnyH_ready (rs := [8]) (by kernel_rfl) (by simp) ?_
          refine (AllReadyH.cons rfl (fun K hK => ?_) AllReadyH.nil)
          rw [if_pos (by rfl)]
          refine wp_append_own _ (.tmp 31) (.tmp 35) 29 rfl (w.heap.size + 1 + 1 + 1) 72 ie _ 65 72 Try.underlying29 HIE.out HZ0.out HZ1.out HZ2.out rfl (by decide) v3 m (pend.flatMap wcs) rfl OW7.out ⟨g7, 0, none⟩ 1 1 (wcs (i, b)) rfl (HWL2.out) (fun j u hu => by rw [Addr.add_lit, Nat.zero_add, RN7.out.cell]; exact hu) (wcs_one _) (by unfold maxLen; omega) (by omega) HW7.out.sz ?_
          intro v8 W8 hown8 hg8 _
          have HW8 := Lib.hid (HW7.out.grown hg8 (fun q hq => (World.ownsRow.lt OW7.out q hq).1))
          rw [HFM.out] at hown8
          obtain ⟨g8, cap8, rfl, hgb8, hgl8, hgc8, hwr8⟩ := own_wrs hown8 (by omega) HPL1.out HP64.out
          have HWR8 := Lib.hid hwr8
          clear hown8 hg8 hwr8
          refine hK _ _ (Row.all HW8.out.rb) (fun _ => ?_)
          clear hK K
          try simp only [Act.put, List.setIfInBounds_toArray, List.set_cons_zero, List.set_cons_succ]
          have hHeld := Row.all HW8.out.rb
          refine wpAnyH_take (i := 9) (oi := ⟨some 37, _, _, _, _, _⟩) (v := ?v9x8) rfl (by kernel_rfl) (by kernel_rfl) (by kernel_rfl) (fun _ _ _ h => h) (Or.inl ⟨by rfl, ?y9x8⟩) hHeld ?r9x8
          case y9x8 =>
            rintro w' q0
            go_simp
            try with_reducible rfl
          try simp only [Act.put, List.setIfInBounds_toArray, List.set_cons_zero, List.set_cons_succ]
          clear hHeld
          refine wpAnyH_ready (rs := [10]) (by kernel_rfl) (by simp) ?_
          refine AllReadyH.cons rfl (fun K hK => ?_) AllReadyH.nil
          rw [if_pos (by rfl)]
          have c1 : W8.cell? ⟨w.heap.size, 1, none⟩ = some (.slice A2 m c2) := HW8.out.r0.cell 1
          have f1 := HW8.out.r0.frozen 1
          go_simp
          have HWF : Hid (Wr w (W8.setCell ⟨w.heap.size, 1, none⟩ (.slice (some ⟨g8, 0, none⟩) (m + 1) cap8)) (rcs ⟨A, n, c, some ⟨g8, 0, none⟩, m + 1, cap8⟩ dm.1 dm.2.1 am.1 dm.2.2.1) b) := (show Wr _ _ _ _ from ⟨HW8.out.r0.store 1 _, HW8.out.rb.far (by simp) _, HW8.out.r6.far (by simp; omega) _, HW8.out.bel.setCell (p := ⟨w.heap.size, 1, none⟩) (Nat.le_refl _) _⟩)
          have HWX := Lib.hid (Wrs.far HWR8.out (p := ⟨w.heap.size, 1, none⟩) (by simp; omega) (.slice (some ⟨g8, 0, none⟩) (m + 1) cap8))
          clear c1 f1 HWR8 HW8
          generalize W8.setCell ⟨w.heap.size, 1, none⟩ (.slice (some ⟨g8, 0, none⟩) (m + 1) cap8) = Wf at HWF HWX ⊢
          refine hK _ _ (Row.all HWF.out.rb) (fun _ => ?_)
          clear hK K
          try simp only [Act.put, List.setIfInBounds_toArray, List.set_cons_zero, List.set_cons_succ]
          refine wpAnyH_done (by kernel_rfl) ?_ _
          go_wp2_with (first
            | (with_reducible refine wpList_load_mid (op := ⟨some 38, _, _, _, _, _⟩) ?_ 31 (.tmp 3) (by rfl) w.heap.size 0 ?_ (rcs ⟨A, n, c, some ⟨g8, 0, none⟩, m + 1, cap8⟩ dm.1 dm.2.1 am.1 dm.2.2.1) _ ?_ Try.underlying31 ?_ ?_ ?_)
            | (with_reducible refine wpList_store_in (op := ⟨none, _, _, _, _, _⟩) ?_ 31 (.tmp 6) (.tmp 38) (by rfl) (w.heap.size + 1 + 1) 0 (rcs ⟨A, n, c, some ⟨g8, 0, none⟩, m + 1, cap8⟩ dm.1 dm.2.1 am.1 dm.2.2.1) ?_ ?_ 31 rz ?_ ?_ (rcs_one _ _ _ _ _) ?_ ?_))
          all_goals try (first | rfl | exact Row.all HWF.out.r0 | exact HWF.out.r6 | exact size31 | exact size39 | (show 0 + 6 ≤ 6; decide) | (show 0 + 64 ≤ 64; decide))
          intro w9 hr hgr
          rw [splice_all _ _ (by rfl)] at hr
          have T1 := Lib.hid hr
          have TB := Lib.hid (HWF.out.bel.grown hgr HWF.out.bel.size (fun k hk => by simp at hk; omega))
          have TW := Lib.hid (Wrs.grown HWX.out hgr (by simp; omega))
          have hg9 : g8 < w9.heap.size := by
            obtain ⟨b', o', e', hlt', _⟩ := TW.out (by rw [HPL1.out]; omega)
            cases e'; exact hlt'
          clear hr hgr HWF HWX
          go_wp2
          refine bodyPost_ret (v := .tuple #[.agg (rcs ⟨A, n, c, some ⟨g8, 0, none⟩, m + 1, cap8⟩ dm.1 dm.2.1 am.1 dm.2.2.1).toArray, .int .i64 0]) (results_ct (p := 6) (q := 7) (ty := 31) rfl _ _ ⟨w.heap.size + 1 + 1, 0, none⟩ _ _ rfl (run_load_rcs _ _ _ rfl T1.out) rfl) rfl ?_
          rw [HY.out, HOK2.out]
          exact ⟨⟨A, n, c, some ⟨g8, 0, none⟩, m + 1, cap8⟩, g8 :: xs, rfl, RVat.put (HRV.out _ TB.out) HPL1.out hgc8 TW.out hg9, (fun q hq => by rcases List.mem_cons.1 hq with rfl | hq; exact .inr (by omega); exact .inl hq), TB.out⟩
      · rw [if_pos (by rfl)]
        refine wp_buildOne 29 72 (.tmp 34) rfl (wcs (i, b)) (wcs (0, nought)) ie rfl Try.underlying29 HIE.out HZ0.out (HZ1.out.trans rfl) HWL.out (by decide) (by decide) ?_
        have RN9 : Hid (Row (W1.alloc (.cells (wcs (i, b)).toArray 72)) W1.heap.size 72 (wcs (i, b))) := Row.new W1 _ _
        have HW9 := Lib.hid (HW1.out.alloc (.cells (wcs (i, b)).toArray 72))
        have OW9 := Lib.hid (OW1.out.alloc (.cells (wcs (i, b)).toArray 72))
        obtain ⟨g7, hg7⟩ : ∃ g7, g7 = W1.heap.size := ⟨_, rfl⟩
        have hg7s : w.heap.size + 1 + 1 + 1 ≤ g7 := by rw [hg7]; exact HW1.out.sz
        rw [← hg7] at RN9 ⊢
        have hg07 : g7 ≠ g0 := by have := (World.ownsRow.lt OW1.out g0 rfl).2; omega
        clear hg7
        generalize W1.alloc (.cells (wcs (i, b)).toArray 72) = W9 at RN9 HW9 OW9 ⊢
        refine hK _ _ (Row.all HW9.out.rb) (fun _ => ?_)
        clear hK K
        try simp only [Act.put, List.setIfInBounds_toArray, List.set_cons_zero, List.set_cons_succ]
        refine wpAnyH_ready (rs := [2]) (by kernel_rfl) (by simp) ?_
        refine (AllReadyH.cons rfl (fun K hK => ?_) AllReadyH.nil)
        rw [if_pos (by rfl)]
        have c1 : W9.cell? ⟨w.heap.size, 1, none⟩ = some (.slice A2 m c2) := HW9.out.r0.cell 1
        go_simp
        refine hK _ _ (Row.all HW9.out.rb) (fun _ => ?_)
        clear hK K c1
        try simp only [Act.put, List.setIfInBounds_toArray, List.set_cons_zero, List.set_cons_succ]
        refine wpAnyH_ready (rs := [3]) (by kernel_rfl) (by simp) ?_
        refine (AllReadyH.cons rfl (fun K hK => ?_) AllReadyH.nil)
        rw [if_pos (by rfl)]
        refine wp_append_k (.tmp 28) (.tmp 30) 29 rfl (w.heap.size + 1 + 1 + 1) 72 ie _ 65 72 Try.underlying29 HIE.out HZ0.out HZ1.out HZ2.out rfl (by decide) (.slice (some ⟨g0, 0, none⟩) 0 0) 0 [] rfl OW9.out A2 m c2 (pend.flatMap wcs) rfl HPLEN.out w.heap.size (HPV.out.below HW9.out.bel) (wcss_one _) HM0.out (by unfold maxLen; omega) (by omega) HW9.out.sz ?_
        intro v3 W11 hown3 hg3
        have hx3 : ∀ q, some g0 = some q → w.heap.size + 1 + 1 + 1 ≤ q := fun q hq => (World.ownsRow.lt OW9.out q (by simpa [Value.ownBlock] using hq)).1
        have HW11 := Lib.hid (HW9.out.grown hg3 (fun q hq => hx3 q (by simpa [Value.ownBlock] using hq)))
        have OW11 : Hid (W11.ownsRow (w.heap.size + 1 + 1 + 1) 72 65 v3 m (pend.flatMap wcs)) := (show World.ownsRow _ _ _ _ _ _ _ from by simpa using hown3)
        have RN11 := Lib.hid (RN9.out.grown hg3 (fun e => hg07 (by simpa [Value.ownBlock] using e)))
        refine hK _ _ (Row.all HW11.out.rb) (fun _ => ?_)
        clear hK K hown3 hg3
        try simp only [Act.put, List.setIfInBounds_toArray, List.set_cons_zero, List.set_cons_succ]
        refine wpAnyH_ready (rs := [8]) (by kernel_rfl) (by simp) ?_
        refine (AllReadyH.cons rfl (fun K hK => ?_) AllReadyH.nil)
        rw [if_pos (by rfl)]
        refine wp_append_own _ (.tmp 31) (.tmp 35) 29 rfl (w.heap.size + 1 + 1 + 1) 72 ie _ 65 72 Try.underlying29 HIE.out HZ0.out HZ1.out HZ2.out rfl (by decide) v3 m (pend.flatMap wcs) rfl OW11.out ⟨g7, 0, none⟩ 1 1 (wcs (i, b)) rfl (HWL2.out) (fun j u hu => by rw [Addr.add_lit, Nat.zero_add, RN11.out.cell]; exact hu) (wcs_one _) (by unfold maxLen; omega) (by omega) HW11.out.sz ?_
        intro v8 W12 hown8 hg8 _
        have HW12 := Lib.hid (HW11.out.grown hg8 (fun q hq => (World.ownsRow.lt OW11.out q hq).1))
        rw [HFM.out] at hown8
        obtain ⟨g8, cap8, rfl, hgb8, hgl8, hgc8, hwr8⟩ := own_wrs hown8 (by omega) HPL1.out HP64.out
        have HWR8 := Lib.hid hwr8
        clear hown8 hg8 hwr8
        refine hK _ _ (Row.all HW12.out.rb) (fun _ => ?_)
        clear hK K
        try simp only [Act.put, List.setIfInBounds_toArray, List.set_cons_zero, List.set_cons_succ]
        have hHeld := Row.all HW12.out.rb
        refine wpAnyH_take (i := 9) (oi := ⟨some 37, _, _, _, _, _⟩) (v := ?v9x12) rfl (by kernel_rfl) (by kernel_rfl) (by kernel_rfl) (fun _ _ _ h => h) (Or.inl ⟨by rfl, ?y9x12⟩) hHeld ?r9x12
        case y9x12 =>
          rintro w' q0
          go_simp
          try with_reducible rfl
        try simp only [Act.put, List.setIfInBounds_toArray, List.set_cons_zero, List.set_cons_succ]
        clear hHeld
        refine wpAnyH_ready (rs := [10]) (by kernel_rfl) (by simp) ?_
        refine AllReadyH.cons rfl (fun K hK => ?_) AllReadyH.nil
        rw [if_pos (by rfl)]
        have c1 : W12.cell? ⟨w.heap.size, 1, none⟩ = some (.slice A2 m c2) := HW12.out.r0.cell 1
        have f1 := HW12.out.r0.frozen 1
        go_simp
        have HWF : Hid (Wr w (W12.setCell ⟨w.heap.size, 1, none⟩ (.slice (some ⟨g8, 0, none⟩) (m + 1) cap8)) (rcs ⟨A, n, c, some ⟨g8, 0, none⟩, m + 1, cap8⟩ dm.1 dm.2.1 am.1 dm.2.2.1) b) := (show Wr _ _ _ _ from ⟨HW12.out.r0.store 1 _, HW12.out.rb.far (by simp) _, HW12.out.r6.far (by simp; omega) _, HW12.out.bel.setCell (p := ⟨w.heap.size, 1, none⟩) (Nat.le_refl _) _⟩)
        have HWX := Lib.hid (Wrs.far HWR8.out (p := ⟨w.heap.size, 1, none⟩) (by simp; omega) (.slice (some ⟨g8, 0, none⟩) (m + 1) cap8))
        clear c1 f1 HWR8 HW12
        generalize W12.setCell ⟨w.heap.size, 1, none⟩ (.slice (some ⟨g8, 0, none⟩) (m + 1) cap8) = Wf at HWF HWX ⊢
        refine hK _ _ (Row.all HWF.out.rb) (fun _ => ?_)
        clear hK K
        try simp only [Act.put, List.setIfInBounds_toArray, List.set_cons_zero, List.set_cons_succ]
        refine wpAnyH_done (by kernel_rfl) ?_ _
        go_wp2_with (first
          | (with_reducible refine wpList_load_mid (op := ⟨some 38, _, _, _, _, _⟩) ?_ 31 (.tmp 3) (by rfl) w.heap.size 0 ?_ (rcs ⟨A, n, c, some ⟨g8, 0, none⟩, m + 1, cap8⟩ dm.1 dm.2.1 am.1 dm.2.2.1) _ ?_ Try.underlying31 ?_ ?_ ?_)
          | (with_reducible refine wpList_store_in (op := ⟨none, _, _, _, _, _⟩) ?_ 31 (.tmp 6) (.tmp 38) (by rfl) (w.heap.size + 1 + 1) 0 (rcs ⟨A, n, c, some ⟨g8, 0, none⟩, m + 1, cap8⟩ dm.1 dm.2.1 am.1 dm.2.2.1) ?_ ?_ 31 rz ?_ ?_ (rcs_one _ _ _ _ _) ?_ ?_))
        all_goals try (first | rfl | exact Row.all HWF.out.r0 | exact HWF.out.r6 | exact size31 | exact size39 | (show 0 + 6 ≤ 6; decide) | (show 0 + 64 ≤ 64; decide))
        intro w9 hr hgr
        rw [splice_all _ _ (by rfl)] at hr
        have T1 := Lib.hid hr
        have TB := Lib.hid (HWF.out.bel.grown hgr HWF.out.bel.size (fun k hk => by simp at hk; omega))
        have TW := Lib.hid (Wrs.grown HWX.out hgr (by simp; omega))
        have hg9 : g8 < w9.heap.size := by
          obtain ⟨b', o', e', hlt', _⟩ := TW.out (by rw [HPL1.out]; omega)
          cases e'; exact hlt'
        clear hr hgr HWF HWX
        go_wp2
        refine bodyPost_ret (v := .tuple #[.agg (rcs ⟨A, n, c, some ⟨g8, 0, none⟩, m + 1, cap8⟩ dm.1 dm.2.1 am.1 dm.2.2.1).toArray, .int .i64 0]) (results_ct (p := 6) (q := 7) (ty := 31) rfl _ _ ⟨w.heap.size + 1 + 1, 0, none⟩ _ _ rfl (run_load_rcs _ _ _ rfl T1.out) rfl) rfl ?_
        rw [HY.out, HOK2.out]
        exact ⟨⟨A, n, c, some ⟨g8, 0, none⟩, m + 1, cap8⟩, g8 :: xs, rfl, RVat.put (HRV.out _ TB.out) HPL1.out hgc8 TW.out hg9, (fun q hq => by rcases List.mem_cons.1 hq with rfl | hq; exact .inr (by omega); exact .inl hq), TB.out⟩
    · rw [if_pos (by rfl)]
      have c1 : W0.cell? ⟨w.heap.size, 1, none⟩ = some (.slice A2 m c2) := HW0.out.r0.cell 1
      go_simp
      refine hK _ _ (Row.all HW0.out.rb) (fun _ => ?_)
      clear hK K c1
      try simp only [Act.put, List.setIfInBounds_toArray, List.set_cons_zero, List.set_cons_succ]
      refine wpAnyH_ready (rs := [0, 7]) (by kernel_rfl) (by simp) ?_
      refine (AllReadyH.cons rfl (fun K hK => ?_) (AllReadyH.cons rfl (fun K hK => ?_) AllReadyH.nil))
      · rw [if_pos (by rfl)]
        go_simp
        have OW14 : Hid ((W0.alloc (.cells #[] 72)).ownsRow (w.heap.size + 1 + 1 + 1) 72 65 (.slice (some ⟨W0.heap.size, 0, none⟩) 0 0) 0 []) := (show World.ownsRow _ _ _ _ _ _ _ from World.ownsRow_made W0 #[] 0 HW0.out.sz (Nat.zero_le _) rfl)
        have HW14 := Lib.hid (HW0.out.alloc (.cells #[] 72))
        obtain ⟨g0, hg0⟩ : ∃ g0, g0 = W0.heap.size := ⟨_, rfl⟩
        rw [← hg0] at OW14 ⊢
        clear hg0
        generalize W0.alloc (.cells #[] 72) = W14 at OW14 HW14  ⊢
        refine hK _ _ (Row.all HW14.out.rb) (fun _ => ?_)
        clear hK K
        try simp only [Act.put, List.setIfInBounds_toArray, List.set_cons_zero, List.set_cons_succ]
        refine wpAnyH_ready (rs := [3, 7]) (by kernel_rfl) (by simp) ?_
        refine (AllReadyH.cons rfl (fun K hK => ?_) (AllReadyH.cons rfl (fun K hK => ?_) AllReadyH.nil))
        · rw [if_pos (by rfl)]
          refine wp_append_k (.tmp 28) (.tmp 30) 29 rfl (w.heap.size + 1 + 1 + 1) 72 ie _ 65 72 Try.underlying29 HIE.out HZ0.out HZ1.out HZ2.out rfl (by decide) (.slice (some ⟨g0, 0, none⟩) 0 0) 0 [] rfl OW14.out A2 m c2 (pend.flatMap wcs) rfl HPLEN.out w.heap.size (HPV.out.below HW14.out.bel) (wcss_one _) HM0.out (by unfold maxLen; omega) (by omega) HW14.out.sz ?_
          intro v3 W15 hown3 hg3
          have hx3 : ∀ q, some g0 = some q → w.heap.size + 1 + 1 + 1 ≤ q := fun q hq => (World.ownsRow.lt OW14.out q (by simpa [Value.ownBlock] using hq)).1
          have HW15 := Lib.hid (HW14.out.grown hg3 (fun q hq => hx3 q (by simpa [Value.ownBlock] using hq)))
          have OW15 : Hid (W15.ownsRow (w.heap.size + 1 + 1 + 1) 72 65 v3 m (pend.flatMap wcs)) := (show World.ownsRow _ _ _ _ _ _ _ from by simpa using hown3)
          refine hK _ _ (Row.all HW15.out.rb) (fun _ => ?_)
          clear hK K hown3 hg3
          try simp only [Act.put, List.setIfInBounds_toArray, List.set_cons_zero, List.set_cons_succ]
          refine wpAnyH_ready (rs := [7]) (by kernel_rfl) (by simp) ?_
          refine (AllReadyH.cons rfl (fun K hK => ?_) AllReadyH.nil)
          rw [if_pos (by rfl)]
          refine wp_buildOne 29 72 (.tmp 34) rfl (wcs (i, b)) (wcs (0, nought)) ie rfl Try.underlying29 HIE.out HZ0.out (HZ1.out.trans rfl) HWL.out (by decide) (by decide) ?_
          have RN16 : Hid (Row (W15.alloc (.cells (wcs (i, b)).toArray 72)) W15.heap.size 72 (wcs (i, b))) := Row.new W15 _ _
          have HW16 := Lib.hid (HW15.out.alloc (.cells (wcs (i, b)).toArray 72))
          have OW16 := Lib.hid (OW15.out.alloc (.cells (wcs (i, b)).toArray 72))
          obtain ⟨g7, hg7⟩ : ∃ g7, g7 = W15.heap.size := ⟨_, rfl⟩
          have hg7s : w.heap.size + 1 + 1 + 1 ≤ g7 := by rw [hg7]; exact HW15.out.sz
          rw [← hg7] at RN16 ⊢
          clear hg7
          generalize W15.alloc (.cells (wcs (i, b)).toArray 72) = W16 at RN16 HW16 OW16 ⊢
          refine hK _ _ (Row.all HW16.out.rb) (fun _ => ?_)
          clear hK K
          try simp only [Act.put, List.setIfInBounds_toArray, List.set_cons_zero, List.set_cons_succ]
          refine wpAnyH_ready (rs := [8]) (by kernel_rfl) (by simp) ?_
          refine (AllReadyH.cons rfl (fun K hK => ?_) AllReadyH.nil)
          rw [if_pos (by rfl)]
          refine wp_append_own _ (.tmp 31) (.tmp 35) 29 rfl (w.heap.size + 1 + 1 + 1) 72 ie _ 65 72 Try.underlying29 HIE.out HZ0.out HZ1.out HZ2.out rfl (by decide) v3 m (pend.flatMap wcs) rfl OW16.out ⟨g7, 0, none⟩ 1 1 (wcs (i, b)) rfl (HWL2.out) (fun j u hu => by rw [Addr.add_lit, Nat.zero_add, RN16.out.cell]; exact hu) (wcs_one _) (by unfold maxLen; omega) (by omega) HW16.out.sz ?_
          intro v8 W17 hown8 hg8 _
          have HW17 := Lib.hid (HW16.out.grown hg8 (fun q hq => (World.ownsRow.lt OW16.out q hq).1))
          rw [HFM.out] at hown8
          obtain ⟨g8, cap8, rfl, hgb8, hgl8, hgc8, hwr8⟩ := own_wrs hown8 (by omega) HPL1.out HP64.out
          have HWR8 := Lib.hid hwr8
          clear hown8 hg8 hwr8
          refine hK _ _ (Row.all HW17.out.rb) (fun _ => ?_)
          clear hK K
          try simp only [Act.put, List.setIfInBounds_toArray, List.set_cons_zero, List.set_cons_succ]
          have hHeld := Row.all HW17.out.rb
          refine wpAnyH_take (i := 9) (oi := ⟨some 37, _, _, _, _, _⟩) (v := ?v9x17) rfl (by kernel_rfl) (by kernel_rfl) (by kernel_rfl) (fun _ _ _ h => h) (Or.inl ⟨by rfl, ?y9x17⟩) hHeld ?r9x17
          case y9x17 =>
            rintro w' q0
            go_simp
            try with_reducible rfl
          try simp only [Act.put, List.setIfInBounds_toArray, List.set_cons_zero, List.set_cons_succ]
          clear hHeld
          refine wpAnyH_ready (rs := [10]) (by kernel_rfl) (by simp) ?_
          refine AllReadyH.cons rfl (fun K hK => ?_) AllReadyH.nil
          rw [if_pos (by rfl)]
          have c1 : W17.cell? ⟨w.heap.size, 1, none⟩ = some (.slice A2 m c2) := HW17.out.r0.cell 1
          have f1 := HW17.out.r0.frozen 1
          go_simp
          have HWF : Hid (Wr w (W17.setCell ⟨w.heap.size, 1, none⟩ (.slice (some ⟨g8, 0, none⟩) (m + 1) cap8)) (rcs ⟨A, n, c, some ⟨g8, 0, none⟩, m + 1, cap8⟩ dm.1 dm.2.1 am.1 dm.2.2.1) b) := (show Wr _ _ _ _ from ⟨HW17.out.r0.store 1 _, HW17.out.rb.far (by simp) _, HW17.out.r6.far (by simp; omega) _, HW17.out.bel.setCell (p := ⟨w.heap.size, 1, none⟩) (Nat.le_refl _) _⟩)
          have HWX := Lib.hid (Wrs.far HWR8.out (p := ⟨w.heap.size, 1, none⟩) (by simp; omega) (.slice (some ⟨g8, 0, none⟩) (m + 1) cap8))
          clear c1 f1 HWR8 HW17
          generalize W17.setCell ⟨w.heap.size, 1, none⟩ (.slice (some ⟨g8, 0, none⟩) (m + 1) cap8) = Wf at HWF HWX ⊢
          refine hK _ _ (Row.all HWF.out.rb) (fun _ => ?_)
          clear hK K
          try simp only [Act.put, List.setIfInBounds_toArray, List.set_cons_zero, List.set_cons_succ]
          refine wpAnyH_done (by kernel_rfl) ?_ _
          go_wp2_with (first
            | (with_reducible refine wpList_load_mid (op := ⟨some 38, _, _, _, _, _⟩) ?_ 31 (.tmp 3) (by rfl) w.heap.size 0 ?_ (rcs ⟨A, n, c, some ⟨g8, 0, none⟩, m + 1, cap8⟩ dm.1 dm.2.1 am.1 dm.2.2.1) _ ?_ Try.underlying31 ?_ ?_ ?_)
            | (with_reducible refine wpList_store_in (op := ⟨none, _, _, _, _, _⟩) ?_ 31 (.tmp 6) (.tmp 38) (by rfl) (w.heap.size + 1 + 1) 0 (rcs ⟨A, n, c, some ⟨g8, 0, none⟩, m + 1, cap8⟩ dm.1 dm.2.1 am.1 dm.2.2.1) ?_ ?_ 31 rz ?_ ?_ (rcs_one _ _ _ _ _) ?_ ?_))
          all_goals try (first | rfl | exact Row.all HWF.out.r0 | exact HWF.out.r6 | exact size31 | exact size39 | (show 0 + 6 ≤ 6; decide) | (show 0 + 64 ≤ 64; decide))
          intro w9 hr hgr
          rw [splice_all _ _ (by rfl)] at hr
          have T1 := Lib.hid hr
          have TB := Lib.hid (HWF.out.bel.grown hgr HWF.out.bel.size (fun k hk => by simp at hk; omega))
          have TW := Lib.hid (Wrs.grown HWX.out hgr (by simp; omega))
          have hg9 : g8 < w9.heap.size := by
            obtain ⟨b', o', e', hlt', _⟩ := TW.out (by rw [HPL1.out]; omega)
            cases e'; exact hlt'
          clear hr hgr HWF HWX
          go_wp2
          refine bodyPost_ret (v := .tuple #[.agg (rcs ⟨A, n, c, some ⟨g8, 0, none⟩, m + 1, cap8⟩ dm.1 dm.2.1 am.1 dm.2.2.1).toArray, .int .i64 0]) (results_ct (p := 6) (q := 7) (ty := 31) rfl _ _ ⟨w.heap.size + 1 + 1, 0, none⟩ _ _ rfl (run_load_rcs _ _ _ rfl T1.out) rfl) rfl ?_
          rw [HY.out, HOK2.out]
          exact ⟨⟨A, n, c, some ⟨g8, 0, none⟩, m + 1, cap8⟩, g8 :: xs, rfl, RVat.put (HRV.out _ TB.out) HPL1.out hgc8 TW.out hg9, (fun q hq => by rcases List.mem_cons.1 hq with rfl | hq; exact .inr (by omega); exact .inl hq), TB.out⟩
        · rw [if_pos (by rfl)]
          refine wp_buildOne 29 72 (.tmp 34) rfl (wcs (i, b)) (wcs (0, nought)) ie rfl Try.underlying29 HIE.out HZ0.out (HZ1.out.trans rfl) HWL.out (by decide) (by decide) ?_
          have RN18 : Hid (Row (W14.alloc (.cells (wcs (i, b)).toArray 72)) W14.heap.size 72 (wcs (i, b))) := Row.new W14 _ _
          have HW18 := Lib.hid (HW14.out.alloc (.cells (wcs (i, b)).toArray 72))
          have OW18 := Lib.hid (OW14.out.alloc (.cells (wcs (i, b)).toArray 72))
          obtain ⟨g7, hg7⟩ : ∃ g7, g7 = W14.heap.size := ⟨_, rfl⟩
          have hg7s : w.heap.size + 1 + 1 + 1 ≤ g7 := by rw [hg7]; exact HW14.out.sz
          rw [← hg7] at RN18 ⊢
          have hg07 : g7 ≠ g0 := by have := (World.ownsRow.lt OW14.out g0 rfl).2; omega
          clear hg7
          generalize W14.alloc (.cells (wcs (i, b)).toArray 72) = W18 at RN18 HW18 OW18 ⊢
          refine hK _ _ (Row.all HW18.out.rb) (fun _ => ?_)
          clear hK K
          try simp only [Act.put, List.setIfInBounds_toArray, List.set_cons_zero, List.set_cons_succ]
          refine wpAnyH_ready (rs := [3]) (by kernel_rfl) (by simp) ?_
          refine (AllReadyH.cons rfl (fun K hK => ?_) AllReadyH.nil)
          rw [if_pos (by rfl)]
          refine wp_append_k (.tmp 28) (.tmp 30) 29 rfl (w.heap.size + 1 + 1 + 1) 72 ie _ 65 72 Try.underlying29 HIE.out HZ0.out HZ1.out HZ2.out rfl (by decide) (.slice (some ⟨g0, 0, none⟩) 0 0) 0 [] rfl OW18.out A2 m c2 (pend.flatMap wcs) rfl HPLEN.out w.heap.size (HPV.out.below HW18.out.bel) (wcss_one _) HM0.out (by unfold maxLen; omega) (by omega) HW18.out.sz ?_
          intro v3 W19 hown3 hg3
          have hx3 : ∀ q, some g0 = some q → w.heap.size + 1 + 1 + 1 ≤ q := fun q hq => (World.ownsRow.lt OW18.out q (by simpa [Value.ownBlock] using hq)).1
          have HW19 := Lib.hid (HW18.out.grown hg3 (fun q hq => hx3 q (by simpa [Value.ownBlock] using hq)))
          have OW19 : Hid (W19.ownsRow (w.heap.size + 1 + 1 + 1) 72 65 v3 m (pend.flatMap wcs)) := (show World.ownsRow _ _ _ _ _ _ _ from by simpa using hown3)
          have RN19 := Lib.hid (RN18.out.grown hg3 (fun e => hg07 (by simpa [Value.ownBlock] using e)))
          refine hK _ _ (Row.all HW19.out.rb) (fun _ => ?_)
          clear hK K hown3 hg3
          try simp only [Act.put, List.setIfInBounds_toArray, List.set_cons_zero, List.set_cons_succ]
          refine wpAnyH_ready (rs := [8]) (by kernel_rfl) (by simp) ?_
          refine (AllReadyH.cons rfl (fun K hK => ?_) AllReadyH.nil)
          rw [if_pos (by rfl)]
          refine wp_append_own _ (.tmp 31) (.tmp 35) 29 rfl (w.heap.size + 1 + 1 + 1) 72 ie _ 65 72 Try.underlying29 HIE.out HZ0.out HZ1.out HZ2.out rfl (by decide) v3 m (pend.flatMap wcs) rfl OW19.out ⟨g7, 0, none⟩ 1 1 (wcs (i, b)) rfl (HWL2.out) (fun j u hu => by rw [Addr.add_lit, Nat.zero_add, RN19.out.cell]; exact hu) (wcs_one _) (by unfold maxLen; omega) (by omega) HW19.out.sz ?_
          intro v8 W20 hown8 hg8 _
          have HW20 := Lib.hid (HW19.out.grown hg8 (fun q hq => (World.ownsRow.lt OW19.out q hq).1))
          rw [HFM.out] at hown8
          obtain ⟨g8, cap8, rfl, hgb8, hgl8, hgc8, hwr8⟩ := own_wrs hown8 (by omega) HPL1.out HP64.out
          have HWR8 := Lib.hid hwr8
          clear hown8 hg8 hwr8
          refine hK _ _ (Row.all HW20.out.rb) (fun _ => ?_)
          clear hK K
          try simp only [Act.put, List.setIfInBounds_toArray, List.set_cons_zero, List.set_cons_succ]
          have hHeld := Row.all HW20.out.rb
          refine wpAnyH_take (i := 9) (oi := ⟨some 37, _, _, _, _, _⟩) (v := ?v9x20) rfl (by kernel_rfl) (by kernel_rfl) (by kernel_rfl) (fun _ _ _ h => h) (Or.inl ⟨by rfl, ?y9x20⟩) hHeld ?r9x20
          case y9x20 =>
            rintro w' q0
            go_simp
            try with_reducible rfl
          try simp only [Act.put, List.setIfInBounds_toArray, List.set_cons_zero, List.set_cons_succ]
          clear hHeld
          refine wpAnyH_ready (rs := [10]) (by kernel_rfl) (by simp) ?_
          refine AllReadyH.cons rfl (fun K hK => ?_) AllReadyH.nil
          rw [if_pos (by rfl)]
          have c1 : W20.cell? ⟨w.heap.size, 1, none⟩ = some (.slice A2 m c2) := HW20.out.r0.cell 1
          have f1 := HW20.out.r0.frozen 1
          go_simp
          have HWF : Hid (Wr w (W20.setCell ⟨w.heap.size, 1, none⟩ (.slice (some ⟨g8, 0, none⟩) (m + 1) cap8)) (rcs ⟨A, n, c, some ⟨g8, 0, none⟩, m + 1, cap8⟩ dm.1 dm.2.1 am.1 dm.2.2.1) b) := (show Wr _ _ _ _ from ⟨HW20.out.r0.store 1 _, HW20.out.rb.far (by simp) _, HW20.out.r6.far (by simp; omega) _, HW20.out.bel.setCell (p := ⟨w.heap.size, 1, none⟩) (Nat.le_refl _) _⟩)
          have HWX := Lib.hid (Wrs.far HWR8.out (p := ⟨w.heap.size, 1, none⟩) (by simp; omega) (.slice (some ⟨g8, 0, none⟩) (m + 1) cap8))
          clear c1 f1 HWR8 HW20
          generalize W20.setCell ⟨w.heap.size, 1, none⟩ (.slice (some ⟨g8, 0, none⟩) (m + 1) cap8) = Wf at HWF HWX ⊢
          refine hK _ _ (Row.all HWF.out.rb) (fun _ => ?_)
          clear hK K
          try simp only [Act.put, List.setIfInBounds_toArray, List.set_cons_zero, List.set_cons_succ]
          refine wpAnyH_done (by kernel_rfl) ?_ _
          go_wp2_with (first
            | (with_reducible refine wpList_load_mid (op := ⟨some 38, _, _, _, _, _⟩) ?_ 31 (.tmp 3) (by rfl) w.heap.size 0 ?_ (rcs ⟨A, n, c, some ⟨g8, 0, none⟩, m + 1, cap8⟩ dm.1 dm.2.1 am.1 dm.2.2.1) _ ?_ Try.underlying31 ?_ ?_ ?_)
            | (with_reducible refine wpList_store_in (op := ⟨none, _, _, _, _, _⟩) ?_ 31 (.tmp 6) (.tmp 38) (by rfl) (w.heap.size + 1 + 1) 0 (rcs ⟨A, n, c, some ⟨g8, 0, none⟩, m + 1, cap8⟩ dm.1 dm.2.1 am.1 dm.2.2.1) ?_ ?_ 31 rz ?_ ?_ (rcs_one _ _ _ _ _) ?_ ?_))
          all_goals try (first | rfl | exact Row.all HWF.out.r0 | exact HWF.out.r6 | exact size31 | exact size39 | (show 0 + 6 ≤ 6; decide) | (show 0 + 64 ≤ 64; decide))
          intro w9 hr hgr
          rw [splice_all _ _ (by rfl)] at hr
          have T1 := Lib.hid hr
          have TB := Lib.hid (HWF.out.bel.grown hgr HWF.out.bel.size (fun k hk => by simp at hk; omega))
          have TW := Lib.hid (Wrs.grown HWX.out hgr (by simp; omega))
          have hg9 : g8 < w9.heap.size := by
            obtain ⟨b', o', e', hlt', _⟩ := TW.out (by rw [HPL1.out]; omega)
            cases e'; exact hlt'
          clear hr hgr HWF HWX
          go_wp2
          refine bodyPost_ret (v := .tuple #[.agg (rcs ⟨A, n, c, some ⟨g8, 0, none⟩, m + 1, cap8⟩ dm.1 dm.2.1 am.1 dm.2.2.1).toArray, .int .i64 0]) (results_ct (p := 6) (q := 7) (ty := 31) rfl _ _ ⟨w.heap.size + 1 + 1, 0, none⟩ _ _ rfl (run_load_rcs _ _ _ rfl T1.out) rfl) rfl ?_
          rw [HY.out, HOK2.out]
          exact ⟨⟨A, n, c, some ⟨g8, 0, none⟩, m + 1, cap8⟩, g8 :: xs, rfl, RVat.put (HRV.out _ TB.out) HPL1.out hgc8 TW.out hg9, (fun q hq => by rcases List.mem_cons.1 hq with rfl | hq; exact .inr (by omega); exact .inl hq), TB.out⟩
      · rw [if_pos (by rfl)]
        refine wp_buildOne 29 72 (.tmp 34) rfl (wcs (i, b)) (wcs (0, nought)) ie rfl Try.underlying29 HIE.out HZ0.out (HZ1.out.trans rfl) HWL.out (by decide) (by decide) ?_
        have RN21 : Hid (Row (W0.alloc (.cells (wcs (i, b)).toArray 72)) W0.heap.size 72 (wcs (i, b))) := Row.new W0 _ _
        have HW21 := Lib.hid (HW0.out.alloc (.cells (wcs (i, b)).toArray 72))
        obtain ⟨g7, hg7⟩ : ∃ g7, g7 = W0.heap.size := ⟨_, rfl⟩
        have hg7s : w.heap.size + 1 + 1 + 1 ≤ g7 := by rw [hg7]; exact HW0.out.sz
        rw [← hg7] at RN21 ⊢
        clear hg7
        generalize W0.alloc (.cells (wcs (i, b)).toArray 72) = W21 at RN21 HW21 ⊢
        refine hK _ _ (Row.all HW21.out.rb) (fun _ => ?_)
        clear hK K
        try simp only [Act.put, List.setIfInBounds_toArray, List.set_cons_zero, List.set_cons_succ]
        refine wpAnyH_ready (rs := [0]) (by kernel_rfl) (by simp) ?_
        refine (AllReadyH.cons rfl (fun K hK => ?_) AllReadyH.nil)
        rw [if_pos (by rfl)]
        go_simp
        have OW22 : Hid ((W21.alloc (.cells #[] 72)).ownsRow (w.heap.size + 1 + 1 + 1) 72 65 (.slice (some ⟨W21.heap.size, 0, none⟩) 0 0) 0 []) := (show World.ownsRow _ _ _ _ _ _ _ from World.ownsRow_made W21 #[] 0 HW21.out.sz (Nat.zero_le _) rfl)
        have HW22 := Lib.hid (HW21.out.alloc (.cells #[] 72))
        have RN22 := Lib.hid (RN21.out.alloc (.cells #[] 72))
        obtain ⟨g0, hg0⟩ : ∃ g0, g0 = W21.heap.size := ⟨_, rfl⟩
        rw [← hg0] at OW22 ⊢
        have hg07 : g7 ≠ g0 := by have := RN21.out.lt; omega
        clear hg0
        generalize W21.alloc (.cells #[] 72) = W22 at OW22 HW22 RN22 ⊢
        refine hK _ _ (Row.all HW22.out.rb) (fun _ => ?_)
        clear hK K
        try simp only [Act.put, List.setIfInBounds_toArray, List.set_cons_zero, List.set_cons_succ]
        refine wpAnyH_ready (rs := [3]) (by kernel_rfl) (by simp) ?_
        refine (AllReadyH.cons rfl (fun K hK => ?_) AllReadyH.nil)
        rw [if_pos (by rfl)]
        refine wp_append_k (.tmp 28) (.tmp 30) 29 rfl (w.heap.size + 1 + 1 + 1) 72 ie _ 65 72 Try.underlying29 HIE.out HZ0.out HZ1.out HZ2.out rfl (by decide) (.slice (some ⟨g0, 0, none⟩) 0 0) 0 [] rfl OW22.out A2 m c2 (pend.flatMap wcs) rfl HPLEN.out w.heap.size (HPV.out.below HW22.out.bel) (wcss_one _) HM0.out (by unfold maxLen; omega) (by omega) HW22.out.sz ?_
        intro v3 W23 hown3 hg3
        have hx3 : ∀ q, some g0 = some q → w.heap.size + 1 + 1 + 1 ≤ q := fun q hq => (World.ownsRow.lt OW22.out q (by simpa [Value.ownBlock] using hq)).1
        have HW23 := Lib.hid (HW22.out.grown hg3 (fun q hq => hx3 q (by simpa [Value.ownBlock] using hq)))
        have OW23 : Hid (W23.ownsRow (w.heap.size + 1 + 1 + 1) 72 65 v3 m (pend.flatMap wcs)) := (show World.ownsRow _ _ _ _ _ _ _ from by simpa using hown3)
        have RN23 := Lib.hid (RN22.out.grown hg3 (fun e => hg07 (by simpa [Value.ownBlock] using e)))
        refine hK _ _ (Row.all HW23.out.rb) (fun _ => ?_)
        clear hK K hown3 hg3
        try simp only [Act.put, List.setIfInBounds_toArray, List.set_cons_zero, List.set_cons_succ]
        refine wpAnyH_ready (rs := [8]) (by kernel_rfl) (by simp) ?_
        refine (AllReadyH.cons rfl (fun K hK => ?_) AllReadyH.nil)
        rw [if_pos (by rfl)]
        refine wp_append_own _ (.tmp 31) (.tmp 35) 29 rfl (w.heap.size + 1 + 1 + 1) 72 ie _ 65 72 Try.underlying29 HIE.out HZ0.out HZ1.out HZ2.out rfl (by decide) v3 m (pend.flatMap wcs) rfl OW23.out ⟨g7, 0, none⟩ 1 1 (wcs (i, b)) rfl (HWL2.out) (fun j u hu => by rw [Addr.add_lit, Nat.zero_add, RN23.out.cell]; exact hu) (wcs_one _) (by unfold maxLen; omega) (by omega) HW23.out.sz ?_
        intro v8 W24 hown8 hg8 _
        have HW24 := Lib.hid (HW23.out.grown hg8 (fun q hq => (World.ownsRow.lt OW23.out q hq).1))
        rw [HFM.out] at hown8
        obtain ⟨g8, cap8, rfl, hgb8, hgl8, hgc8, hwr8⟩ := own_wrs hown8 (by omega) HPL1.out HP64.out
        have HWR8 := Lib.hid hwr8
        clear hown8 hg8 hwr8
        refine hK _ _ (Row.all HW24.out.rb) (fun _ => ?_)
        clear hK K
        try simp only [Act.put, List.setIfInBounds_toArray, List.set_cons_zero, List.set_cons_succ]
        have hHeld := Row.all HW24.out.rb
        refine wpAnyH_take (i := 9) (oi := ⟨some 37, _, _, _, _, _⟩) (v := ?v9x24) rfl (by kernel_rfl) (by kernel_rfl) (by kernel_rfl) (fun _ _ _ h => h) (Or.inl ⟨by rfl, ?y9x24⟩) hHeld ?r9x24
        case y9x24 =>
          rintro w' q0
          go_simp
          try with_reducible rfl
        try simp only [Act.put, List.setIfInBounds_toArray, List.set_cons_zero, List.set_cons_succ]
        clear hHeld
        refine wpAnyH_ready (rs := [10]) (by kernel_rfl) (by simp) ?_
        refine AllReadyH.cons rfl (fun K hK => ?_) AllReadyH.nil
        rw [if_pos (by rfl)]
        have c1 : W24.cell? ⟨w.heap.size, 1, none⟩ = some (.slice A2 m c2) := HW24.out.r0.cell 1
        have f1 := HW24.out.r0.frozen 1
        go_simp
        have HWF : Hid (Wr w (W24.setCell ⟨w.heap.size, 1, none⟩ (.slice (some ⟨g8, 0, none⟩) (m + 1) cap8)) (rcs ⟨A, n, c, some ⟨g8, 0, none⟩, m + 1, cap8⟩ dm.1 dm.2.1 am.1 dm.2.2.1) b) := (show Wr _ _ _ _ from ⟨HW24.out.r0.store 1 _, HW24.out.rb.far (by simp) _, HW24.out.r6.far (by simp; omega) _, HW24.out.bel.setCell (p := ⟨w.heap.size, 1, none⟩) (Nat.le_refl _) _⟩)
        have HWX := Lib.hid (Wrs.far HWR8.out (p := ⟨w.heap.size, 1, none⟩) (by simp; omega) (.slice (some ⟨g8, 0, none⟩) (m + 1) cap8))
        clear c1 f1 HWR8 HW24
        generalize W24.setCell ⟨w.heap.size, 1, none⟩ (.slice (some ⟨g8, 0, none⟩) (m + 1) cap8) = Wf at HWF HWX ⊢
        refine hK _ _ (Row.all HWF.out.rb) (fun _ => ?_)
        clear hK K
        try simp only [Act.put, List.setIfInBounds_toArray, List.set_cons_zero, List.set_cons_succ]
        refine wpAnyH_done (by kernel_rfl) ?_ _
        go_wp2_with (first
          | (with_reducible refine wpList_load_mid (op := ⟨some 38, _, _, _, _, _⟩) ?_ 31 (.tmp 3) (by rfl) w.heap.size 0 ?_ (rcs ⟨A, n, c, some ⟨g8, 0, none⟩, m + 1, cap8⟩ dm.1 dm.2.1 am.1 dm.2.2.1) _ ?_ Try.underlying31 ?_ ?_ ?_)
          | (with_reducible refine wpList_store_in (op := ⟨none, _, _, _, _, _⟩) ?_ 31 (.tmp 6) (.tmp 38) (by rfl) (w.heap.size + 1 + 1) 0 (rcs ⟨A, n, c, some ⟨g8, 0, none⟩, m + 1, cap8⟩ dm.1 dm.2.1 am.1 dm.2.2.1) ?_ ?_ 31 rz ?_ ?_ (rcs_one _ _ _ _ _) ?_ ?_))
        all_goals try (first | rfl | exact Row.all HWF.out.r0 | exact HWF.out.r6 | exact size31 | exact size39 | (show 0 + 6 ≤ 6; decide) | (show 0 + 64 ≤ 64; decide))
        intro w9 hr hgr
        rw [splice_all _ _ (by rfl)] at hr
        have T1 := Lib.hid hr
        have TB := Lib.hid (HWF.out.bel.grown hgr HWF.out.bel.size (fun k hk => by simp at hk; omega))
        have TW := Lib.hid (Wrs.grown HWX.out hgr (by simp; omega))
        have hg9 : g8 < w9.heap.size := by
          obtain ⟨b', o', e', hlt', _⟩ := TW.out (by rw [HPL1.out]; omega)
          cases e'; exact hlt'
        clear hr hgr HWF HWX
        go_wp2
        refine bodyPost_ret (v := .tuple #[.agg (rcs ⟨A, n, c, some ⟨g8, 0, none⟩, m + 1, cap8⟩ dm.1 dm.2.1 am.1 dm.2.2.1).toArray, .int .i64 0]) (results_ct (p := 6) (q := 7) (ty := 31) rfl _ _ ⟨w.heap.size + 1 + 1, 0, none⟩ _ _ rfl (run_load_rcs _ _ _ rfl T1.out) rfl) rfl ?_
        rw [HY.out, HOK2.out]
        exact ⟨⟨A, n, c, some ⟨g8, 0, none⟩, m + 1, cap8⟩, g8 :: xs, rfl, RVat.put (HRV.out _ TB.out) HPL1.out hgc8 TW.out hg9, (fun q hq => by rcases List.mem_cons.1 hq with rfl | hq; exact .inr (by omega); exact .inl hq), TB.out⟩
    · rw [if_pos (by rfl)]
      refine wp_buildOne 29 72 (.tmp 34) rfl (wcs (i, b)) (wcs (0, nought)) ie rfl Try.underlying29 HIE.out HZ0.out (HZ1.out.trans rfl) HWL.out (by decide) (by decide) ?_
      have RN25 : Hid (Row (W0.alloc (.cells (wcs (i, b)).toArray 72)) W0.heap.size 72 (wcs (i, b))) := Row.new W0 _ _
      have HW25 := Lib.hid (HW0.out.alloc (.cells (wcs (i, b)).toArray 72))
      obtain ⟨g7, hg7⟩ : ∃ g7, g7 = W0.heap.size := ⟨_, rfl⟩
      have hg7s : w.heap.size + 1 + 1 + 1 ≤ g7 := by rw [hg7]; exact HW0.out.sz
      rw [← hg7] at RN25 ⊢
      clear hg7
      generalize W0.alloc (.cells (wcs (i, b)).toArray 72) = W25 at RN25 HW25 ⊢
      refine hK _ _ (Row.all HW25.out.rb) (fun _ => ?_)
      clear hK K
      try simp only [Act.put, List.setIfInBounds_toArray, List.set_cons_zero, List.set_cons_succ]
      refine wpAnyH_ready (rs := [0, 2]) (by kernel_rfl) (by simp) ?_
      refine (AllReadyH.cons rfl (fun K hK => ?_) (AllReadyH.cons rfl (fun K hK => ?_) AllReadyH.nil))
      · rw [if_pos (by rfl)]
        go_simp
        have OW26 : Hid ((W25.alloc (.cells #[] 72)).ownsRow (w.heap.size + 1 + 1 + 1) 72 65 (.slice (some ⟨W25.heap.size, 0, none⟩) 0 0) 0 []) := (show World.ownsRow _ _ _ _ _ _ _ from World.ownsRow_made W25 #[] 0 HW25.out.sz (Nat.zero_le _) rfl)
        have HW26 := Lib.hid (HW25.out.alloc (.cells #[] 72))
        have RN26 := Lib.hid (RN25.out.alloc (.cells #[] 72))
        obtain ⟨g0, hg0⟩ : ∃ g0, g0 = W25.heap.size := ⟨_, rfl⟩
        rw [← hg0] at OW26 ⊢
        have hg07 : g7 ≠ g0 := by have := RN25.out.lt; omega
        clear hg0
        generalize W25.alloc (.cells #[] 72) = W26 at OW26 HW26 RN26 ⊢
        refine hK _ _ (Row.all HW26.out.rb) (fun _ => ?_)
        clear hK K
        try simp only [Act.put, List.setIfInBounds_toArray, List.set_cons_zero, List.set_cons_succ]
        refine wpAnyH_ready (rs := [2]) (by kernel_rfl) (by simp) ?_
        refine (AllReadyH.cons rfl (fun K hK => ?_) AllReadyH.nil)
        rw [if_pos (by rfl)]
        have c1 : W26.cell? ⟨w.heap.size, 1, none⟩ = some (.slice A2 m c2) := HW26.out.r0.cell 1
        go_simp
        refine hK _ _ (Row.all HW26.out.rb) (fun _ => ?_)
        clear hK K c1
        try simp only [Act.put, List.setIfInBounds_toArray, List.set_cons_zero, List.set_cons_succ]
        refine wpAnyH_ready (rs := [3]) (by kernel_rfl) (by simp) ?_
        refine (AllReadyH.cons rfl (fun K hK => ?_) AllReadyH.nil)
        rw [if_pos (by rfl)]
        refine wp_append_k (.tmp 28) (.tmp 30) 29 rfl (w.heap.size + 1 + 1 + 1) 72 ie _ 65 72 Try.underlying29 HIE.out HZ0.out HZ1.out HZ2.out rfl (by decide) (.slice (some ⟨g0, 0, none⟩) 0 0) 0 [] rfl OW26.out A2 m c2 (pend.flatMap wcs) rfl HPLEN.out w.heap.size (HPV.out.below HW26.out.bel) (wcss_one _) HM0.out (by unfold maxLen; omega) (by omega) HW26.out.sz ?_
        intro v3 W28 hown3 hg3
        have hx3 : ∀ q, some g0 = some q → w.heap.size + 1 + 1 + 1 ≤ q := fun q hq => (World.ownsRow.lt OW26.out q (by simpa [Value.ownBlock] using hq)).1
        have HW28 := Lib.hid (HW26.out.grown hg3 (fun q hq => hx3 q (by simpa [Value.ownBlock] using hq)))
        have OW28 : Hid (W28.ownsRow (w.heap.size + 1 + 1 + 1) 72 65 v3 m (pend.flatMap wcs)) := (show World.ownsRow _ _ _ _ _ _ _ from by simpa using hown3)
        have RN28 := Lib.hid (RN26.out.grown hg3 (fun e => hg07 (by simpa [Value.ownBlock] using e)))
        refine hK _ _ (Row.all HW28.out.rb) (fun _ => ?_)
        clear hK K hown3 hg3
        try simp only [Act.put, List.setIfInBounds_toArray, List.set_cons_zero, List.set_cons_succ]
        refine wpAnyH_ready (rs := [8]) (by kernel_rfl) (by simp) ?_
        refine (AllReadyH.cons rfl (fun K hK => ?_) AllReadyH.nil)
        rw [if_pos (by rfl)]
        refine wp_append_own _ (.tmp 31) (.tmp 35) 29 rfl (w.heap.size + 1 + 1 + 1) 72 ie _ 65 72 Try.underlying29 HIE.out HZ0.out HZ1.out HZ2.out rfl (by decide) v3 m (pend.flatMap wcs) rfl OW28.out ⟨g7, 0, none⟩ 1 1 (wcs (i, b)) rfl (HWL2.out) (fun j u hu => by rw [Addr.add_lit, Nat.zero_add, RN28.out.cell]; exact hu) (wcs_one _) (by unfold maxLen; omega) (by omega) HW28.out.sz ?_
        intro v8 W29 hown8 hg8 _
        have HW29 := Lib.hid (HW28.out.grown hg8 (fun q hq => (World.ownsRow.lt OW28.out q hq).1))
        rw [HFM.out] at hown8
        obtain ⟨g8, cap8, rfl, hgb8, hgl8, hgc8, hwr8⟩ := own_wrs hown8 (by omega) HPL1.out HP64.out
        have HWR8 := Lib.hid hwr8
        clear hown8 hg8 hwr8
        refine hK _ _ (Row.all HW29.out.rb) (fun _ => ?_)
        clear hK K
        try simp only [Act.put, List.setIfInBounds_toArray, List.set_cons_zero, List.set_cons_succ]
        have hHeld := Row.all HW29.out.rb
        refine wpAnyH_take (i := 9) (oi := ⟨some 37, _, _, _, _, _⟩) (v := ?v9x29) rfl (by kernel_rfl) (by kernel_rfl) (by kernel_rfl) (fun _ _ _ h => h) (Or.inl ⟨by rfl, ?y9x29⟩) hHeld ?r9x29
        case y9x29 =>
          rintro w' q0
          go_simp
          try with_reducible rfl
        try simp only [Act.put, List.setIfInBounds_toArray, List.set_cons_zero, List.set_cons_succ]
        clear hHeld
        refine wpAnyH_ready (rs := [10]) (by kernel_rfl) (by simp) ?_
        refine AllReadyH.cons rfl (fun K hK => ?_) AllReadyH.nil
        rw [if_pos (by rfl)]
        have c1 : W29.cell? ⟨w.heap.size, 1, none⟩ = some (.slice A2 m c2) := HW29.out.r0.cell 1
        have f1 := HW29.out.r0.frozen 1
        go_simp
        have HWF : Hid (Wr w (W29.setCell ⟨w.heap.size, 1, none⟩ (.slice (some ⟨g8, 0, none⟩) (m + 1) cap8)) (rcs ⟨A, n, c, some ⟨g8, 0, none⟩, m + 1, cap8⟩ dm.1 dm.2.1 am.1 dm.2.2.1) b) := (show Wr _ _ _ _ from ⟨HW29.out.r0.store 1 _, HW29.out.rb.far (by simp) _, HW29.out.r6.far (by simp; omega) _, HW29.out.bel.setCell (p := ⟨w.heap.size, 1, none⟩) (Nat.le_refl _) _⟩)
        have HWX := Lib.hid (Wrs.far HWR8.out (p := ⟨w.heap.size, 1, none⟩) (by simp; omega) (.slice (some ⟨g8, 0, none⟩) (m + 1) cap8))
        clear c1 f1 HWR8 HW29
        generalize W29.setCell ⟨w.heap.size, 1, none⟩ (.slice (some ⟨g8, 0, none⟩) (m + 1) cap8) = Wf at HWF HWX ⊢
        refine hK _ _ (Row.all HWF.out.rb) (fun _ => ?_)
        clear hK K
        try simp only [Act.put, List.setIfInBounds_toArray, List.set_cons_zero, List.set_cons_succ]
        refine wpAnyH_done (by kernel_rfl) ?_ _
        go_wp2_with (first
          | (with_reducible refine wpList_load_mid (op := ⟨some 38, _, _, _, _, _⟩) ?_ 31 (.tmp 3) (by rfl) w.heap.size 0 ?_ (rcs ⟨A, n, c, some ⟨g8, 0, none⟩, m + 1, cap8⟩ dm.1 dm.2.1 am.1 dm.2.2.1) _ ?_ Try.underlying31 ?_ ?_ ?_)
          | (with_reducible refine wpList_store_in (op := ⟨none, _, _, _, _, _⟩) ?_ 31 (.tmp 6) (.tmp 38) (by rfl) (w.heap.size + 1 + 1) 0 (rcs ⟨A, n, c, some ⟨g8, 0, none⟩, m + 1, cap8⟩ dm.1 dm.2.1 am.1 dm.2.2.1) ?_ ?_ 31 rz ?_ ?_ (rcs_one _ _ _ _ _) ?_ ?_))
        all_goals try (first | rfl | exact Row.all HWF.out.r0 | exact HWF.out.r6 | exact size31 | exact size39 | (show 0 + 6 ≤ 6; decide) | (show 0 + 64 ≤ 64; decide))
        intro w9 hr hgr
        rw [splice_all _ _ (by rfl)] at hr
        have T1 := Lib.hid hr
        have TB := Lib.hid (HWF.out.bel.grown hgr HWF.out.bel.size (fun k hk => by simp at hk; omega))
        have TW := Lib.hid (Wrs.grown HWX.out hgr (by simp; omega))
        have hg9 : g8 < w9.heap.size := by
          obtain ⟨b', o', e', hlt', _⟩ := TW.out (by rw [HPL1.out]; omega)
          cases e'; exact hlt'
        clear hr hgr HWF HWX
        go_wp2
        refine bodyPost_ret (v := .tuple #[.agg (rcs ⟨A, n, c, some ⟨g8, 0, none⟩, m + 1, cap8⟩ dm.1 dm.2.1 am.1 dm.2.2.1).toArray, .int .i64 0]) (results_ct (p := 6) (q := 7) (ty := 31) rfl _ _ ⟨w.heap.size + 1 + 1, 0, none⟩ _ _ rfl (run_load_rcs _ _ _ rfl T1.out) rfl) rfl ?_
        rw [HY.out, HOK2.out]
        exact ⟨⟨A, n, c, some ⟨g8, 0, none⟩, m + 1, cap8⟩, g8 :: xs, rfl, RVat.put (HRV.out _ TB.out) HPL1.out hgc8 TW.out hg9, (fun q hq => by rcases List.mem_cons.1 hq with rfl | hq; exact .inr (by omega); exact .inl hq), TB.out⟩
      · rw [if_pos (by rfl)]
        have c1 : W25.cell? ⟨w.heap.size, 1, none⟩ = some (.slice A2 m c2) := HW25.out.r0.cell 1
        go_simp
        refine hK _ _ (Row.all HW25.out.rb) (fun _ => ?_)
        clear hK K c1
        try simp only [Act.put, List.setIfInBounds_toArray, List.set_cons_zero, List.set_cons_succ]
        refine wpAnyH_ready (rs := [0]) (by kernel_rfl) (by simp) ?_
        refine (AllReadyH.cons rfl (fun K hK => ?_) AllReadyH.nil)
        rw [if_pos (by rfl)]
        go_simp
        have OW31 : Hid ((W25.alloc (.cells #[] 72)).ownsRow (w.heap.size + 1 + 1 + 1) 72 65 (.slice (some ⟨W25.heap.size, 0, none⟩) 0 0) 0 []) := (show World.ownsRow _ _ _ _ _ _ _ from World.ownsRow_made W25 #[] 0 HW25.out.sz (Nat.zero_le _) rfl)
        have HW31 := Lib.hid (HW25.out.alloc (.cells #[] 72))
        have RN31 := Lib.hid (RN25.out.alloc (.cells #[] 72))
        obtain ⟨g0, hg0⟩ : ∃ g0, g0 = W25.heap.size := ⟨_, rfl⟩
        rw [← hg0] at OW31 ⊢
        have hg07 : g7 ≠ g0 := by have := RN25.out.lt; omega
        clear hg0
        generalize W25.alloc (.cells #[] 72) = W31 at OW31 HW31 RN31 ⊢
        refine hK _ _ (Row.all HW31.out.rb) (fun _ => ?_)
        clear hK K
        try simp only [Act.put, List.setIfInBounds_toArray, List.set_cons_zero, List.set_cons_succ]
        refine wpAnyH_ready (rs := [3]) (by kernel_rfl) (by simp) ?_
        refine (AllReadyH.cons rfl (fun K hK => ?_) AllReadyH.nil)
        rw [if_pos (by rfl)]
        refine wp_append_k (.tmp 28) (.tmp 30) 29 rfl (w.heap.size + 1 + 1 + 1) 72 ie _ 65 72 Try.underlying29 HIE.out HZ0.out HZ1.out HZ2.out rfl (by decide) (.slice (some ⟨g0, 0, none⟩) 0 0) 0 [] rfl OW31.out A2 m c2 (pend.flatMap wcs) rfl HPLEN.out w.heap.size (HPV.out.below HW31.out.bel) (wcss_one _) HM0.out (by unfold maxLen; omega) (by omega) HW31.out.sz ?_
        intro v3 W32 hown3 hg3
        have hx3 : ∀ q, some g0 = some q → w.heap.size + 1 + 1 + 1 ≤ q := fun q hq => (World.ownsRow.lt OW31.out q (by simpa [Value.ownBlock] using hq)).1
        have HW32 := Lib.hid (HW31.out.grown hg3 (fun q hq => hx3 q (by simpa [Value.ownBlock] using hq)))
        have OW32 : Hid (W32.ownsRow (w.heap.size + 1 + 1 + 1) 72 65 v3 m (pend.flatMap wcs)) := (show World.ownsRow _ _ _ _ _ _ _ from by simpa using hown3)
        have RN32 := Lib.hid (RN31.out.grown hg3 (fun e => hg07 (by simpa [Value.ownBlock] using e)))
        refine hK _ _ (Row.all HW32.out.rb) (fun _ => ?_)
        clear hK K hown3 hg3
        try simp only [Act.put, List.setIfInBounds_toArray, List.set_cons_zero, List.set_cons_succ]
        refine wpAnyH_ready (rs := [8]) (by kernel_rfl) (by simp) ?_
        refine (AllReadyH.cons rfl (fun K hK => ?_) AllReadyH.nil)
        rw [if_pos (by rfl)]
        refine wp_append_own _ (.tmp 31) (.tmp 35) 29 rfl (w.heap.size + 1 + 1 + 1) 72 ie _ 65 72 Try.underlying29 HIE.out HZ0.out HZ1.out HZ2.out rfl (by decide) v3 m (pend.flatMap wcs) rfl OW32.out ⟨g7, 0, none⟩ 1 1 (wcs (i, b)) rfl (HWL2.out) (fun j u hu => by rw [Addr.add_lit, Nat.zero_add, RN32.out.cell]; exact hu) (wcs_one _) (by unfold maxLen; omega) (by omega) HW32.out.sz ?_
        intro v8 W33 hown8 hg8 _
        have HW33 := Lib.hid (HW32.out.grown hg8 (fun q hq => (World.ownsRow.lt OW32.out q hq).1))
        rw [HFM.out] at hown8
        obtain ⟨g8, cap8, rfl, hgb8, hgl8, hgc8, hwr8⟩ := own_wrs hown8 (by omega) HPL1.out HP64.out
        have HWR8 := Lib.hid hwr8
        clear hown8 hg8 hwr8
        refine hK _ _ (Row.all HW33.out.rb) (fun _ => ?_)
        clear hK K
        try simp only [Act.put, List.setIfInBounds_toArray, List.set_cons_zero, List.set_cons_succ]
        have hHeld := Row.all HW33.out.rb
        refine wpAnyH_take (i := 9) (oi := ⟨some 37, _, _, _, _, _⟩) (v := ?v9x33) rfl (by kernel_rfl) (by kernel_rfl) (by kernel_rfl) (fun _ _ _ h => h) (Or.inl ⟨by rfl, ?y9x33⟩) hHeld ?r9x33
        case y9x33 =>
          rintro w' q0
          go_simp
          try with_reducible rfl
        try simp only [Act.put, List.setIfInBounds_toArray, List.set_cons_zero, List.set_cons_succ]
        clear hHeld
        refine wpAnyH_ready (rs := [10]) (by kernel_rfl) (by simp) ?_
        refine AllReadyH.cons rfl (fun K hK => ?_) AllReadyH.nil
        rw [if_pos (by rfl)]
        have c1 : W33.cell? ⟨w.heap.size, 1, none⟩ = some (.slice A2 m c2) := HW33.out.r0.cell 1
        have f1 := HW33.out.r0.frozen 1
        go_simp
        have HWF : Hid (Wr w (W33.setCell ⟨w.heap.size, 1, none⟩ (.slice (some ⟨g8, 0, none⟩) (m + 1) cap8)) (rcs ⟨A, n, c, some ⟨g8, 0, none⟩, m + 1, cap8⟩ dm.1 dm.2.1 am.1 dm.2.2.1) b) := (show Wr _ _ _ _ from ⟨HW33.out.r0.store 1 _, HW33.out.rb.far (by simp) _, HW33.out.r6.far (by simp; omega) _, HW33.out.bel.setCell (p := ⟨w.heap.size, 1, none⟩) (Nat.le_refl _) _⟩)
        have HWX := Lib.hid (Wrs.far HWR8.out (p := ⟨w.heap.size, 1, none⟩) (by simp; omega) (.slice (some ⟨g8, 0, none⟩) (m + 1) cap8))
        clear c1 f1 HWR8 HW33
        generalize W33.setCell ⟨w.heap.size, 1, none⟩ (.slice (some ⟨g8, 0, none⟩) (m + 1) cap8) = Wf at HWF HWX ⊢
        refine hK _ _ (Row.all HWF.out.rb) (fun _ => ?_)
        clear hK K
        try simp only [Act.put, List.setIfInBounds_toArray, List.set_cons_zero, List.set_cons_succ]
        refine wpAnyH_done (by kernel_rfl) ?_ _
        go_wp2_with (first
          | (with_reducible refine wpList_load_mid (op := ⟨some 38, _, _, _, _, _⟩) ?_ 31 (.tmp 3) (by rfl) w.heap.size 0 ?_ (rcs ⟨A, n, c, some ⟨g8, 0, none⟩, m + 1, cap8⟩ dm.1 dm.2.1 am.1 dm.2.2.1) _ ?_ Try.underlying31 ?_ ?_ ?_)
          | (with_reducible refine wpList_store_in (op := ⟨none, _, _, _, _, _⟩) ?_ 31 (.tmp 6) (.tmp 38) (by rfl) (w.heap.size + 1 + 1) 0 (rcs ⟨A, n, c, some ⟨g8, 0, none⟩, m + 1, cap8⟩ dm.1 dm.2.1 am.1 dm.2.2.1) ?_ ?_ 31 rz ?_ ?_ (rcs_one _ _ _ _ _) ?_ ?_))
        all_goals try (first | rfl | exact Row.all HWF.out.r0 | exact HWF.out.r6 | exact size31 | exact size39 | (show 0 + 6 ≤ 6; decide) | (show 0 + 64 ≤ 64; decide))
        intro w9 hr hgr
        rw [splice_all _ _ (by rfl)] at hr
        have T1 := Lib.hid hr
        have TB := Lib.hid (HWF.out.bel.grown hgr HWF.out.bel.size (fun k hk => by simp at hk; omega))
        have TW := Lib.hid (Wrs.grown HWX.out hgr (by simp; omega))
        have hg9 : g8 < w9.heap.size := by
          obtain ⟨b', o', e', hlt', _⟩ := TW.out (by rw [HPL1.out]; omega)
          cases e'; exact hlt'
        clear hr hgr HWF HWX
        go_wp2
        refine bodyPost_ret (v := .tuple #[.agg (rcs ⟨A, n, c, some ⟨g8, 0, none⟩, m + 1, cap8⟩ dm.1 dm.2.1 am.1 dm.2.2.1).toArray, .int .i64 0]) (results_ct (p := 6) (q := 7) (ty := 31) rfl _ _ ⟨w.heap.size + 1 + 1, 0, none⟩ _ _ rfl (run_load_rcs _ _ _ rfl T1.out) rfl) rfl ?_
        rw [HY.out, HOK2.out]
        exact ⟨⟨A, n, c, some ⟨g8, 0, none⟩, m + 1, cap8⟩, g8 :: xs, rfl, RVat.put (HRV.out _ TB.out) HPL1.out hgc8 TW.out hg9, (fun q hq => by rcases List.mem_cons.1 hq with rfl | hq; exact .inr (by omega); exact .inl hq), TB.out⟩
end Go.Proofs.Ytbfpadilcfelbaa.Dsk
