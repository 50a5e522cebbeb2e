/-
  Heap: the laws' short: pages in memory of their own.
-/
import Derived.Test.YtnojkoefdigcnaaHp6
import Derived.LoopTactic
import Derived.Deep.RegionHeld
import Derived.Deep.Cut
import Derived.WalkLawsBesides
namespace Go.Proofs.Ytnojkoefdigcnaa.Hp
set_option maxRecDepth 100000
open Go.RowKit Go.Proofs.Ytnojkoefdigcnaa.Dsk Go.Proofs.Ytnojkoefdigcnaa.Pg Go.Proofs.Ytnojkoefdigcnaa.Rec Go.Proofs.Ytnojkoefdigcnaa.Wd Go.Proofs.Ytnojkoefdigcnaa.Wi Go.Proofs.Ytnojkoefdigcnaa.Ky Go.Proofs.Ytnojkoefdigcnaa.Oct Go.Proofs.Ytnojkoefdigcnaa.Rec Go.Proofs.Ytnojkoefdigcnaa.Lift

/-- pages in a row of one's own, their slots too -/
structure OwnPs (W : World) (base : Nat) (v : Value) (xs : List PX) : Prop where
  own : W.ownsRow base 73 6 v xs.length (xs.flatMap PX.cells)
  po : ∀ x ∈ xs, PO W base x.sl x.s
  short : ∀ x ∈ xs, ∀ k, k < 4 → (x.sl k).length ≤ 53
def shortP (p : PM) : PM := ⟨p.num, p.lsn, shortS p.sl⟩
theorem OwnPs.below {W W' : World} {base : Nat} {v : Value} {xs : List PX} (h : OwnPs W base v xs) (hb : Below W.heap.size W W') : OwnPs W' base v xs :=
  ⟨ownS_below h.own hb, fun x hx => (h.po x hx).below hb, h.short⟩
theorem OwnPs.kept {W W' : World} {base g : Nat} {v : Value} {xs : List PX} (h : OwnPs W base v xs) {t : TypeId} {cs : List Value} (hr : Row W g t cs) (hg : W.grownBy W' (some g)) (hv : v.ownBlock ≠ some g) (ht : t ≠ 5) : OwnPs W' base v xs :=
  ⟨ownS_kept h.own fun k hk => hg.block k (ownS_type h.own hk).2.2 (fun e => hv (by rw [hk, ← e])), fun x hx k hk => ((h.po x hx) k hk).kept hg (own_ne ((h.po x hx) k hk) hr ht), h.short⟩
theorem pgcells_len (xs : List PX) : (xs.flatMap PX.cells).length = xs.length * 6 := by
  induction xs with
  | nil => rfl
  | cons x L ih => rw [List.flatMap_cons, List.length_append, ih, List.length_cons, show x.cells.length = 6 from rfl]; omega
theorem pgcells_at : ∀ (xs : List PX) (i j : Nat) (x : PX) (v : Value), xs[i]? = some x → x.cells[j]? = some v → (xs.flatMap PX.cells)[i * 6 + j]? = some v
  | [], i, j, x, v, h, _ => by simp at h
  | y :: xs, 0, j, x, v, h, hj => by
    obtain rfl : y = x := by simpa using h
    have hj6 : j < y.cells.length := (List.getElem?_eq_some_iff.1 hj).1
    rw [List.flatMap_cons, List.getElem?_append_left (by omega), Nat.zero_mul, Nat.zero_add]
    exact hj
  | y :: xs, i + 1, j, x, v, h, hj => by
    rw [List.flatMap_cons, List.getElem?_append_right (by rw [show y.cells.length = 6 from rfl]; omega), show (i + 1) * 6 + j - y.cells.length = i * 6 + j from by rw [show y.cells.length = 6 from rfl]; omega]
    exact pgcells_at xs i j x v (by simpa using h) hj
theorem OwnPs.pgs {W : World} {base n c : Nat} {A : Option Addr} {xs : List PX} (h : OwnPs W base (.slice A n c) xs) (hn : xs.length = n) : Pgs W W.heap.size A xs := by
  refine ⟨fun hp => ?_, fun x hx => (h.po x hx).at_⟩
  have ho := h.own
  rw [hn] at ho
  rcases ho.2 with ⟨hv, h0⟩ | ⟨g, cap, cur, hv, hb, hg, h1, h2, h3, h4⟩
  · omega
  · injection hv with e1 e2 e3
    refine ⟨g, 0, e1, (Array.getElem?_eq_some_iff.1 hg).1, fun i x hx j v hj => ?_⟩
    have h5 := pgcells_at xs i j x v hx hj
    rw [cell_of_row W g _ cur _ (0, 0) hg]
    rw [← h4, List.getElem?_take] at h5
    rw [Nat.zero_add]
    split at h5
    · simpa using h5
    · cases h5
theorem OwnPs.lens {W : World} {base : Nat} {v : Value} {xs : List PX} (h : OwnPs W base v xs) : ∀ x ∈ xs, ∀ k, k < 4 → x.s.n k ≤ 140737488355328 := fun x hx k hk => by
  rw [← (h.po x hx).at_.lens k hk]
  have := h.short x hx k hk
  omega
theorem info_pg : (Try.prog.info? 73).map (fun i => (i.zero, i.size, i.bytes)) = some (some (.agg (pcs 0 0 zs).toArray), 6, 112) := by kernel_rfl
theorem wpList_append_pg {w : World} {ops : Array Oper} {rest : List Oper} {o : Oper} {a : Act} {Q : Exit → Act → World → Prop} (hgd : Region.wanted o (yielded ops a.tmps) = true) (s x : Operand)
    (ho : o.op = .call { callee := .builtin .append, args := #[s, x], argTypes := #[44, 44] })
    (base : Nat) (v : Value) (L : List PX) (hs : a.eval s = v) (h : OwnPs w base v L) (ad : Addr) (c : Nat) (y : PX) (hx : a.eval x = .slice (some ad) 1 c) (hcs : ∀ j u, y.cells[j]? = some u → w.cell? (ad.add j) = some u) (hy : PO w base y.sl y.s) (hyl : ∀ k, k < 4 → (y.sl k).length ≤ 53)
    (hn : L.length ≤ 100000) (hbase : base ≤ w.heap.size)
    (hK : ∀ v' w', OwnPs w' base v' (L ++ [y]) → w.grownBy w' v.ownBlock → wpList Try.prog ops Q rest (a.put o.dst v') w') : wpList Try.prog ops Q (o :: rest) a w := by
  obtain ⟨i, hi, hz, hz1, hz2⟩ := info_parts3 info_pg
  refine wpList_append_p hgd (fun _ => True) s x 44 ho base 73 i _ 6 112 Try.underlying44 hi hz hz1 hz2 rfl (by omega) v L.length (L.flatMap PX.cells) hs h.own ad 1 c y.cells hx rfl hcs (fun u hu => pcs_one u hu) (by unfold maxLen; omega) (by omega) hbase (by omega) (fun _ _ => trivial) (fun _ _ => trivial) ?_ ?_
  · intro g e
    obtain ⟨⟨cs, hr⟩, -, -⟩ := ownS_type h.own e
    exact ⟨cs.toArray, _, hr, fun _ _ => trivial⟩
  · intro v' w' h2 h3 h4 h5
    have hkp : ∀ z : PX, PO w base z.sl z.s → PO w' base z.sl z.s := fun z hz k hk => by
      refine (hz k hk).kept h3 ?_
      rcases he : v.ownBlock with _ | g
      · cases (Value.slice (z.s.A k) (z.s.n k) (z.s.c k)).ownBlock <;> simp
      · obtain ⟨⟨cs, hr⟩, -, -⟩ := ownS_type h.own he
        exact own_ne (hz k hk) hr (by decide)
    refine hK v' w' ⟨?_, fun z hz => ?_, fun z hz => ?_⟩ h3
    · rw [List.length_append, List.flatMap_append]
      simpa using h2
    · rcases List.mem_append.1 hz with hz | hz
      · exact hkp z (h.po z hz)
      · obtain rfl : z = y := by simpa using hz
        exact hkp z hy
    · rcases List.mem_append.1 hz with hz | hz
      · exact h.short z hz
      · obtain rfl : z = y := by simpa using hz
        exact hyl

theorem wpList_build1 {P : Program} {ops : Array Oper} {rest : List Oper} {o : Oper} {a : Act} {w : World} {Q : Exit → Act → World → Prop} (hgd : Region.wanted o (yielded ops a.tmps) = true) (t e : TypeId) (x : Operand) (ho : o.op = .buildSlice t 1 #[(0, x)])
    (vs zs : List Value) (ie : TypeInfo) (hx : a.eval x = .agg vs.toArray) (hu : P.underlying t = some (.slice e)) (hie : P.info? e = some ie) (hz : ie.zero = some (.agg zs.toArray)) (hs : ie.size = zs.length) (hl : vs.length = zs.length) (hpos : 0 < zs.length) (hn : zs.length ≤ 1000)
    (h : wpList P ops Q rest (a.put o.dst (.slice (some ⟨w.heap.size, 0, none⟩) 1 1)) (w.alloc (.cells vs.toArray e))) : wpList P ops Q (o :: rest) a w :=
  wpList_wanted hgd fun _ hK => wp_buildOne t e x ho vs zs ie hx hu hie hz hs hl hpos hn (hK _ _ h)
/-- what short answers -/
def ShortR (w : World) (ms : List PM) (e : Ending) (w' : World) : Prop := ∃ A c xs, e = .returned (.slice A xs.length c) ∧ OwnPs w' w.heap.size (.slice A xs.length c) xs ∧ xs.map pmOf = (ms.take 33).map shortP ∧ Below w.heap.size w w'
theorem short_snoc {ms : List PM} {k : Nat} {p : PM} (h : ms[k]? = some p) : (ms.take (k + 1)).map shortP = (ms.take k).map shortP ++ [shortP p] := by
  rw [List.take_succ_eq_append_getElem (List.getElem?_eq_some_iff.1 h).1, (List.getElem?_eq_some_iff.1 h).2]
  simp
set_option maxHeartbeats 8000000 in
theorem short_any (l : List PX) (A : Option Addr) (n c : Nat) (w : World) (hn : l.length = n) (hP : Pgs w w.heap.size A l) :
    Calls Try.prog 16 #[.slice A n c] w (ShortR w (l.map pmOf)) := by
  obtain ⟨iR, hiR, hzR, hsR, hbR⟩ := info_parts3 info_pg
  have HN := Lib.hid hn
  have HP := Lib.hid hP
  clear hn hP
  obtain ⟨ms, hms⟩ : ∃ ms, ms = l.map pmOf := ⟨_, rfl⟩
  have HMS := Lib.hid hms
  rw [← hms]
  clear hms
  go_enter Try.func16, Try.ntmps16
  go_wp2_with fail
  have HI0 : Hid (Below w.heap.size w w) := Lib.hid (Below.refl _ _)
  have HV0 : Hid (∃ xs : List PX, OwnPs w w.heap.size (.slice none 0 0) xs ∧ xs.map pmOf = (ms.take 0).map shortP) := Lib.hid ⟨[], ⟨⟨rfl, .inl ⟨rfl, rfl⟩⟩, (fun x hx => by cases hx), (fun x hx => by cases hx)⟩, rfl⟩
  go_loopw [3, 10] (fun t i wr => ∃ (k : Nat) (v : Value), k ≤ n ∧ k ≤ 33 ∧ i = .int .i64 (k : Int) ∧ t = v ∧ Hid (∃ xs : List PX, OwnPs wr w.heap.size v xs ∧ xs.map pmOf = (ms.take k).map shortP) ∧ Hid (Below w.heap.size w wr)) (fun _ i _ => n - (intOf i).toNat)
  case atStart => exact ⟨0, _, by omega, by omega, rfl, rfl, HV0, HI0⟩
  case round =>
    obtain ⟨k, v, hk, hk33, rfl, rfl, HV, HI⟩ := hrel
    clear HI0 HV0
    have HLK : Hid (∀ xs : List PX, xs.map pmOf = (ms.take k).map shortP → xs.length = k) := Lib.hid (fun xs h => by
      have := congrArg List.length h
      simp only [List.length_map, List.length_take] at this
      rw [HMS.out, List.length_map, HN.out] at this
      omega)
    by_cases hlt : k < n
    case neg =>
      have h1 : ¬ (k : Int) < (n : Int) := by omega
      obtain ⟨xs, ho, hx⟩ := HV.out
      obtain ⟨Av, cv, rfl, -, -, -⟩ := ownS_slice ho.own
      have HX : Hid (ShortR w ms (.returned (.slice Av xs.length cv)) wr) := Lib.hid ⟨Av, cv, xs, rfl, ho, by rw [hx, List.take_of_length_le (by rw [HMS.out, List.length_map, HN.out]; omega), List.take_of_length_le (by rw [HMS.out, List.length_map, HN.out]; omega)], HI.out⟩
      clear ho hx HV HI
      go_wp2
      go_ret
      exact HX.out
    have h1 : (k : Int) < (n : Int) := by omega
    obtain ⟨x, hx⟩ : ∃ x, l[k]? = some x := ⟨_, List.getElem?_eq_getElem (by rw [HN.out]; exact hlt)⟩
    have hxm : ms[k]? = some (pmOf x) := by rw [HMS.out, List.getElem?_map, hx]; rfl
    obtain ⟨b, o, rfl, hblt, c0, c1, c2, c3, c4, c5⟩ := (HP.out.below HI.out).cells hx
    have HSN := Lib.hid (short_snoc hxm)
    have HAT := Lib.hid ((HP.out.at_ x (List.mem_of_getElem? hx)).below HI.out)
    have HATW := Lib.hid (HP.out.at_ x (List.mem_of_getElem? hx))
    by_cases h33 : k = 33
    · have h33i : ((k : Int) == 33) = true := by rw [h33]; rfl
      obtain ⟨xs, ho, hxs⟩ := HV.out
      obtain ⟨Av, cv, rfl, -, -, -⟩ := ownS_slice ho.own
      have hwa : Below wr.heap.size wr (wr.alloc (.cells (pcs x.num x.lsn x.s).toArray 73)) := (Below.refl _ _).alloc (Nat.le_refl _) _
      have HX : Hid (ShortR w ms (.returned (.slice Av xs.length cv)) (wr.alloc (.cells (pcs x.num x.lsn x.s).toArray 73))) := Lib.hid ⟨Av, cv, xs, rfl, ho.below hwa, by rw [hxs, h33], HI.out.trans (hwa.mono HI.out.size)⟩
      clear ho hxs HV HI h33 hx hxm HSN HAT HATW hwa
      obtain ⟨num, lsn, sl, st⟩ := x
      dsimp only at *
      unfold pcs at HX
      go_wp2
      go_ret
      exact HX.out
    have h33i : ((k : Int) == 33) = false := by simp; omega
    have hk32 : k ≤ 32 := by omega
    have HB : Hid (Below wr.heap.size wr (wr.alloc (.cells (pcs x.num x.lsn x.s).toArray 73))) := Lib.hid ((Below.refl _ _).alloc (Nat.le_refl _) _)
    have HRP : Hid (Row (wr.alloc (.cells (pcs x.num x.lsn x.s).toArray 73)) wr.heap.size 73 (pcs x.num x.lsn x.s)) := Lib.hid (Row.new _ _ _)
    clear hx hxm h33
    obtain ⟨num, lsn, sl, st⟩ := x
    dsimp only at *
    have HIX := Lib.hid (idx_any st)
    unfold scs at HIX
    have HPC : Hid (pcs num lsn st = [.int .i64 num, .int .u64 (lsn : Int), .slice (st.A 0) (st.n 0) (st.c 0), .slice (st.A 1) (st.n 1) (st.c 1), .slice (st.A 2) (st.n 2) (st.c 2), .slice (st.A 3) (st.n 3) (st.c 3)]) := Lib.hid rfl
    have HPM : Hid (shortP (pmOf ⟨num, lsn, sl, st⟩) = ⟨num, lsn, shortS sl⟩) := Lib.hid rfl
    rw [HPM.out] at HSN
    rw [HPC.out] at HB HRP
    go_upto_region 6 with fail
    clear c0 c1 c2 c3 c4 c5
    generalize hwe : (wr.alloc (.cells #[.int .i64 num, .int .u64 (lsn : Int), .slice (st.A 0) (st.n 0) (st.c 0), .slice (st.A 1) (st.n 1) (st.c 1), .slice (st.A 2) (st.n 2) (st.c 2), .slice (st.A 3) (st.n 3) (st.c 3)] 73)) = w1 at HB HRP ⊢
    have HI1 := Lib.hid (HI.out.trans (HB.out.mono HI.out.size))
    have HV1 : Hid (∃ xs : List PX, OwnPs w1 w.heap.size u3 xs ∧ xs.map pmOf = (ms.take k).map shortP) := Lib.hid (by
      obtain ⟨xs, ho, hxs⟩ := HV.out
      exact ⟨xs, ho.below HB.out, hxs⟩)
    have HAT1 := Lib.hid (HAT.out.below (HB.out.mono HI.out.size))
    have HGW : Hid (w.heap.size ≤ wr.heap.size) := Lib.hid HI.out.size
    obtain ⟨gp, hgp⟩ : ∃ g, g = wr.heap.size := ⟨_, rfl⟩
    have HVN : Hid (u3.ownBlock ≠ some gp) := Lib.hid (fun e => by
      obtain ⟨xs, ho, -⟩ := HV.out
      have := (ownS_type ho.own e).2.2
      omega)
    rw [← hgp] at HRP HGW ⊢
    clear hwe hgp HB HI HV HAT
    rw [← HPC.out] at HRP
    have ha2 : w1.cell? ⟨gp, 2, none⟩ = some (.slice (st.A 0) (st.n 0) (st.c 0)) := HRP.out.cell 2
    have ha3 : w1.cell? ⟨gp, 3, none⟩ = some (.slice (st.A 1) (st.n 1) (st.c 1)) := HRP.out.cell 3
    have ha4 : w1.cell? ⟨gp, 4, none⟩ = some (.slice (st.A 2) (st.n 2) (st.c 2)) := HRP.out.cell 4
    have ha5 : w1.cell? ⟨gp, 5, none⟩ = some (.slice (st.A 3) (st.n 3) (st.c 3)) := HRP.out.cell 5
    go_wp2_with fail
    clear ha2 ha3 ha4 ha5
    go_loopw [19] (fun t wr => ∃ j : Nat, j ≤ 4 ∧ t = .int .i64 (j : Int) ∧ Hid (∃ s', Row wr gp 73 (pcs num lsn s') ∧ PgAt wr w.heap.size (fun i => if i < j then (sl i).take 53 else sl i) s') ∧ Hid (∃ xs : List PX, OwnPs wr w.heap.size u3 xs ∧ xs.map pmOf = (ms.take k).map shortP) ∧ Hid (Below w.heap.size w wr)) (fun t _ => 4 - (intOf t).toNat)
    case atStart => exact ⟨0, by omega, rfl, Lib.hid ⟨st, HRP.out, fun j hj => by simpa using HAT1.out j hj⟩, HV1, HI1⟩
    case round =>
      obtain ⟨j, hj, rfl, HE, HVI, HIJ⟩ := hrel
      clear HRP HV1 HI1 HAT1
      obtain ⟨s', hc, hpg⟩ := HE.out
      have HC := Lib.hid hc
      have HPG := Lib.hid hpg
      clear hc HE hpg
      by_cases hlt4 : j < 4
      · have h1 : (j : Int) < 4 := by omega
        have h0 : 0 ≤ (j : Int) := by omega
        have hix := HIX.out j hlt4
        have HSK := Lib.hid (HPG.out j hlt4)
        have hsj : Sl wr w.heap.size (st.A j) (st.n j) (st.c j) (sl j) := (HATW.out j hlt4).below HIJ.out
        have hcl : wr.cell? ⟨gp, 2 + j, none⟩ = some (.slice (s'.A j) (s'.n j) (s'.c j)) := pcs_cell HC.out j hlt4
        have hfr := HC.out.frozen (2 + j)
        have hcap := hsj.cap
        have hmost := hsj.most
        unfold maxLen at hmost
        obtain ⟨m, hm⟩ : ∃ m, m = min 53 (st.n j) := ⟨_, rfl⟩
        have hmin : (if (53 : Int) < (st.n j : Int) then (53 : Int) else (st.n j : Int)) = (m : Int) := by split <;> omega
        have hmc : m ≤ st.c j := by omega
        have HC3 : Hid (Row (wr.setCell ⟨gp, 2 + j, none⟩ (.slice (st.A j) m (st.c j))) gp 73 (pcs num lsn (s'.set j (st.A j) m (st.c j)))) := Lib.hid (by
          have := HC.out.store (2 + j) (.slice (st.A j) m (st.c j))
          rwa [pcs_set hlt4] at this)
        have HPG3 : Hid (PgAt (wr.setCell ⟨gp, 2 + j, none⟩ (.slice (st.A j) m (st.c j))) w.heap.size (fun i => if i < j + 1 then (sl i).take 53 else sl i) (s'.set j (st.A j) m (st.c j))) := Lib.hid (by
          intro i hi
          have hbel : Below w.heap.size wr (wr.setCell ⟨gp, 2 + j, none⟩ (.slice (st.A j) m (st.c j))) := (Below.refl _ _).setCell (p := ⟨gp, 2 + j, none⟩) HGW.out _
          by_cases hij : i = j
          · subst hij
            simp only [PS.set, upd_at, if_pos (Nat.lt_succ_self _)]
            exact (Pg.Sl.pre hsj 53 m hm).below hbel
          · simp only [PS.set, upd_not _ _ hij]
            have e : (if i < j + 1 then (sl i).take 53 else sl i) = (if i < j then (sl i).take 53 else sl i) := by
              by_cases hlt2 : i < j
              · rw [if_pos hlt2, if_pos (by omega)]
              · rw [if_neg hlt2, if_neg (by omega)]
            rw [e]
            exact (HPG.out i hi).below hbel)
        have HVI3 : Hid (∃ xs : List PX, OwnPs (wr.setCell ⟨gp, 2 + j, none⟩ (.slice (st.A j) m (st.c j))) w.heap.size u3 xs ∧ xs.map pmOf = (ms.take k).map shortP) := Lib.hid (by
          obtain ⟨xs, ho, hxs⟩ := HVI.out
          exact ⟨xs, ho.kept HC.out (grown_store wr gp (2 + j) _) HVN.out (by decide), hxs⟩)
        have HI3 : Hid (Below w.heap.size w (wr.setCell ⟨gp, 2 + j, none⟩ (.slice (st.A j) m (st.c j)))) := Lib.hid (HIJ.out.setCell (p := ⟨gp, 2 + j, none⟩) HGW.out _)
        clear hm hcap hsj HVI HIJ HC HPG HSK
        go_upto_region 10 with fail
        generalize wr.setCell ⟨gp, 2 + j, none⟩ (.slice (st.A j) m (st.c j)) = w3 at HC3 HPG3 HVI3 HI3 ⊢
        clear hcl hfr hix hmost hmin hmc
        go_wp2_with fail
        go_roundw
        case rel => exact ⟨j + 1, by omega, by go_num, Lib.hid ⟨_, HC3.out, HPG3.out⟩, HVI3, HI3⟩
        case measure => simp [intOf]; omega
      · obtain rfl : j = 4 := by omega
        have HPG4 : Hid (PgAt wr w.heap.size (shortS sl) s') := Lib.hid (fun j hj => by
          have := HPG.out j hj
          simp only [if_pos hj] at this
          exact this)
        have HM : Hid (∀ k, k < 4 → s'.n k ≤ 100000) := Lib.hid (fun j hj => by
          rw [← HPG4.out.lens j hj]
          unfold shortS
          rw [List.length_take]
          omega)
        have HCO := Lib.hid (copy_any num lsn (shortS sl) s' w.heap.size wr HPG4.out HIJ.out.size HM.out)
        have HGL : Hid (gp < wr.heap.size) := Lib.hid HC.out.lt
        have ha0 : wr.cell? ⟨gp, 0, none⟩ = some (.int .i64 num) := HC.out.cell 0
        have ha1 : wr.cell? ⟨gp, 1, none⟩ = some (.int .u64 (lsn : Int)) := HC.out.cell 1
        have ha2 : wr.cell? ⟨gp, 2, none⟩ = some (.slice (s'.A 0) (s'.n 0) (s'.c 0)) := HC.out.cell 2
        have ha3 : wr.cell? ⟨gp, 3, none⟩ = some (.slice (s'.A 1) (s'.n 1) (s'.c 1)) := HC.out.cell 3
        have ha4 : wr.cell? ⟨gp, 4, none⟩ = some (.slice (s'.A 2) (s'.n 2) (s'.c 2)) := HC.out.cell 4
        have ha5 : wr.cell? ⟨gp, 5, none⟩ = some (.slice (s'.A 3) (s'.n 3) (s'.c 3)) := HC.out.cell 5
        rw [show pcs num lsn s' = [.int .i64 num, .int .u64 (lsn : Int), .slice (s'.A 0) (s'.n 0) (s'.c 0), .slice (s'.A 1) (s'.n 1) (s'.c 1), .slice (s'.A 2) (s'.n 2) (s'.c 2), .slice (s'.A 3) (s'.n 3) (s'.c 3)] from rfl] at HCO
        clear HPG HPG4 HM
        go_wp2_with fail
        refine HCO.out.mono ?_
        rintro e w5 ⟨s5, rfl, hpo5, hb5⟩
        rw [show pcs num lsn s5 = [.int .i64 num, .int .u64 (lsn : Int), .slice (s5.A 0) (s5.n 0) (s5.c 0), .slice (s5.A 1) (s5.n 1) (s5.c 1), .slice (s5.A 2) (s5.n 2) (s5.c 2), .slice (s5.A 3) (s5.n 3) (s5.c 3)] from rfl]
        obtain ⟨xs, ho, hxs⟩ := HVI.out
        obtain ⟨Av, cv, rfl, -, -, -⟩ := ownS_slice ho.own
        have hwa : Below w5.heap.size w5 (w5.alloc (.cells ([.int .i64 num, .int .u64 (lsn : Int), .slice (s5.A 0) (s5.n 0) (s5.c 0), .slice (s5.A 1) (s5.n 1) (s5.c 1), .slice (s5.A 2) (s5.n 2) (s5.c 2), .slice (s5.A 3) (s5.n 3) (s5.c 3)]).toArray 73)) := (Below.refl _ _).alloc (Nat.le_refl _) _
        have HO6 := Lib.hid ((ho.below hb5).below hwa)
        have HPO6 := Lib.hid ((hpo5.mono HIJ.out.size).below hwa)
        have HI6 := Lib.hid ((HIJ.out.trans (hb5.mono HIJ.out.size)).trans (hwa.mono (Nat.le_trans HIJ.out.size hb5.size)))
        have HXS := Lib.hid hxs
        have HLX : Hid (xs.length ≤ 100000) := Lib.hid (by have := HLK.out xs hxs; omega)
        have HCL : Hid (∀ j u, (PX.cells ⟨num, lsn, shortS sl, s5⟩)[j]? = some u → (w5.alloc (.cells ([.int .i64 num, .int .u64 (lsn : Int), .slice (s5.A 0) (s5.n 0) (s5.c 0), .slice (s5.A 1) (s5.n 1) (s5.c 1), .slice (s5.A 2) (s5.n 2) (s5.c 2), .slice (s5.A 3) (s5.n 3) (s5.c 3)]).toArray 73)).cell? ((⟨w5.heap.size, 0, none⟩ : Addr).add j) = some u) := Lib.hid (fun j u hu => by
          rw [Addr.add_lit, Nat.zero_add]
          exact ((Row.new w5 73 ([.int .i64 num, .int .u64 (lsn : Int), .slice (s5.A 0) (s5.n 0) (s5.c 0), .slice (s5.A 1) (s5.n 1) (s5.c 1), .slice (s5.A 2) (s5.n 2) (s5.c 2), .slice (s5.A 3) (s5.n 3) (s5.c 3)])).cell j).trans hu)
        have HYL : Hid (∀ k, k < 4 → (shortS sl k).length ≤ 53) := Lib.hid (fun k _ => by unfold shortS; rw [List.length_take]; omega)
        have HS6 : Hid (w.heap.size ≤ (w5.alloc (.cells ([.int .i64 num, .int .u64 (lsn : Int), .slice (s5.A 0) (s5.n 0) (s5.c 0), .slice (s5.A 1) (s5.n 1) (s5.c 1), .slice (s5.A 2) (s5.n 2) (s5.c 2), .slice (s5.A 3) (s5.n 3) (s5.c 3)]).toArray 73)).heap.size) := Lib.hid HI6.out.size
        clear hpo5 hb5 HCO HC ha0 ha1 ha2 ha3 ha4 ha5 ho hxs HVI hwa HIJ
        go_upto_region 12 with (first
          | ((with_reducible refine wpList_append_pg (o := ⟨some 36, _, _, _, _, _⟩) ?_ (.tmp 32) (.tmp 35) ?_ w.heap.size (.slice Av xs.length cv) xs ?_ HO6.out ⟨w5.heap.size, 0, none⟩ 1 ⟨num, lsn, shortS sl, s5⟩ ?_ HCL.out HPO6.out HYL.out HLX.out HS6.out ?_); rotate_left 4; intro v11 w11 hp11 hg11))
        all_goals try (first | rfl | (simp [Act.eval, go_sem]; done))
        have HV11 : Hid (∃ xs : List PX, OwnPs w11 w.heap.size v11 xs ∧ xs.map pmOf = (ms.take (k + 1)).map shortP) := Lib.hid ⟨_, hp11, by rw [HSN.out, List.map_append, HXS.out]; rfl⟩
        have HI11 := Lib.hid (HI6.out.grown hg11 HI6.out.size (fun k hk => (ownS_type HO6.out.own hk).2.1))
        clear hp11 hg11 HO6 HPO6 HI6 HCL
        go_wp2_with fail
        go_roundw
        case rel => exact ⟨k + 1, _, by omega, by omega, by go_num, rfl, HV11, HI11⟩
        case measure => simp [intOf]; omega
end Go.Proofs.Ytnojkoefdigcnaa.Hp
