/-
  Heap: the reference's Items.
-/
import Derived.Test.YtnojkoefdigcnaaHpD
import Derived.Test.YtnojkoefdigcnaaHp6
import Derived.LoopTactic
import Derived.Deep.RegionHeld
import Derived.Deep.Cut
import Derived.WalkLawsBesides
namespace Go.Proofs.Ytnojkoefdigcnaa.Hp
set_option maxRecDepth 100000
open Go.RowKit Go.Proofs.Ytnojkoefdigcnaa.Dsk Go.Proofs.Ytnojkoefdigcnaa.Pg Go.Proofs.Ytnojkoefdigcnaa.Rec Go.Proofs.Ytnojkoefdigcnaa.Wd Go.Proofs.Ytnojkoefdigcnaa.Wi Go.Proofs.Ytnojkoefdigcnaa.Ky Go.Proofs.Ytnojkoefdigcnaa.Oct Go.Proofs.Ytnojkoefdigcnaa.Rec Go.Proofs.Ytnojkoefdigcnaa.Lift

def okE (x : EH) : Bool := decide (x.e = 0)
def refI (l : List PM) : List EH := (allE l).filter okE
def RefIR (w : World) (l : List PM) (e : Ending) (w' : World) : Prop := ∃ A c m, e = .returned (.slice A m c) ∧ Hid (m = (refI l).length) ∧ OwnI w' w.heap.size (.slice A m c) (refI l) ∧ Below w.heap.size w w'
theorem wpList_append_st {w : World} {ops : Array Oper} {rest : List Oper} {o : Oper} {a : Act} {Q : Exit → Act → World → Prop} (hgd : Region.wanted o (yielded ops a.tmps) = true) (s x : Operand)
    (ho : o.op = .call { callee := .builtin .append, args := #[s, x], argTypes := #[55, 55] })
    (base : Nat) (v : Value) (L : List EH) (hs : a.eval s = v) (h : OwnI w base v L) (ad : Addr) (c : Nat) (y : EH) (hx : a.eval x = .slice (some ad) 1 c) (hcs : ∀ j u, y.cells[j]? = some u → w.cell? (ad.add j) = some u)
    (hn : L.length ≤ 100000) (hbase : base ≤ w.heap.size)
    (hK : ∀ v' w', OwnI w' base v' (L ++ [y]) → w.grownBy w' v.ownBlock → wpList Try.prog ops Q rest (a.put o.dst v') w') : wpList Try.prog ops Q (o :: rest) a w :=
  wpList_wanted hgd fun K hK' => wp_append_st s x ho base v L hs h ad c y hx hcs hn hbase fun v' w' h1 h2 => hK' _ _ (hK v' w' h1 h2)
theorem elE_filt (p : PM) (k : Nat) : (elE p k).filter okE = match decM (p.sl k) with | some t => [⟨p.num, k, t, 0⟩] | none => [] := by
  unfold elE
  split
  · rename_i h
    have : decM (p.sl k) = none := by
      unfold decM
      rw [if_neg (by omega)]
    rw [this]; rfl
  · cases decM (p.sl k) <;> simp [okE]
theorem pageF_next (p : PM) (k : Nat) : (pageE p (k + 1)).filter okE = (pageE p k).filter okE ++ (elE p k).filter okE := by
  show (pageE p k ++ elE p k).filter okE = _
  rw [List.filter_append]
theorem refI_take {l : List PM} {r : Nat} {p : PM} (h : l[r]? = some p) : refI (l.take (r + 1)) = refI (l.take r) ++ (pageE p 4).filter okE := by
  unfold refI
  rw [List.take_succ_eq_append_getElem (List.getElem?_eq_some_iff.1 h).1, (List.getElem?_eq_some_iff.1 h).2]
  simp [allE, List.flatMap_append, List.filter_append]
theorem refI_len (l : List PM) : (refI l).length ≤ 4 * l.length := Nat.le_trans (List.length_filter_le _ _) (allE_len l)
set_option maxHeartbeats 8000000 in
theorem ritems_any (l : List PX) (A : Option Addr) (n c : Nat) (w : World) (hn : l.length = n) (hm : n ≤ 10000) (hP : Pgs w w.heap.size A l) :
    Calls Try.prog 24 #[.slice A n c] w (RefIR w (l.map pmOf)) := by
  have HN := Lib.hid hn
  have HP := Lib.hid hP
  clear hn hP
  obtain ⟨ms, hms⟩ : ∃ ms, ms = l.map pmOf := ⟨_, rfl⟩
  have HMS := Lib.hid hms
  rw [← hms]
  clear hms
  go_enter Try.func24, Try.ntmps24
  go_wp2_with fail
  have HI0 : Hid (Below w.heap.size w w) := Lib.hid (Below.refl _ _)
  have HV0 : Hid (OwnI w w.heap.size (.slice none 0 0) (refI (ms.take 0))) := Lib.hid ⟨rfl, .inl ⟨rfl, rfl⟩⟩
  go_loopw [3, 12] (fun t i wr => ∃ (k : Nat) (u : Value), k ≤ n ∧ i = .int .i64 (k : Int) ∧ t = u ∧ Hid (OwnI wr w.heap.size u (refI (ms.take k))) ∧ Hid (Below w.heap.size w wr)) (fun _ i _ => n - (intOf i).toNat)
  case atStart => exact ⟨0, _, by omega, rfl, rfl, HV0, HI0⟩
  case round =>
    obtain ⟨k, u, hk, rfl, rfl, HV, HI⟩ := hrel
    clear HI0 HV0
    by_cases hlt : k < n
    case neg =>
      have h1 : ¬ (k : Int) < (n : Int) := by omega
      obtain ⟨Av, cv, rfl, -, -, -⟩ := ownS_slice HV.out
      have HF : Hid (RefIR w ms (.returned (.slice Av (refI (ms.take k)).length cv)) wr) := Lib.hid (by
        have hv := HV.out
        rw [List.take_of_length_le (by rw [HMS.out, List.length_map, HN.out]; omega)] at hv ⊢
        exact ⟨Av, cv, _, rfl, Lib.hid rfl, hv, HI.out⟩)
      clear HV HI
      generalize (refI (ms.take k)).length = m at *
      go_wp2
      go_ret
      exact HF.out
    have h1 : (k : Int) < (n : Int) := by omega
    obtain ⟨x, hx⟩ : ∃ x, l[k]? = some x := ⟨_, List.getElem?_eq_getElem (by rw [HN.out]; exact hlt)⟩
    have hxm : ms[k]? = some (pmOf x) := by rw [HMS.out, List.getElem?_map, hx]; rfl
    obtain ⟨b, o, rfl, hblt, c0, c1, c2, c3, c4, c5⟩ := (HP.out.below HI.out).cells hx
    have HAT := Lib.hid (HP.out.at_ x (List.mem_of_getElem? hx))
    have HXM := Lib.hid hxm
    have HB : Hid (Below wr.heap.size wr (wr.alloc (.cells (pcs x.num x.lsn x.s).toArray 73))) := Lib.hid ((Below.refl _ _).alloc (Nat.le_refl _) _)
    have HRP : Hid (Row (wr.alloc (.cells (pcs x.num x.lsn x.s).toArray 73)) wr.heap.size 73 (pcs x.num x.lsn x.s)) := Lib.hid (Row.new _ _ _)
    have HBX := Lib.hid hblt
    clear hx hxm
    obtain ⟨num, lsn, sl, st⟩ := x
    dsimp only at *
    have HIX := Lib.hid (idx_any st)
    unfold scs at HIX
    have HPC : Hid (pcs num lsn st = [.int .i64 num, .int .u64 (lsn : Int), .slice (st.A 0) (st.n 0) (st.c 0), .slice (st.A 1) (st.n 1) (st.c 1), .slice (st.A 2) (st.n 2) (st.c 2), .slice (st.A 3) (st.n 3) (st.c 3)]) := Lib.hid rfl
    obtain ⟨p, hp⟩ : ∃ p, p = pmOf ⟨num, lsn, sl, st⟩ := ⟨_, rfl⟩
    have HPL : Hid (p.num = num ∧ p.sl = sl) := Lib.hid (by rw [hp]; exact ⟨rfl, rfl⟩)
    rw [← hp] at HXM
    rw [HPC.out] at HB HRP
    clear hp HPC
    go_upto_region 5 with fail
    clear c0 c1 c2 c3 c4 c5
    generalize (wr.alloc (.cells #[.int .i64 num, .int .u64 (lsn : Int), .slice (st.A 0) (st.n 0) (st.c 0), .slice (st.A 1) (st.n 1) (st.c 1), .slice (st.A 2) (st.n 2) (st.c 2), .slice (st.A 3) (st.n 3) (st.c 3)] 73)) = w1 at HB HRP ⊢
    have HI1 := Lib.hid (HI.out.trans (HB.out.mono HI.out.size))
    have HV1 : Hid (OwnI w1 w.heap.size u3 (refI (ms.take k) ++ (pageE p 0).filter okE)) := Lib.hid (by
      rw [show (pageE p 0).filter okE = [] from rfl, List.append_nil]
      exact ownS_below HV.out HB.out)
    obtain ⟨gp, hgp⟩ : ∃ g, g = wr.heap.size := ⟨_, rfl⟩
    rw [← hgp] at HRP ⊢
    clear HB HI HV hgp
    have q2 := HRP.out.cell 2
    have q3 := HRP.out.cell 3
    have q4 := HRP.out.cell 4
    have q5 := HRP.out.cell 5
    simp only [List.getElem?_cons_zero, List.getElem?_cons_succ] at q2 q3 q4 q5
    go_wp2_with fail
    clear q2 q3 q4 q5
    go_loopw [3, 18] (fun t i wr => ∃ (j : Nat) (u : Value), j ≤ 4 ∧ i = .int .i64 (j : Int) ∧ t = u ∧ Hid (OwnI wr w.heap.size u (refI (ms.take k) ++ (pageE p j).filter okE)) ∧ Hid (Below w.heap.size w wr) ∧ Hid (Row wr gp 73 [.int .i64 num, .int .u64 (lsn : Int), .slice (st.A 0) (st.n 0) (st.c 0), .slice (st.A 1) (st.n 1) (st.c 1), .slice (st.A 2) (st.n 2) (st.c 2), .slice (st.A 3) (st.n 3) (st.c 3)])) (fun _ i _ => 4 - (intOf i).toNat)
    case atStart => exact ⟨0, _, by omega, rfl, rfl, HV1, HI1, HRP⟩
    case round =>
      obtain ⟨j, u', hj, rfl, hu', HV, HI, HRJ⟩ := hrel
      subst hu'
      clear HV1 HI1 HRP
      by_cases hlt4 : j < 4
      case neg =>
        have h4 : ¬ (j : Int) < 4 := by omega
        obtain rfl : j = 4 := by omega
        have HVN : Hid (OwnI wr w.heap.size u3 (refI (ms.take (k + 1)))) := Lib.hid (by rw [refI_take HXM.out]; exact HV.out)
        clear HV HRJ
        go_wp2_with fail
        go_roundw
        case rel => exact ⟨k + 1, _, by omega, by go_num, rfl, HVN, HI⟩
        case measure => simp [intOf]; omega
      have h4 : (j : Int) < 4 := by omega
      have h0 : 0 ≤ (j : Int) := by omega
      have hix := HIX.out j hlt4
      have HSJ : Hid (Sl wr wr.heap.size (st.A j) (st.n j) (st.c j) (sl j)) := Lib.hid (((HAT.out j hlt4).below HI.out).more HI.out.size)
      have HNX := Lib.hid (pageF_next p j)
      have HEF := Lib.hid (elE_filt p j)
      rw [HPL.out.1, HPL.out.2] at HEF
      rcases hd : decM (sl j) with _ | ⟨r_, a_, b_, x0, x1, y0, y1, v⟩
      · rw [hd] at HEF
        have HD := Lib.hid (rdec_none (st.A j) (sl j) (st.n j) (st.c j) wr hd HSJ.out)
        have HV3 : Hid (OwnI wr w.heap.size u3 (refI (ms.take k) ++ (pageE p (j + 1)).filter okE)) := Lib.hid (by rw [HNX.out, HEF.out, List.append_nil]; exact HV.out)
        clear hd HSJ HNX HEF HV
        go_wp2_with fail
        refine HD.out.mono ?_
        rintro e w5 ⟨rfl, hb⟩
        have hwa : Below w5.heap.size w5 (w5.alloc (.cells #[.int .u32 0, .int .u64 0, .int .u64 0, .int .i64 0, .int .i64 0, .int .i64 0, .int .i64 0, .int .i64 0] 30)) := (Below.refl _ _).alloc (Nat.le_refl _) _
        have HV6 := Lib.hid (ownS_below (ownS_below HV3.out hb) hwa)
        have HI6 := Lib.hid ((HI.out.trans (hb.mono HI.out.size)).trans (hwa.mono (Nat.le_trans HI.out.size hb.size)))
        have HR6 := Lib.hid ((HRJ.out.below hb HRJ.out.lt).alloc (.cells #[.int .u32 0, .int .u64 0, .int .u64 0, .int .i64 0, .int .i64 0, .int .i64 0, .int .i64 0, .int .i64 0] 30))
        clear hb hwa HD HV3 HI HRJ
        go_wp2_with fail
        go_roundw
        case rel => exact ⟨j + 1, _, by omega, by go_num, rfl, HV6, HI6, HR6⟩
        case measure => simp [intOf]; omega
      · rw [hd] at HEF
        have HD := Lib.hid (rdec_some (st.A j) (sl j) (st.n j) (st.c j) r_ a_ b_ x0 x1 y0 y1 v wr hd HSJ.out)
        have HLX : Hid ((refI (ms.take k) ++ (pageE p j).filter okE).length ≤ 100000) := Lib.hid (by
          have h5 := refI_len (ms.take k)
          have h6 := List.length_filter_le okE (pageE p j)
          have h7 := pageE_len p j
          rw [List.length_take] at h5
          rw [List.length_append]
          omega)
        have HEQ : Hid (refI (ms.take k) ++ (pageE p (j + 1)).filter okE = (refI (ms.take k) ++ (pageE p j).filter okE) ++ [⟨num, j, ⟨r_, a_, b_, x0, x1, y0, y1, v⟩, 0⟩]) := Lib.hid (by rw [HNX.out, HEF.out, List.append_assoc])
        generalize refI (ms.take k) ++ (pageE p j).filter okE = X at HV HLX HEQ
        clear hd HSJ HNX HEF
        go_wp2_with fail
        refine HD.out.mono ?_
        rintro e w5 ⟨rfl, hb⟩
        have HV5 := Lib.hid (ownS_below HV.out hb)
        have HI5 := Lib.hid (HI.out.trans (hb.mono HI.out.size))
        have HR5 := Lib.hid (HRJ.out.below hb HRJ.out.lt)
        clear hb HD HV HI HRJ
        go_upto_region 9 with fail
        have hwa : Below w5.heap.size w5 (w5.alloc (.cells #[.int .u32 (r_ : Int), .int .u64 (a_ : Int), .int .u64 (b_ : Int), .int .i64 x0, .int .i64 x1, .int .i64 y0, .int .i64 y1, .int .i64 v] 30)) := (Below.refl _ _).alloc (Nat.le_refl _) _
        have HT6 : Hid (Row (w5.alloc (.cells #[.int .u32 (r_ : Int), .int .u64 (a_ : Int), .int .u64 (b_ : Int), .int .i64 x0, .int .i64 x1, .int .i64 y0, .int .i64 y1, .int .i64 v] 30)) w5.heap.size 30 [.int .u32 (r_ : Int), .int .u64 (a_ : Int), .int .u64 (b_ : Int), .int .i64 x0, .int .i64 x1, .int .i64 y0, .int .i64 y1, .int .i64 v]) := Lib.hid (Row.new _ _ _)
        have HV6 := Lib.hid (ownS_below HV5.out hwa)
        have HI6 := Lib.hid (HI5.out.trans (hwa.mono HI5.out.size))
        have HR6 := Lib.hid (HR5.out.below hwa HR5.out.lt)
        generalize w5.alloc (.cells #[.int .u32 (r_ : Int), .int .u64 (a_ : Int), .int .u64 (b_ : Int), .int .i64 x0, .int .i64 x1, .int .i64 y0, .int .i64 y1, .int .i64 v] 30) = w6 at HT6 HV6 HI6 HR6 ⊢
        clear hwa HV5 HI5 HR5
        have q0 := HR6.out.cell 0
        have k0 := HT6.out.cell 0
        have k1 := HT6.out.cell 1
        have k2 := HT6.out.cell 2
        have k3 := HT6.out.cell 3
        have k4 := HT6.out.cell 4
        have k5 := HT6.out.cell 5
        have k6 := HT6.out.cell 6
        have k7 := HT6.out.cell 7
        simp only [List.getElem?_cons_zero, List.getElem?_cons_succ] at q0 k0 k1 k2 k3 k4 k5 k6 k7
        obtain ⟨Av, cv, rfl, -, -, -⟩ := ownS_slice HV6.out
        have hwb : Below w6.heap.size w6 (w6.alloc (.cells #[.int .i64 num, .int .i64 (j : Int), .int .u32 (r_ : Int), .int .u64 (a_ : Int), .int .u64 (b_ : Int), .int .i64 x0, .int .i64 x1, .int .i64 y0, .int .i64 y1, .int .i64 v] 64)) := (Below.refl _ _).alloc (Nat.le_refl _) _
        have HV7 := Lib.hid (ownS_below HV6.out hwb)
        have HI7 := Lib.hid (HI6.out.trans (hwb.mono HI6.out.size))
        have HR7 := Lib.hid (HR6.out.below hwb HR6.out.lt)
        have HCL : Hid (∀ jj u, (EH.cells ⟨num, j, ⟨r_, a_, b_, x0, x1, y0, y1, v⟩, 0⟩)[jj]? = some u → (w6.alloc (.cells #[.int .i64 num, .int .i64 (j : Int), .int .u32 (r_ : Int), .int .u64 (a_ : Int), .int .u64 (b_ : Int), .int .i64 x0, .int .i64 x1, .int .i64 y0, .int .i64 y1, .int .i64 v] 64)).cell? ((⟨w6.heap.size, 0, none⟩ : Addr).add jj) = some u) := Lib.hid (fun jj u hu => by
          rw [Addr.add_lit, Nat.zero_add]
          exact ((Row.new w6 64 [.int .i64 num, .int .i64 (j : Int), .int .u32 (r_ : Int), .int .u64 (a_ : Int), .int .u64 (b_ : Int), .int .i64 x0, .int .i64 x1, .int .i64 y0, .int .i64 y1, .int .i64 v]).cell jj).trans hu)
        have HS7 : Hid (w.heap.size ≤ (w6.alloc (.cells #[.int .i64 num, .int .i64 (j : Int), .int .u32 (r_ : Int), .int .u64 (a_ : Int), .int .u64 (b_ : Int), .int .i64 x0, .int .i64 x1, .int .i64 y0, .int .i64 y1, .int .i64 v] 64)).heap.size) := Lib.hid HI7.out.size
        clear hwb HV6 HI6 HR6 HT6
        go_upto_region 11 with (first
          | ((with_reducible refine wpList_append_st (o := ⟨some 36, _, _, _, _, _⟩) ?_ (.tmp 28) (.tmp 35) ?_ w.heap.size (.slice Av X.length cv) X ?_ HV7.out ⟨w6.heap.size, 0, none⟩ 1 ⟨num, j, ⟨r_, a_, b_, x0, x1, y0, y1, v⟩, 0⟩ ?_ HCL.out HLX.out HS7.out ?_); rotate_left 4; intro v11 w11 hp11 hg11))
        all_goals try (first | rfl | (simp [Act.eval, go_sem]; done))
        have HV11 : Hid (OwnI w11 w.heap.size v11 (refI (ms.take k) ++ (pageE p (j + 1)).filter okE)) := Lib.hid (by rw [HEQ.out]; exact hp11)
        have HI11 := Lib.hid (HI7.out.grown hg11 HI7.out.size (fun k hk => (ownS_type HV7.out hk).2.1))
        have HR11 := Lib.hid (HR7.out.grown hg11 (fun e => by
          obtain ⟨⟨cs', h'⟩, -, -⟩ := ownS_type HV7.out e.symm
          exact absurd (rowS_type h' HR7.out) (by decide)))
        clear hp11 hg11 HV7 HI7 HR7 HCL q0 k0 k1 k2 k3 k4 k5 k6 k7
        go_wp2_with fail
        go_roundw
        case rel => exact ⟨j + 1, _, by omega, by go_num, rfl, HV11, HI11, HR11⟩
        case measure => simp [intOf]; omega
end Go.Proofs.Ytnojkoefdigcnaa.Hp
