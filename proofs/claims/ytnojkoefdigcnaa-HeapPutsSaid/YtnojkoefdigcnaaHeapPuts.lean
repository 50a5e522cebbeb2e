/-
  HeapPuts: what is set where it goes is one item more, and all others are as they were. No condition.
-/
import Derived.Test.YtnojkoefdigcnaaHpQ
import Derived.Test.YtnojkoefdigcnaaPgL
import Derived.Deep.RegionHeld
import Derived.Deep.Cut
import Derived.LoopTactic
import Derived.BigQuiet
import Derived.WalkLawsBesides
namespace Go.Proofs.Ytnojkoefdigcnaa.HeapPuts
set_option maxRecDepth 100000
open Go.RowKit Go.ChangeShapes Go.WideShapes Go.ChangeAt Go.Proofs.Ytnojkoefdigcnaa.Pg Go.Proofs.Ytnojkoefdigcnaa.Rec Go.Proofs.Ytnojkoefdigcnaa.Wd Go.Proofs.Ytnojkoefdigcnaa.Wi Go.Proofs.Ytnojkoefdigcnaa.Ky Go.Proofs.Ytnojkoefdigcnaa.Oct Go.Proofs.Ytnojkoefdigcnaa.Lift Go.Proofs.Ytnojkoefdigcnaa.Hp

theorem own : ownKnob Try.prog.godebug = none := by kernel_rfl
theorem laidOut : laidOutB Try.prog = true := by kernel_rfl
theorem bytes1 : Try.prog.bytesOf 5 = 1 := by kernel_rfl

/-- pages of one's own that are meant as told -/
def PJ (W : World) (base : Nat) (v : Value) (ns : List PM) : Prop := ∃ ys, OwnPs W base v ys ∧ ys.map pmOf = ns
theorem PJ.below {W W' : World} {base : Nat} {v : Value} {ns : List PM} (h : PJ W base v ns) (hb : Below W.heap.size W W') : PJ W' base v ns := by
  obtain ⟨ys, h1, h2⟩ := h
  exact ⟨ys, h1.below hb, h2⟩
theorem ownPs_at {W : World} {base n c : Nat} {A : Option Addr} {L : List PX} (h : OwnPs W base (.slice A n c) L) {i : Nat} {x : PX} (hx : L[i]? = some x) : ∃ g, A = some ⟨g, 0, none⟩ ∧ base ≤ g ∧ g < W.heap.size ∧ L.length = n ∧ ∀ j v, x.cells[j]? = some v → W.cell? ⟨g, i * 6 + j, none⟩ = some v := by
  have hp := (List.getElem?_eq_some_iff.1 hx).1
  rcases h.own.2 with ⟨hv, h0⟩ | ⟨g, cap, cur, hv, hb, hg, hn, hm, hs, ht⟩
  · omega
  · injection hv with e1 e2 e3
    refine ⟨g, e1, hb, (Array.getElem?_eq_some_iff.1 hg).1, e2.symm, fun j v hj => ?_⟩
    have h5 := pgcells_at L i j x v hx hj
    rw [cell_of_row W g _ cur _ (0, 0) hg]
    rw [← ht, List.getElem?_take] at h5
    split at h5
    · simpa using h5
    · cases h5
def SetX (W : World) (num : Int) (sl : Nat → List UInt8) (e : Ending) (w' : World) : Prop := ∃ s', e = .returned (.tuple #[.agg #[.int .i64 num, .int .u64 1, .slice (s'.A 0) (s'.n 0) (s'.c 0), .slice (s'.A 1) (s'.n 1) (s'.c 1), .slice (s'.A 2) (s'.n 2) (s'.c 2), .slice (s'.A 3) (s'.n 3) (s'.c 3)], .int .i64 0]) ∧ PO w' W.heap.size sl s' ∧ Below W.heap.size W w'
theorem set_x {W : World} {num : Int} {lsn : Nat} {sl : Nat → List UInt8} {s : PS} {k : Nat} {A : Option Addr} {c : Nat} {bs : List UInt8} (h : PgAt W W.heap.size sl s) (hm : ∀ k, k < 4 → s.n k ≤ 52) (hb : Sl W W.heap.size A 52 c bs) (hk : k < 4) (hn : 0 ≤ num ∧ num < 32) :
    Calls Try.prog 28 #[.agg (pcs num lsn s).toArray, .int .i64 (k : Int), .slice A 52 c, .int .u64 1] W (SetX W num (upd sl k bs)) := by
  refine (set_any num lsn sl s (k : Int) A 52 c bs 1 _ W h (Nat.le_refl _) (fun j hj => Nat.le_trans (hm j hj) (by omega)) hb).mono ?_
  rintro e w' ⟨s', he, hp, hb2⟩
  have hok : okN num s.n = true := okN_iff.2 ⟨hn, hm⟩
  have hE : setE true (k : Int) bs.length = 0 := by
    unfold setE
    rw [ask_in (by omega), if_pos rfl, hb.len, if_neg (by omega)]
  have hS : setM num sl (okN num s.n) (k : Int) bs 1 = ⟨0, num, 1, upd sl k bs⟩ := by
    unfold setM
    rw [hok, hE, if_pos rfl, Int.toNat_natCast]
  rw [hS] at he hp
  exact ⟨s', he, hp, hb2⟩
theorem ins_at {L1 L2 : List EH} {x : EH} {i : Nat} (hi : i ≠ L1.length) : (L1 ++ x :: L2)[i]? = (L1 ++ L2)[if i ≤ L1.length then i else i - 1]? := by
  by_cases h : i < L1.length
  · rw [if_pos (by omega), List.getElem?_append_left h, List.getElem?_append_left h]
  · rw [if_neg (by omega), List.getElem?_append_right (by omega), List.getElem?_append_right (by omega), List.getElem?_cons, if_neg (by omega), show i - 1 - L1.length = i - L1.length - 1 by omega]
theorem ins_d {L1 L2 : List EH} {x : EH} : (L1 ++ x :: L2)[L1.length]? = some x := by
  rw [List.getElem?_append_right (Nat.le_refl _), Nat.sub_self]; rfl
def RoomX (W : World) (E : Int) (m : Nat) (rm : List Nat) (e : Ending) (w' : World) : Prop := ∃ RA rn, e = .returned (.tuple #[.slice RA rn rn, .int .i64 E]) ∧ Hid (¬ E = 0 → rn = 0) ∧ Hid (E = 0 → rn = m ∧ ∃ g, RA = some ⟨g, 0, none⟩ ∧ W.heap.size ≤ g ∧ Row w' g 3 (ivals rm)) ∧ Below W.heap.size W w'
theorem room_x {W w' : World} {l : List PM} {m : Nat} {e : Ending} (h : RoomR W l e w') (hm : l.length = m) : RoomX W (itE l) m (roomM l) e w' := by
  rcases h with ⟨h1, rfl, hb⟩ | ⟨h1, g, rfl, hg, hr, hb⟩
  · exact ⟨none, 0, rfl, Lib.hid (fun _ => rfl), Lib.hid (fun h => absurd h h1), hb⟩
  · rw [hm, h1]
    exact ⟨_, m, rfl, Lib.hid (fun h => absurd rfl h), Lib.hid (fun _ => ⟨rfl, g, rfl, hg, hr⟩), hb⟩
def ItX (W : World) (L : List EH) (E : Int) (e : Ending) (w' : World) : Prop := ∃ A c, e = .returned (.tuple #[.slice A L.length c, .int .i64 E]) ∧ OwnI w' W.heap.size (.slice A L.length c) L ∧ Below W.heap.size W w'
theorem set_ne {a b : List PM} {p p' : PM} {i : Nat} (hi : i ≠ a.length) : (a ++ p' :: b)[i]? = (a ++ p :: b)[i]? := by
  by_cases h : i < a.length
  · rw [List.getElem?_append_left h, List.getElem?_append_left h]
  · rw [List.getElem?_append_right (by omega), List.getElem?_append_right (by omega), List.getElem?_cons, List.getElem?_cons, if_neg (by omega), if_neg (by omega)]
theorem at_d {a b : List PM} {p : PM} : (a ++ p :: b)[a.length]? = some p := by
  rw [List.getElem?_append_right (Nat.le_refl _), Nat.sub_self]; rfl
theorem set_d {a b : List PM} {p p' : PM} : (a ++ p :: b).set a.length p' = a ++ p' :: b := by simp [List.set_append]
theorem w64 (n : Int) (h : -9223372036854775808 ≤ n ∧ n ≤ 9223372036854775807) : wrap64 n = n := by unfold wrap64; omega
theorem still_below (w : World) (n : Nat) : Below w.heap.size w (w.drewN n) := ⟨rfl, rfl, rfl, Nat.le_refl _, fun _ _ => rfl⟩
theorem sum_snoc {l : List Nat} {k x : Nat} (h : l[k]? = some x) : (l.take (k + 1)).sum = (l.take k).sum + x := by
  obtain ⟨hk, rfl⟩ := List.getElem?_eq_some_iff.1 h
  rw [List.take_succ_eq_append_getElem hk, List.sum_append]
  simp
theorem sum_le (l : List Nat) (k : Nat) : (l.take k).sum ≤ l.sum := by
  have := congrArg List.sum (List.take_append_drop k l)
  rw [List.sum_append] at this
  omega
set_option maxHeartbeats 16000000 in
theorem walk (l : List PX) (A : Option Addr) (n c : Nat) (r a b : Nat) (x0 x1 y0 y1 v : Int) (w : World) (hn : l.length = n) (hP : Pgs w w.heap.size A l) (ht : TuOk ⟨r, a, b, x0, x1, y0, y1, v⟩) :
    Calls Try.prog 6 #[.slice A n c, TV r a b x0 x1 y0 y1 v] w fun e w' => e = .returned (.bool true) ∧ Below w.heap.size w w' := by
  have HW := Lib.hid wakes_any
  have HSH := Lib.hid (fun (W : World) (hb : Below w.heap.size w W) => short_any l A n c W hn ((hP.below hb).more hb.size))
  have HT := Lib.hid ht
  clear hn hP ht
  generalize l.map pmOf = ms at HSH
  go_enter Try.func6, Try.ntmps6
  go_upto_region 1 with fail
  have RT0 := Lib.hid (row_last w (w.heap.size) 30 [.int .u32 r, .int .u64 a, .int .u64 b, .int .i64 x0, .int .i64 x1, .int .i64 y0, .int .i64 y1, .int .i64 v] (by simp))
  have B0 := Lib.hid ((Below.refl w.heap.size w).alloc (Nat.le_refl _) (.cells #[.int .u32 r, .int .u64 a, .int .u64 b, .int .i64 x0, .int .i64 x1, .int .i64 y0, .int .i64 y1, .int .i64 v] 30))
  obtain ⟨gt, hgt⟩ : ∃ g, g = w.heap.size := ⟨_, rfl⟩
  generalize (w.alloc (.cells #[.int .u32 r, .int .u64 a, .int .u64 b, .int .i64 x0, .int .i64 x1, .int .i64 y0, .int .i64 y1, .int .i64 v] 30)) = w0 at RT0 B0 ⊢
  rw [← hgt] at RT0 ⊢
  clear hgt
  go_wp2_with fail
  refine (HW.out _).mono ?_
  rintro e w1 ⟨rfl, hb⟩
  have B1 := Lib.hid (B0.out.trans (hb.mono B0.out.size))
  have RT1 := Lib.hid (RT0.out.below hb RT0.out.lt)
  clear hb HW B0 RT0
  go_wp2_with fail
  refine (HSH.out _ B1.out).mono ?_
  rintro e w2 ⟨A5, c5, xs, rfl, hps, hmap, hb⟩
  have B2 := Lib.hid (B1.out.trans (hb.mono B1.out.size))
  have RT2 := Lib.hid (RT1.out.below hb RT1.out.lt)
  have hlx : xs.length ≤ 33 := by
    have := congrArg List.length hmap
    simp only [List.length_map, List.length_take] at this
    omega
  obtain ⟨m, hm⟩ : ∃ m, m = xs.length := ⟨_, rfl⟩
  obtain ⟨B5, hB5⟩ : ∃ B5, B5 = w1.heap.size := ⟨_, rfl⟩
  rw [← hB5] at hps
  have HB5 : Hid (w.heap.size ≤ B5) := Lib.hid (by rw [hB5]; exact B1.out.size)
  rw [← hm] at hps hlx ⊢
  have HPS := Lib.hid hps
  have HM := Lib.hid hm.symm
  have HLN := Lib.hid hps.lens
  clear hps hmap hb HSH B1 RT1 hm hB5
  obtain ⟨ns, hns⟩ : ∃ ns, ns = xs.map pmOf := ⟨_, rfl⟩
  have HNS := Lib.hid hns.symm
  have HNSL : Hid (ns.length = m) := Lib.hid (by rw [hns, List.length_map, HM.out])
  have HPL : Hid (∀ (W : World), Below w2.heap.size w2 W → Calls Try.prog 18 #[.slice A5 m c5] W fun e w' => e = .returned (.tuple #[.agg #[.int .i64 (placeV ns).1, .int .i64 (placeV ns).2.1], .int .i64 (placeV ns).2.2]) ∧ Below W.heap.size W w') := Lib.hid (fun W hb => by have := place_any xs A5 m c5 W HM.out (by omega) ((HPS.out.below hb).pgs HM.out) HLN.out; rw [← hns] at this; exact this)
  have HRM : Hid (∀ (W : World), Below w2.heap.size w2 W → Calls Try.prog 19 #[.slice A5 m c5] W (RoomX W (itE ns) m (roomM ns))) := Lib.hid (fun W hb => by have := room_any xs A5 m c5 W HM.out (by omega) ((HPS.out.below hb).pgs HM.out) HLN.out; rw [← hns] at this; exact this.mono fun e w' h => room_x h HNSL.out)
  have HIT := Lib.hid (items_any xs A5 m c5 w2 HM.out (by omega) (HPS.out.pgs HM.out) HLN.out)
  rw [← hns] at HIT
  unfold ItR at HIT
  have HPJ : Hid (PJ w2 B5 (.slice A5 m c5) ns) := Lib.hid ⟨xs, HPS.out, HNS.out⟩
  clear hns HPS HM HLN HNS
  obtain ⟨L, hL⟩ : ∃ L, L = itL ns := ⟨_, rfl⟩
  obtain ⟨E, hE⟩ : ∃ E, E = itE ns := ⟨_, rfl⟩
  have HL := Lib.hid hL
  have HE := Lib.hid hE
  have HLL : Hid (L.length ≤ 132) := Lib.hid (by rw [hL]; have := itL_len ns; rw [HNSL.out] at this; omega)
  rw [← hL, ← hE] at HIT
  rw [← hE] at HRM
  clear hL hE
  go_wp2_with fail
  refine HIT.out.mono ?_
  rintro e w3 ⟨A6, c6, rfl, ho, hb⟩
  have B3 := Lib.hid (B2.out.trans (hb.mono B2.out.size))
  have D3 := Lib.hid hb
  have RT3 := Lib.hid (RT2.out.below hb RT2.out.lt)
  have HPJ3 := Lib.hid (HPJ.out.below hb)
  obtain ⟨nl, hnl⟩ : ∃ nl, nl = L.length := ⟨_, rfl⟩
  rw [← hnl]
  have ho2 := ho
  rw [← hnl] at ho2
  have HO := Lib.hid ho2
  have HNL := Lib.hid hnl.symm
  have hnl1 : nl ≤ 132 := by rw [hnl]; exact HLL.out
  clear ho ho2 hb hnl HIT B2 RT2 HPJ HLL
  by_cases he : E = 0
  case neg =>
    have he2 : (E != 0) = true := by simp [he]
    obtain rfl : nl = 0 := by rw [← HNL.out, HL.out]; unfold itL; rw [if_neg (by rw [← HE.out]; exact he)]; rfl
    clear he HO HL HE HNL HPL HRM
    go_wp2
    go_ret
    exact ⟨rfl, B3.out⟩
  subst he
  have hI : itE ns = 0 := HE.out.symm
  have HSL : Hid ((roomM ns).sum + nl = 4 * m) := Lib.hid (by
    have := sum_len ns
    rw [HNSL.out] at this
    rw [← HNL.out, HL.out]
    unfold itL
    rw [if_pos hI]
    exact this)
  have HPV : Hid (placeV ns = (match placeM ns with | some q => (q.1, q.2, 0) | none => (0, 0, 6))) := Lib.hid (by unfold placeV; rw [if_pos hI]; cases placeM ns <;> rfl)
  have HPN := Lib.hid (place_none ns)
  have HI0 := Lib.hid hI
  clear hI HE
  rcases hk2 : okT r a b x0 x1 y0 y1 with _ | _
  · have HEN := Lib.hid (fun w => Encode_no r a b x0 x1 y0 y1 v w hk2)
    clear hk2 HT HO HPL HRM HPV HPN HSL HI0
    have q0 := RT3.out.cell 0
    have q1 := RT3.out.cell 1
    have q2 := RT3.out.cell 2
    have q3 := RT3.out.cell 3
    have q4 := RT3.out.cell 4
    have q5 := RT3.out.cell 5
    have q6 := RT3.out.cell 6
    have q7 := RT3.out.cell 7
    simp only [List.getElem?_cons_zero, List.getElem?_cons_succ] at q0 q1 q2 q3 q4 q5 q6 q7
    go_wp2_with fail
    refine (HEN.out _).mono ?_
    rintro e w4 ⟨rfl, hb⟩
    have B4 := Lib.hid (B3.out.trans (hb.mono B3.out.size))
    clear hb HEN q0 q1 q2 q3 q4 q5 q6 q7 RT3 B3
    go_wp2
    go_ret
    exact ⟨rfl, B4.out⟩
  have hr4 := HT.out.r
  dsimp only at hr4
  have HEN := Lib.hid (fun w => Encode_ok r a b x0 x1 y0 y1 v w hk2 hr4)
  obtain ⟨bs, hbs⟩ : ∃ bs, bs = tb r a b x0 x1 y0 y1 v := ⟨_, rfl⟩
  have hdb : decM (tb r a b x0 x1 y0 y1 v) = some ⟨r, a, b, x0, x1, y0, y1, v⟩ := tb_back (t := ⟨r, a, b, x0, x1, y0, y1, v⟩) HT.out hk2
  rw [← hbs] at hdb
  have HBL : Hid (bs.length = 52) := Lib.hid (by rw [hbs]; exact tb_len _ _ _ _ _ _ _ _)
  have HDB := Lib.hid hdb
  clear hdb
  rw [← hbs] at HEN
  clear hbs hk2 hr4 HT
  have q0 := RT3.out.cell 0
  have q1 := RT3.out.cell 1
  have q2 := RT3.out.cell 2
  have q3 := RT3.out.cell 3
  have q4 := RT3.out.cell 4
  have q5 := RT3.out.cell 5
  have q6 := RT3.out.cell 6
  have q7 := RT3.out.cell 7
  simp only [List.getElem?_cons_zero, List.getElem?_cons_succ] at q0 q1 q2 q3 q4 q5 q6 q7
  go_wp2_with fail
  refine (HEN.out _).mono ?_
  rintro e w4 ⟨A8, c8, rfl, hsb, hb⟩
  clear q0 q1 q2 q3 q4 q5 q6 q7
  have B4 := Lib.hid (B3.out.trans (hb.mono B3.out.size))
  have D4 := Lib.hid (D3.out.trans (hb.mono D3.out.size))
  have RT4 := Lib.hid (RT3.out.below hb RT3.out.lt)
  have HPJ4 := Lib.hid (HPJ3.out.below hb)
  have HO4 := Lib.hid (ownS_below HO.out hb)
  have HSB4 := Lib.hid hsb
  clear hb hsb B3 D3 RT3 HPJ3 HO HEN
  obtain ⟨⟨pa, pb, pe⟩, hv⟩ : ∃ V, V = placeV ns := ⟨_, rfl⟩
  rw [← hv] at HPV HPL
  clear hv
  dsimp only at HPL
  go_wp2_with fail
  refine (HPL.out _ D4.out).mono ?_
  rintro e w5 ⟨rfl, hb⟩
  go_upto_region 11 with fail
  have hba : Below w5.heap.size w5 (w5.alloc (.cells #[.int .i64 pa, .int .i64 pb] 49)) := (Below.refl _ _).alloc (Nat.le_refl _) _
  have hb6 := hb.trans (hba.mono hb.size)
  have RS6 : Hid (Row (w5.alloc (.cells #[.int .i64 pa, .int .i64 pb] 49)) w5.heap.size 49 [.int .i64 pa, .int .i64 pb]) := Lib.hid (Row.new _ _ _)
  obtain ⟨gs, hgs⟩ : ∃ g, g = w5.heap.size := ⟨_, rfl⟩
  rw [← hgs] at RS6 ⊢
  generalize w5.alloc (.cells #[.int .i64 pa, .int .i64 pb] 49) = w6 at hba hb6 RS6 ⊢
  have B6 := Lib.hid (B4.out.trans (hb6.mono B4.out.size))
  have D6 := Lib.hid (D4.out.trans (hb6.mono D4.out.size))
  have RT6 := Lib.hid (RT4.out.below hb6 RT4.out.lt)
  have HPJ6 := Lib.hid (HPJ4.out.below hb6)
  have HO6 := Lib.hid (ownS_below HO4.out hb6)
  have HSB6 := Lib.hid ((HSB4.out.below hb6).more hb6.size)
  clear hb hba hb6 hgs B4 D4 RT4 HPJ4 HO4 HSB4 HPL
  go_wp2_with fail
  refine (HRM.out _ D6.out).mono ?_
  rintro e w7 ⟨RA, rn, rfl, -, HR0, hb⟩
  obtain ⟨h1, gr, h2, -, hrow⟩ := HR0.out rfl
  subst h2
  obtain rfl : m = rn := h1.symm
  have HRW := Lib.hid hrow
  have B7 := Lib.hid (B6.out.trans (hb.mono B6.out.size))
  have RS7 := Lib.hid (RS6.out.below hb RS6.out.lt)
  have RT7 := Lib.hid (RT6.out.below hb RT6.out.lt)
  have HPJ7 := Lib.hid (HPJ6.out.below hb)
  have HO7 := Lib.hid (ownS_below HO6.out hb)
  have HSB7 := Lib.hid ((HSB6.out.below hb).more hb.size)
  clear hb h1 hrow B6 D6 RS6 RT6 HPJ6 HO6 HSB6 HRM HR0
  have hmm : ((m : Int) != (m : Int)) = false := by simp
  have HRL : Hid ((roomM ns).length = m) := Lib.hid (by simp [roomM, HNSL.out])
  go_wp2_with fail
  clear hmm
  have HS0 : Hid (((roomM ns).take 0).sum = 0) := Lib.hid rfl
  have BE : Hid (Below w7.heap.size w7 w7) := Lib.hid (Below.refl _ _)
  go_loopw [12, 62] (fun t i wr => ∃ (k S : Nat), k ≤ m ∧ i = .int .i64 (k : Int) ∧ t = .int .i64 (S : Int) ∧ Hid (((roomM ns).take k).sum = S) ∧ Hid (Below w7.heap.size w7 wr)) (fun _ i _ => m - (intOf i).toNat)
  case atStart => exact ⟨0, 0, by omega, rfl, rfl, HS0, BE⟩
  case round =>
    obtain ⟨k, S, hk, rfl, rfl, HS, HB⟩ := hrel
    clear HS0 BE
    by_cases hlt : k < m
    case pos =>
      have h1 : (k : Int) < (m : Int) := by omega
      obtain ⟨x, hx⟩ : ∃ x, (roomM ns)[k]? = some x := ⟨_, List.getElem?_eq_getElem (by rw [HRL.out]; exact hlt)⟩
      have c0 := (HRW.out.below HB.out HRW.out.lt).cell k
      rw [ivals_at (roomM ns) k x hx] at c0
      have hs := sum_snoc hx
      have hle := sum_le (roomM ns) (k + 1)
      rw [hs, HS.out] at hle
      have hsl := HSL.out
      have hsm : S + x ≤ 132 := by omega
      have HSN : Hid (((roomM ns).take (k + 1)).sum = S + x) := Lib.hid (by rw [hs, HS.out])
      clear hs hle hsl hx HS
      go_wp2_with fail
      go_roundw
      case rel => exact ⟨k + 1, S + x, by omega, by go_num, by go_num, HSN, HB⟩
      case measure => simp [intOf]; omega
    have h1 : ¬ (k : Int) < (m : Int) := by omega
    have hS : (roomM ns).sum = S := by have := HS.out; rwa [List.take_of_length_le (by rw [HRL.out]; omega)] at this
    have hSL : S + nl = 4 * m := by rw [← hS]; exact HSL.out
    have HPN2 := Lib.hid HPN.out
    rw [hS] at HPN2
    have B8 := Lib.hid (B7.out.trans (HB.out.mono B7.out.size))
    have RS8 := Lib.hid (RS7.out.below HB.out RS7.out.lt)
    have RT8 := Lib.hid (RT7.out.below HB.out RT7.out.lt)
    have HPJ8 := Lib.hid (HPJ7.out.below HB.out)
    have HO8 := Lib.hid (ownS_below HO7.out HB.out)
    have HSB8 := Lib.hid ((HSB7.out.below HB.out).more HB.out.size)
    clear hS HS HB HRW HRL HSL HPN RS7 RT7 HPJ7 HO7 HSB7
    rcases hpm : placeM ns with _ | q
    · have hS0 : S = 0 := HPN2.out.1 hpm
      rw [hpm] at HPV
      obtain ⟨rfl, rfl, rfl⟩ : pa = 0 ∧ pb = 0 ∧ pe = 6 := by have := HPV.out; simpa using this
      subst hS0
      have hne : ((nl : Int) != 4 * (m : Int)) = false := by simp; omega
      have hnw : wrap64 (nl : Int) = (nl : Int) := w64 _ (by omega)
      have hmw : wrap64 (4 * (m : Int)) = 4 * (m : Int) := w64 _ (by omega)
      clear HPV HPN2 hpm HPJ8 HO8 HSB8 RS8 RT8
      go_wp2
      go_ret
      exact ⟨rfl, B8.out⟩
    have hS0 : ¬ S = 0 := fun e => by rw [HPN2.out.2 e] at hpm; cases hpm
    obtain ⟨La, p, Lb, k0, hns, hq, hk4, hemp⟩ := place_some hpm
    rw [hpm] at HPV
    subst hq
    obtain ⟨rfl, rfl, rfl⟩ : p.num = pa ∧ (k0 : Int) = pb ∧ pe = 0 := by have := HPV.out; simp only [Prod.mk.injEq] at this; exact ⟨this.1.symm, this.2.1.symm, this.2.2⟩
    clear HPV HPN2 hpm
    have hI := HI0.out
    rw [hns] at hI
    obtain ⟨hI2, L1, L2, e1, e2, e3⟩ := put_any (bs := bs) hI hk4 hemp HBL.out HDB.out
    have hok := rise_ok _ _ (itE_may hI) p (by simp)
    rw [okN_iff] at hok
    have HOKP := Lib.hid hok
    have HLE : Hid (L = L1 ++ L2) := Lib.hid (by rw [HL.out, hns]; exact e1)
    obtain ⟨d2, hd2⟩ : ∃ d, d = La.length := ⟨_, rfl⟩
    obtain ⟨ns2, hns2⟩ : ∃ x, x = La ++ setP p k0 bs :: Lb := ⟨_, rfl⟩
    have HNI : Hid (∀ (i : Nat) (q : PM), (if i ≤ d2 then ns else ns2)[i]? = some q → i ≠ d2 → q.num ≠ p.num) := Lib.hid (fun i q hq hi => by
      have h2 : (if i ≤ d2 then ns else ns2)[i]? = (La ++ p :: Lb)[i]? := by
        split
        · rw [hns]
        · rw [hns2]; exact set_ne (by rw [← hd2]; exact hi)
      rw [h2] at hq
      exact nums_ne hI hq (by rw [← hd2]; exact hi))
    have HND : Hid (ns[d2]? = some p) := Lib.hid (by rw [hns, hd2]; exact at_d)
    have HNSET : Hid (ns.set d2 (setP p k0 bs) = ns2) := Lib.hid (by rw [hns, hns2, hd2]; exact set_d)
    have HNL2 : Hid (ns2.length = m) := Lib.hid (by rw [hns2, ← HNSL.out, hns]; simp)
    have hd2m : d2 < m := by rw [hd2, ← HNSL.out, hns]; simp
    have HI2 : Hid (itE ns2 = 0 ∧ itL ns2 = L1 ++ ⟨p.num, k0, ⟨r, a, b, x0, x1, y0, y1, v⟩, 0⟩ :: L2) := Lib.hid (by rw [hns2]; exact ⟨hI2, e2⟩)
    have HE3 := Lib.hid e3
    have HEMP := Lib.hid hemp
    clear hns hI hI2 e1 e2 e3 hd2 hns2 hok hemp HL HI0 HDB
    have hne : ((S : Int) + (nl : Int) != 4 * (m : Int)) = false := by simp; omega
    have hsw : wrap64 ((S : Int) + (nl : Int)) = (S : Int) + (nl : Int) := w64 _ (by omega)
    have hmw : wrap64 (4 * (m : Int)) = 4 * (m : Int) := w64 _ (by omega)
    have hS0i : ((S : Int) == 0) = false := by simp; omega
    go_wp2_with fail
    clear hne hsw hmw hS0i
    have HPJ9 : Hid (PJ wr B5 (.slice A5 m c5) (if 0 ≤ d2 then ns else ns2)) := Lib.hid (by rw [if_pos (Nat.zero_le _)]; exact HPJ8.out)
    have HSB9 : Hid (0 ≤ d2 → Sl wr wr.heap.size A8 52 c8 bs) := Lib.hid (fun _ => HSB8.out)
    go_loopw [7, 91] (fun e i wr => ∃ k : Nat, k ≤ m ∧ i = .int .i64 (k : Int) ∧ e = .int .i64 0 ∧ Hid (PJ wr B5 (.slice A5 m c5) (if k ≤ d2 then ns else ns2)) ∧ Hid (OwnI wr w2.heap.size (.slice A6 nl c6) L) ∧ Hid (Row wr gs 49 [.int .i64 p.num, .int .i64 (k0 : Int)]) ∧ Hid (Row wr gt 30 [.int .u32 r, .int .u64 a, .int .u64 b, .int .i64 x0, .int .i64 x1, .int .i64 y0, .int .i64 y1, .int .i64 v]) ∧ Hid (Below w.heap.size w wr) ∧ Hid (k ≤ d2 → Sl wr wr.heap.size A8 52 c8 bs)) (fun _ i _ => m - (intOf i).toNat)
    case atStart => exact ⟨0, by omega, rfl, rfl, HPJ9, HO8, RS8, RT8, B8, HSB9⟩
    case round =>
      obtain ⟨k, hk, rfl, rfl, HPJk, HOk, RSk, RTk, Bk, HSBk⟩ := hrel
      clear HPJ9 HPJ8 HO8 RS8 RT8 B8 HSB9 HSB8
      by_cases hlt : k < m
      case neg =>
        have h1 : ¬ (k : Int) < (m : Int) := by omega
        have HPJF := HPJk
        rw [if_neg (by omega)] at HPJF
        obtain ⟨ys, hys, hmap⟩ := HPJF.out
        have hyl : ys.length = m := by
          have := congrArg List.length hmap
          rw [List.length_map] at this
          rw [this]
          exact HNL2.out
        have hit := items_any ys A5 m c5 wr hyl (by omega) (hys.pgs hyl) hys.lens
        rw [hmap] at hit
        unfold ItR at hit
        obtain ⟨N, hN⟩ : ∃ N, N = itL ns2 := ⟨_, rfl⟩
        rw [← hN, HI2.out.1] at hit
        have HIT2 := Lib.hid hit
        have HNE : Hid (N = L1 ++ ⟨p.num, k0, ⟨r, a, b, x0, x1, y0, y1, v⟩, 0⟩ :: L2) := Lib.hid (by rw [hN]; exact HI2.out.2)
        obtain ⟨nn, hnn⟩ : ∃ n, n = N.length := ⟨_, rfl⟩
        rw [← hnn] at hit
        have HNN := Lib.hid hnn.symm
        have hn1 : nn = nl + 1 := by rw [hnn, HNE.out, ← HNL.out, HLE.out]; simp; omega
        obtain ⟨d, hd⟩ : ∃ d, d = L1.length := ⟨_, rfl⟩
        have hdl : d ≤ nl := by rw [hd, ← HNL.out, HLE.out]; simp
        have HND3 : Hid (N[d]? = some ⟨p.num, k0, ⟨r, a, b, x0, x1, y0, y1, v⟩, 0⟩) := Lib.hid (by rw [HNE.out, hd]; exact ins_d)
        have HNI3 : Hid (∀ i, i ≠ d → N[i]? = L[if i ≤ d then i else i - 1]?) := Lib.hid (fun i hi => by rw [HNE.out, HLE.out, hd]; exact ins_at (by rw [← hd]; exact hi))
        have HNS3 : Hid (∀ x ∈ L, ¬ (x.pg = p.num ∧ x.k = k0)) := Lib.hid (fun x hx => HE3.out x (by rw [← HLE.out]; exact hx))
        clear hnn hd hmap hyl hys hN hit HPJF HPJk HNE HE3 HLE HI2 HNI HND HNSET HNL2 HSBk HOKP HEMP
        go_wp2_with fail
        refine HIT2.out.mono ?_
        rintro e wv ⟨A16, c16, rfl, ho, hb⟩
        rw [HNN.out] at ho ⊢
        have HON := Lib.hid ho
        have HOW := Lib.hid (ownS_below HOk.out hb)
        have RSv := Lib.hid (RSk.out.below hb RSk.out.lt)
        have RTv := Lib.hid (RTk.out.below hb RTk.out.lt)
        have Bv := Lib.hid (Bk.out.trans (hb.mono Bk.out.size))
        clear ho hb HOk RSk RTk Bk HIT2 hlt h1 hk
        have hnb : ((nn : Int) != (nl : Int) + 1) = false := by simp; omega
        have hnw : wrap64 ((nl : Int) + 1) = (nl : Int) + 1 := w64 _ (by omega)
        go_wp2_with fail
        clear hnb hnw
        have HK0 : Hid (0 = if 0 ≤ d then 0 else 0 - 1) := Lib.hid (by rw [if_pos (Nat.zero_le _)])
        have BV0 : Hid (Below wv.heap.size wv wv) := Lib.hid (Below.refl _ _)
        go_loopw [17, 136] (fun t i wr => ∃ (i0 k : Nat), i0 ≤ nn ∧ i = .int .i64 (i0 : Int) ∧ t = .int .i64 (k : Int) ∧ Hid (k = if i0 ≤ d then i0 else i0 - 1) ∧ Hid (Below wv.heap.size wv wr)) (fun _ i _ => nn - (intOf i).toNat)
        case atStart => exact ⟨0, 0, by omega, rfl, rfl, HK0, BV0⟩
        case round =>
          obtain ⟨i0, k, hi, rfl, rfl, HK, HB⟩ := hrel
          clear HK0 BV0
          by_cases hlt : i0 < nn
          case neg =>
            have h1 : ¬ (i0 : Int) < (nn : Int) := by omega
            obtain rfl : k = nl := by have := HK.out; rw [if_neg (by omega)] at this; omega
            have HBF : Hid (Below w.heap.size w wr) := Lib.hid (Bv.out.trans (HB.out.mono Bv.out.size))
            clear HK HB hlt
            go_wp2
            go_ret
            exact ⟨rfl, HBF.out⟩
          have h1 : (i0 : Int) < (nn : Int) := by omega
          by_cases hid : i0 = d
          case pos =>
            subst hid
            obtain ⟨g, rfl, -, hgl, -, hc⟩ := ownI_at HON.out HND3.out
            have hc := fun j u hj => (HB.out.cell (p := ⟨g, i0 * 10 + j, none⟩) hgl).trans (hc j u hj)
            have c0 : wr.cell? ⟨g, i0 * 10, none⟩ = some (.int .i64 p.num) := hc 0 _ rfl
            have c1 : wr.cell? ⟨g, i0 * 10 + 1, none⟩ = some (.int .i64 (k0 : Int)) := hc 1 _ rfl
            have c2 : wr.cell? ⟨g, i0 * 10 + 2, none⟩ = some (.int .u32 (r : Int)) := hc 2 _ rfl
            have c3 : wr.cell? ⟨g, i0 * 10 + 3, none⟩ = some (.int .u64 (a : Int)) := hc 3 _ rfl
            have c4 : wr.cell? ⟨g, i0 * 10 + 4, none⟩ = some (.int .u64 (b : Int)) := hc 4 _ rfl
            have c5 : wr.cell? ⟨g, i0 * 10 + 5, none⟩ = some (.int .i64 x0) := hc 5 _ rfl
            have c6 : wr.cell? ⟨g, i0 * 10 + 6, none⟩ = some (.int .i64 x1) := hc 6 _ rfl
            have c7 : wr.cell? ⟨g, i0 * 10 + 7, none⟩ = some (.int .i64 y0) := hc 7 _ rfl
            have c8 : wr.cell? ⟨g, i0 * 10 + 8, none⟩ = some (.int .i64 y1) := hc 8 _ rfl
            have c9 : wr.cell? ⟨g, i0 * 10 + 9, none⟩ = some (.int .i64 v) := hc 9 _ rfl
            have HKN : Hid (k = if i0 + 1 ≤ i0 then i0 + 1 else i0 + 1 - 1) := Lib.hid (by have := HK.out; rw [if_pos (Nat.le_refl _)] at this; rw [if_neg (by omega)]; omega)
            clear hc hgl HK
            go_upto_region 39 with fail
            clear c0 c1 c2 c3 c4 c5 c6 c7 c8 c9
            have RX := Lib.hid (row_last wr (wr.heap.size) 64 [.int .i64 p.num, .int .i64 (k0 : Int), .int .u32 (r : Int), .int .u64 (a : Int), .int .u64 (b : Int), .int .i64 x0, .int .i64 x1, .int .i64 y0, .int .i64 y1, .int .i64 v] (by simp))
            have BX := Lib.hid (HB.out.alloc HB.out.size (.cells #[.int .i64 p.num, .int .i64 (k0 : Int), .int .u32 (r : Int), .int .u64 (a : Int), .int .u64 (b : Int), .int .i64 x0, .int .i64 x1, .int .i64 y0, .int .i64 y1, .int .i64 v] 64))
            generalize (wr.alloc (.cells #[.int .i64 p.num, .int .i64 (k0 : Int), .int .u32 (r : Int), .int .u64 (a : Int), .int .u64 (b : Int), .int .i64 x0, .int .i64 x1, .int .i64 y0, .int .i64 y1, .int .i64 v] 64)) = wn at RX BX ⊢
            have RSn := Lib.hid (RSv.out.below BX.out RSv.out.lt)
            have RTn := Lib.hid (RTv.out.below BX.out RTv.out.lt)
            have q0 := RX.out.cell 0
            have q1 := RX.out.cell 1
            have q2 := RX.out.cell 2
            have q3 := RX.out.cell 3
            have q4 := RX.out.cell 4
            have q5 := RX.out.cell 5
            have q6 := RX.out.cell 6
            have q7 := RX.out.cell 7
            have q8 := RX.out.cell 8
            have q9 := RX.out.cell 9
            simp only [List.getElem?_cons_zero, List.getElem?_cons_succ] at q0 q1 q2 q3 q4 q5 q6 q7 q8 q9
            have s0 := RSn.out.cell 0
            have s1 := RSn.out.cell 1
            simp only [List.getElem?_cons_zero, List.getElem?_cons_succ] at s0 s1
            have t0 := RTn.out.cell 0
            have t1 := RTn.out.cell 1
            have t2 := RTn.out.cell 2
            have t3 := RTn.out.cell 3
            have t4 := RTn.out.cell 4
            have t5 := RTn.out.cell 5
            have t6 := RTn.out.cell 6
            have t7 := RTn.out.cell 7
            simp only [List.getElem?_cons_zero, List.getElem?_cons_succ] at t0 t1 t2 t3 t4 t5 t6 t7
            go_wp2_with fail
            go_roundw
            case rel => exact ⟨i0 + 1, k, by omega, by go_num, rfl, HKN, BX⟩
            case measure => simp [intOf]; omega
          obtain ⟨x, hx⟩ : ∃ x, N[i0]? = some x := ⟨_, List.getElem?_eq_getElem (by rw [HNN.out]; exact hlt)⟩
          have hxk := HNI3.out i0 hid
          rw [hx, ← HK.out] at hxk
          have hxk := hxk.symm
          have hkl : k < nl := by rw [← HNL.out]; exact (List.getElem?_eq_some_iff.1 hxk).1
          have hxs := HNS3.out x (List.mem_of_getElem? hxk)
          obtain ⟨g, rfl, -, hgl, -, hc⟩ := ownI_at HON.out hx
          obtain ⟨g6, rfl, -, hgl6, -, hd⟩ := ownI_at HOW.out hxk
          have hc := fun j u hj => (HB.out.cell (p := ⟨g, i0 * 10 + j, none⟩) hgl).trans (hc j u hj)
          have HDC : Hid (∀ (W : World), Below wv.heap.size wv W → ∀ j u, x.cells[j]? = some u → W.cell? ⟨g6, k * 10 + j, none⟩ = some u) := Lib.hid (fun W hb j u hj => (hb.cell (p := ⟨g6, k * 10 + j, none⟩) hgl6).trans (hd j u hj))
          obtain ⟨e1, e2, ⟨er, ea, eb, ex0, ex1, ey0, ey1, ev⟩, xe⟩ := x
          have c0 : wr.cell? ⟨g, i0 * 10, none⟩ = some (.int .i64 e1) := hc 0 _ rfl
          have c1 : wr.cell? ⟨g, i0 * 10 + 1, none⟩ = some (.int .i64 (e2 : Int)) := hc 1 _ rfl
          have c2 : wr.cell? ⟨g, i0 * 10 + 2, none⟩ = some (.int .u32 (er : Int)) := hc 2 _ rfl
          have c3 : wr.cell? ⟨g, i0 * 10 + 3, none⟩ = some (.int .u64 (ea : Int)) := hc 3 _ rfl
          have c4 : wr.cell? ⟨g, i0 * 10 + 4, none⟩ = some (.int .u64 (eb : Int)) := hc 4 _ rfl
          have c5 : wr.cell? ⟨g, i0 * 10 + 5, none⟩ = some (.int .i64 ex0) := hc 5 _ rfl
          have c6 : wr.cell? ⟨g, i0 * 10 + 6, none⟩ = some (.int .i64 ex1) := hc 6 _ rfl
          have c7 : wr.cell? ⟨g, i0 * 10 + 7, none⟩ = some (.int .i64 ey0) := hc 7 _ rfl
          have c8 : wr.cell? ⟨g, i0 * 10 + 8, none⟩ = some (.int .i64 ey1) := hc 8 _ rfl
          have c9 : wr.cell? ⟨g, i0 * 10 + 9, none⟩ = some (.int .i64 ev) := hc 9 _ rfl
          have HKN : Hid (k + 1 = if i0 + 1 ≤ d then i0 + 1 else i0 + 1 - 1) := Lib.hid (by
            have := HK.out
            split at this
            · rw [if_pos (by omega)]; omega
            · rw [if_neg (by omega)]; omega)
          clear hc hgl HK hd hgl6 hx hxk hid
          dsimp only at hxs
          go_upto_region 39 with fail
          clear c0 c1 c2 c3 c4 c5 c6 c7 c8 c9
          have RX := Lib.hid (row_last wr (wr.heap.size) 64 [.int .i64 e1, .int .i64 (e2 : Int), .int .u32 (er : Int), .int .u64 (ea : Int), .int .u64 (eb : Int), .int .i64 ex0, .int .i64 ex1, .int .i64 ey0, .int .i64 ey1, .int .i64 ev] (by simp))
          have BX := Lib.hid (HB.out.alloc HB.out.size (.cells #[.int .i64 e1, .int .i64 (e2 : Int), .int .u32 (er : Int), .int .u64 (ea : Int), .int .u64 (eb : Int), .int .i64 ex0, .int .i64 ex1, .int .i64 ey0, .int .i64 ey1, .int .i64 ev] 64))
          generalize (wr.alloc (.cells #[.int .i64 e1, .int .i64 (e2 : Int), .int .u32 (er : Int), .int .u64 (ea : Int), .int .u64 (eb : Int), .int .i64 ex0, .int .i64 ex1, .int .i64 ey0, .int .i64 ey1, .int .i64 ev] 64)) = wn at RX BX ⊢
          have RSn := Lib.hid (RSv.out.below BX.out RSv.out.lt)
          clear HB
          have q0 := RX.out.cell 0
          have q1 := RX.out.cell 1
          have q2 := RX.out.cell 2
          have q3 := RX.out.cell 3
          have q4 := RX.out.cell 4
          have q5 := RX.out.cell 5
          have q6 := RX.out.cell 6
          have q7 := RX.out.cell 7
          have q8 := RX.out.cell 8
          have q9 := RX.out.cell 9
          simp only [List.getElem?_cons_zero, List.getElem?_cons_succ] at q0 q1 q2 q3 q4 q5 q6 q7 q8 q9
          have s0 := RSn.out.cell 0
          have s1 := RSn.out.cell 1
          simp only [List.getElem?_cons_zero, List.getElem?_cons_succ] at s0 s1
          have hd := HDC.out wn BX.out
          have d0 : wn.cell? ⟨g6, k * 10, none⟩ = some (.int .i64 e1) := hd 0 _ rfl
          have d1 : wn.cell? ⟨g6, k * 10 + 1, none⟩ = some (.int .i64 (e2 : Int)) := hd 1 _ rfl
          have d2 : wn.cell? ⟨g6, k * 10 + 2, none⟩ = some (.int .u32 (er : Int)) := hd 2 _ rfl
          have d3 : wn.cell? ⟨g6, k * 10 + 3, none⟩ = some (.int .u64 (ea : Int)) := hd 3 _ rfl
          have d4 : wn.cell? ⟨g6, k * 10 + 4, none⟩ = some (.int .u64 (eb : Int)) := hd 4 _ rfl
          have d5 : wn.cell? ⟨g6, k * 10 + 5, none⟩ = some (.int .i64 ex0) := hd 5 _ rfl
          have d6 : wn.cell? ⟨g6, k * 10 + 6, none⟩ = some (.int .i64 ex1) := hd 6 _ rfl
          have d7 : wn.cell? ⟨g6, k * 10 + 7, none⟩ = some (.int .i64 ey0) := hd 7 _ rfl
          have d8 : wn.cell? ⟨g6, k * 10 + 8, none⟩ = some (.int .i64 ey1) := hd 8 _ rfl
          have d9 : wn.cell? ⟨g6, k * 10 + 9, none⟩ = some (.int .i64 ev) := hd 9 _ rfl
          clear hd HDC
          have hkb : ((k : Int) == (nl : Int)) = false := by simp; omega
          by_cases hs1 : e1 = p.num
          · have hs2 : ((e2 : Int) == (k0 : Int)) = false := by rw [beq_eq_false_iff_ne]; intro h; exact hxs ⟨hs1, by omega⟩
            have hs1b : (e1 == p.num) = true := by simpa using hs1
            clear hxs hs1
            go_wp2_with fail
            go_quiet (fail)
            go_wp2_with fail
            go_roundw
            case rel => exact ⟨i0 + 1, k + 1, by omega, by go_num, by go_num, HKN, Lib.hid (BX.out.trans ((still_below _ _).mono BX.out.size))⟩
            case measure => simp [intOf]; omega
          · have hs1b : (e1 == p.num) = false := by simpa using hs1
            clear hxs hs1
            go_wp2_with fail
            go_quiet (fail)
            go_wp2_with fail
            go_roundw
            case rel => exact ⟨i0 + 1, k + 1, by omega, by go_num, by go_num, HKN, Lib.hid (BX.out.trans ((still_below _ _).mono BX.out.size))⟩
            case measure => simp [intOf]; omega
      have h1 : (k : Int) < (m : Int) := by omega
      obtain ⟨ys, hys, hmap⟩ := HPJk.out
      have hyl : ys.length = m := by
        have := congrArg List.length hmap
        rw [List.length_map] at this
        rw [this]
        split
        · exact HNSL.out
        · exact HNL2.out
      obtain ⟨y, hy⟩ : ∃ y, ys[k]? = some y := ⟨_, List.getElem?_eq_getElem (by rw [hyl]; exact hlt)⟩
      have hpy : (if k ≤ d2 then ns else ns2)[k]? = some (pmOf y) := by rw [← hmap, List.getElem?_map, hy]; rfl
      obtain ⟨g, rfl, hgb, hgl, -, hc⟩ := ownPs_at hys hy
      by_cases hkd : k = d2
      case neg =>
        have hnn := HNI.out k _ hpy hkd
        have c0 : wr.cell? ⟨g, k * 6, none⟩ = some (.int .i64 y.num) := hc 0 _ rfl
        have hnb : (y.num == p.num) = false := by rw [beq_eq_false_iff_ne]; exact hnn
        have q0 := RSk.out.cell 0
        simp only [List.getElem?_cons_zero] at q0
        have HPN9 := HPJk
        rw [show (if k ≤ d2 then ns else ns2) = (if k + 1 ≤ d2 then ns else ns2) by
          by_cases h : k ≤ d2
          · rw [if_pos h, if_pos (by omega)]
          · rw [if_neg h, if_neg (by omega)]] at HPN9
        have HSN9 : Hid (k + 1 ≤ d2 → Sl wr wr.heap.size A8 52 c8 bs) := Lib.hid (fun h => HSBk.out (by omega))
        generalize y.num = yn at c0 hnb
        clear hnn hpy hc hy hmap hys hgb hgl hyl HPJk HSBk
        go_wp2_with fail
        go_quiet (fail)
        go_wp2_with fail
        go_roundw
        case rel => exact ⟨k + 1, by omega, by go_num, rfl, Lib.hid (HPN9.out.below (still_below _ _)), Lib.hid (ownS_below HOk.out (still_below _ _)), Lib.hid (RSk.out.below (still_below _ _) RSk.out.lt), Lib.hid (RTk.out.below (still_below _ _) RTk.out.lt), Lib.hid (Bk.out.trans ((still_below _ _).mono Bk.out.size)), Lib.hid (fun h => (HSN9.out h).below (still_below _ _))⟩
        case measure => simp [intOf]; omega
      subst hkd
      rw [if_pos (Nat.le_refl _), HND.out] at hpy
      obtain ⟨yn, yl, ysl, yst⟩ := y
      have hpe := Option.some.inj hpy
      obtain rfl : p.num = yn := by rw [hpe]; rfl
      obtain rfl : p.sl = ysl := by rw [hpe]; rfl
      have HYS := Lib.hid hys
      have HYM := Lib.hid hmap
      rw [if_pos (Nat.le_refl _)] at HYM
      have HYL := Lib.hid hyl
      have HYA : Hid (PO wr B5 p.sl yst) := Lib.hid (hys.po _ (List.mem_of_getElem? hy))
      have HSBD := Lib.hid (HSBk.out (Nat.le_refl _))
      have HNM : Hid (∀ j, j < 4 → yst.n j ≤ 52) := Lib.hid (fun j hj => by
        rw [← HYA.out.at_.lens j hj]
        exact HOKP.out.2 j hj)
      have HST : Hid (∀ W, Below wr.heap.size wr W → Calls Try.prog 28 #[.agg #[.int .i64 p.num, .int .u64 (yl : Int), .slice (yst.A 0) (yst.n 0) (yst.c 0), .slice (yst.A 1) (yst.n 1) (yst.c 1), .slice (yst.A 2) (yst.n 2) (yst.c 2), .slice (yst.A 3) (yst.n 3) (yst.c 3)], .int .i64 (k0 : Int), .slice A8 52 c8, .int .u64 1] W (SetX W p.num (upd p.sl k0 bs))) :=
        Lib.hid (fun W hb => set_x (lsn := yl) ((HYA.out.below hb).at_) HNM.out ((HSBD.out.below hb).more hb.size) hk4 HOKP.out.1)
      have HGL := Lib.hid hgl
      have HGB := Lib.hid hgb
      have c0 : wr.cell? ⟨g, k * 6, none⟩ = some (.int .i64 p.num) := hc 0 _ rfl
      have c1 : wr.cell? ⟨g, k * 6 + 1, none⟩ = some (.int .u64 (yl : Int)) := hc 1 _ rfl
      have c2 : wr.cell? ⟨g, k * 6 + 2, none⟩ = some (.slice (yst.A 0) (yst.n 0) (yst.c 0)) := hc 2 _ rfl
      have c3 : wr.cell? ⟨g, k * 6 + 3, none⟩ = some (.slice (yst.A 1) (yst.n 1) (yst.c 1)) := hc 3 _ rfl
      have c4 : wr.cell? ⟨g, k * 6 + 4, none⟩ = some (.slice (yst.A 2) (yst.n 2) (yst.c 2)) := hc 4 _ rfl
      have c5 : wr.cell? ⟨g, k * 6 + 5, none⟩ = some (.slice (yst.A 3) (yst.n 3) (yst.c 3)) := hc 5 _ rfl
      have q0 := RSk.out.cell 0
      simp only [List.getElem?_cons_zero] at q0
      clear hpe hpy hc hy hmap hys hyl hgl hgb HPJk HSBk HNI HND
      go_wp2_with fail
      go_quiet (fail)
      go_wp2_with fail
      have hD0 := (still_below wr nq).drew
      refine wp_region_held_drew (S := fun w' => Row w' gs 49 [.int .i64 p.num, .int .i64 (k0 : Int)]) (by kernel_rfl) (RSk.out.below hD0 RSk.out.lt) (fun hHeld => ?_)
      clear hHeld q0
      have HD := Lib.hid hD0
      clear hD0
      generalize (wr.drewN nq).drew = D at HD ⊢
      have RSD := Lib.hid (RSk.out.below HD.out RSk.out.lt)
      refine wpAnyH_take (i := 0) (oi := ⟨some 103, _, _, _, _, _⟩) (v := ?vp28_1) rfl (by kernel_rfl) (by kernel_rfl) (by kernel_rfl) (fun _ _ _ h => h) (Or.inl ⟨by rfl, ?yp28_1⟩) RSD.out ?rp28_1
      case yp28_1 =>
        rintro w' hSw
        go_simp
        try with_reducible rfl
      try simp only [Act.put, List.setIfInBounds_toArray, List.set_cons_zero, List.set_cons_succ]
      refine wpAnyH_take (i := 1) (oi := ⟨some 104, _, _, _, _, _⟩) (v := ?vp28_2) rfl (by kernel_rfl) (by kernel_rfl) (by kernel_rfl) (fun _ _ _ h => h) (Or.inl ⟨by rfl, ?yp28_2⟩) RSD.out ?rp28_2
      case yp28_2 =>
        rintro w' hSw
        go_simp
        try with_reducible rfl
      try simp only [Act.put, List.setIfInBounds_toArray, List.set_cons_zero, List.set_cons_succ]
      refine wpAnyH_take (i := 2) (oi := ⟨some 105, _, _, _, _, _⟩) (v := ?vp28_3) rfl (by kernel_rfl) (by kernel_rfl) (by kernel_rfl) (fun _ _ _ h => h) (Or.inl ⟨by rfl, ?yp28_3⟩) RSD.out ?rp28_3
      case yp28_3 =>
        rintro w' hSw
        go_simp
        try with_reducible rfl
      try simp only [Act.put, List.setIfInBounds_toArray, List.set_cons_zero, List.set_cons_succ]
      refine wpAnyH_take (i := 3) (oi := ⟨some 106, _, _, _, _, _⟩) (v := ?vp28_4) rfl (by kernel_rfl) (by kernel_rfl) (by kernel_rfl) (fun _ _ _ h => h) (Or.inl ⟨by rfl, ?yp28_4⟩) RSD.out ?rp28_4
      case yp28_4 =>
        rintro w' hSw
        go_simp
        try with_reducible rfl
      try simp only [Act.put, List.setIfInBounds_toArray, List.set_cons_zero, List.set_cons_succ]
      refine wpAnyH_take (i := 4) (oi := ⟨some 107, _, _, _, _, _⟩) (v := ?vp28_5) rfl (by kernel_rfl) (by kernel_rfl) (by kernel_rfl) (fun _ _ _ h => h) (Or.inl ⟨by rfl, ?yp28_5⟩) RSD.out ?rp28_5
      case yp28_5 =>
        rintro w' hSw
        go_simp
        try with_reducible rfl
      try simp only [Act.put, List.setIfInBounds_toArray, List.set_cons_zero, List.set_cons_succ]
      refine wpAnyH_take (i := 6) (oi := ⟨some 109, _, _, _, _, _⟩) (v := ?vp28_6) rfl (by kernel_rfl) (by kernel_rfl) (by kernel_rfl) (fun _ _ _ h => h) (Or.inl ⟨by rfl, ?yp28_6⟩) RSD.out ?rp28_6
      case yp28_6 =>
        rintro w' hSw
        go_simp
        try with_reducible rfl
      try simp only [Act.put, List.setIfInBounds_toArray, List.set_cons_zero, List.set_cons_succ]
      refine wpAnyH_take (i := 7) (oi := ⟨some 110, _, _, _, _, _⟩) (v := ?vp28_7) rfl (by kernel_rfl) (by kernel_rfl) (by kernel_rfl) (fun _ _ _ h => h) (Or.inl ⟨by rfl, ?yp28_7⟩) RSD.out ?rp28_7
      case yp28_7 =>
        rintro w' hSw
        have k1 := (show Row w' _ _ _ from hSw).cell 1
        simp only [List.getElem?_cons_zero, List.getElem?_cons_succ] at k1
        go_simp
        try with_reducible rfl
      try simp only [Act.put, List.setIfInBounds_toArray, List.set_cons_zero, List.set_cons_succ]
      refine wpAnyH_take (i := 8) (oi := ⟨some 111, _, _, _, _, _⟩) (v := ?vp28_8) rfl (by kernel_rfl) (by kernel_rfl) (by kernel_rfl) (fun _ _ _ h => h) (Or.inl ⟨by rfl, ?yp28_8⟩) RSD.out ?rp28_8
      case yp28_8 =>
        rintro w' hSw
        go_simp
        try with_reducible rfl
      try simp only [Act.put, List.setIfInBounds_toArray, List.set_cons_zero, List.set_cons_succ]
      refine wpAnyH_ready (rs := [5]) (by kernel_rfl) (by simp) ?_
      refine (AllReadyH.cons rfl (fun K hK => ?_) AllReadyH.nil)
      have k0 := (HD.out.cell (p := ⟨g, k * 6, none⟩) HGL.out).trans c0
      have k1 := (HD.out.cell (p := ⟨g, k * 6 + 1, none⟩) HGL.out).trans c1
      have k2 := (HD.out.cell (p := ⟨g, k * 6 + 2, none⟩) HGL.out).trans c2
      have k3 := (HD.out.cell (p := ⟨g, k * 6 + 3, none⟩) HGL.out).trans c3
      have k4 := (HD.out.cell (p := ⟨g, k * 6 + 4, none⟩) HGL.out).trans c4
      have k5 := (HD.out.cell (p := ⟨g, k * 6 + 5, none⟩) HGL.out).trans c5
      try rw [if_pos (by rfl)]
      go_simp
      clear k0 k1 k2 k3 k4 k5
      refine hK _ _ RSD.out (fun _ => ?_)
      clear hK K
      try simp only [Act.put, List.setIfInBounds_toArray, List.set_cons_zero, List.set_cons_succ]
      refine wpAnyH_ready (rs := [9]) (by kernel_rfl) (by simp) ?_
      refine (AllReadyH.cons rfl (fun K hK => ?_) AllReadyH.nil)
      go_simp
      refine (HST.out _ HD.out).mono ?_
      rintro e X1 ⟨s', rfl, hpo, hb⟩
      have HDX := Lib.hid (HD.out.trans (hb.mono HD.out.size))
      have HPO : Hid (PO X1 B5 (upd p.sl k0 bs) s') := Lib.hid (hpo.mono (Nat.le_trans (Nat.le_trans (Nat.le_of_lt (Nat.lt_of_le_of_lt HGB.out HGL.out)) (Nat.le_refl _)) HD.out.size))
      have RSX := Lib.hid (RSk.out.below HDX.out RSk.out.lt)
      clear hb hpo HD RSD
      refine hK _ _ RSX.out (fun _ => ?_)
      clear hK K
      try simp only [Act.put, List.setIfInBounds_toArray, List.set_cons_zero, List.set_cons_succ]
      refine wpAnyH_take (i := 10) (oi := ⟨some 102, _, _, _, _, _⟩) (v := ?vp28_11) rfl (by kernel_rfl) (by kernel_rfl) (by kernel_rfl) (fun _ _ _ h => h) (Or.inl ⟨by rfl, ?yp28_11⟩) RSX.out ?rp28_11
      case yp28_11 =>
        rintro w' hSw
        go_simp
        try with_reducible rfl
      try simp only [Act.put, List.setIfInBounds_toArray, List.set_cons_zero, List.set_cons_succ]
      refine wpAnyH_take (i := 11) (oi := ⟨some 113, _, _, _, _, _⟩) (v := ?vp28_12) rfl (by kernel_rfl) (by kernel_rfl) (by kernel_rfl) (fun _ _ _ h => h) (Or.inl ⟨by rfl, ?yp28_12⟩) RSX.out ?rp28_12
      case yp28_12 =>
        rintro w' hSw
        go_simp
        try with_reducible rfl
      try simp only [Act.put, List.setIfInBounds_toArray, List.set_cons_zero, List.set_cons_succ]
      refine wpAnyH_take (i := 12) (oi := ⟨some 114, _, _, _, _, _⟩) (v := ?vp28_13) rfl (by kernel_rfl) (by kernel_rfl) (by kernel_rfl) (fun _ _ _ h => h) (Or.inl ⟨by rfl, ?yp28_13⟩) RSX.out ?rp28_13
      case yp28_13 =>
        rintro w' hSw
        go_simp
        try with_reducible rfl
      try simp only [Act.put, List.setIfInBounds_toArray, List.set_cons_zero, List.set_cons_succ]
      refine wpAnyH_take (i := 13) (oi := ⟨some 115, _, _, _, _, _⟩) (v := ?vp28_14) rfl (by kernel_rfl) (by kernel_rfl) (by kernel_rfl) (fun _ _ _ h => h) (Or.inl ⟨by rfl, ?yp28_14⟩) RSX.out ?rp28_14
      case yp28_14 =>
        rintro w' hSw
        go_simp
        try with_reducible rfl
      try simp only [Act.put, List.setIfInBounds_toArray, List.set_cons_zero, List.set_cons_succ]
      refine wpAnyH_ready (rs := [14]) (by kernel_rfl) (by simp) ?_
      refine (AllReadyH.cons rfl (fun K hK => ?_) AllReadyH.nil)
      have k0 := (HDX.out.cell (p := ⟨g, k * 6, none⟩) HGL.out).trans c0
      have k1 := (HDX.out.cell (p := ⟨g, k * 6 + 1, none⟩) HGL.out).trans c1
      have k2 := (HDX.out.cell (p := ⟨g, k * 6 + 2, none⟩) HGL.out).trans c2
      have k3 := (HDX.out.cell (p := ⟨g, k * 6 + 3, none⟩) HGL.out).trans c3
      have k4 := (HDX.out.cell (p := ⟨g, k * 6 + 4, none⟩) HGL.out).trans c4
      have k5 := (HDX.out.cell (p := ⟨g, k * 6 + 5, none⟩) HGL.out).trans c5
      have HYX := Lib.hid (HYS.out.below HDX.out)
      have f0 : X1.frozen? ⟨g, k * 6, none⟩ = false := ownPs_frozen HYX.out _
      have f1 : X1.frozen? ⟨g, k * 6 + 1, none⟩ = false := ownPs_frozen HYX.out _
      have f2 : X1.frozen? ⟨g, k * 6 + 2, none⟩ = false := ownPs_frozen HYX.out _
      have f3 : X1.frozen? ⟨g, k * 6 + 3, none⟩ = false := ownPs_frozen HYX.out _
      have f4 : X1.frozen? ⟨g, k * 6 + 4, none⟩ = false := ownPs_frozen HYX.out _
      have f5 : X1.frozen? ⟨g, k * 6 + 5, none⟩ = false := ownPs_frozen HYX.out _
      try rw [if_pos (by rfl)]
      go_simp
      clear k0 k1 k2 k3 k4 k5 f0 f1 f2 f3 f4 f5 c0 c1 c2 c3 c4 c5
      change K _ (st6 X1 g k (.int .i64 p.num) (.int .u64 1) (.slice (s'.A 0) (s'.n 0) (s'.c 0)) (.slice (s'.A 1) (s'.n 1) (s'.c 1)) (.slice (s'.A 2) (s'.n 2) (s'.c 2)) (.slice (s'.A 3) (s'.n 3) (s'.c 3)))
      obtain ⟨hps', hgr⟩ := ownPs_store (i := k) HYX.out HYL.out hlt ⟨p.num, 1, upd p.sl k0 bs, s'⟩ (.int .i64 p.num) (.int .u64 1) (.slice (s'.A 0) (s'.n 0) (s'.c 0)) (.slice (s'.A 1) (s'.n 1) (s'.c 1)) (.slice (s'.A 2) (s'.n 2) (s'.c 2)) (.slice (s'.A 3) (s'.n 3) (s'.c 3)) rfl HPO.out (fun j hj => by
        show (upd p.sl k0 bs j).length ≤ 53
        by_cases h : j = k0
        · rw [h, upd_at, HBL.out]; omega
        · rw [upd_not _ _ h]; have := HOKP.out.2 j hj; exact Nat.le_trans this (by omega))
      have HPJN : Hid (PJ (st6 X1 g k (.int .i64 p.num) (.int .u64 1) (.slice (s'.A 0) (s'.n 0) (s'.c 0)) (.slice (s'.A 1) (s'.n 1) (s'.c 1)) (.slice (s'.A 2) (s'.n 2) (s'.c 2)) (.slice (s'.A 3) (s'.n 3) (s'.c 3))) B5 (.slice (some ⟨g, 0, none⟩) m c5) ns2) := Lib.hid ⟨_, hps', by rw [List.map_set, HYM.out]; exact HNSET.out⟩
      obtain ⟨⟨csg, hrg⟩, -, -⟩ := ownS_type (k := g) HYX.out.own rfl
      have HON : Hid (OwnI (st6 X1 g k (.int .i64 p.num) (.int .u64 1) (.slice (s'.A 0) (s'.n 0) (s'.c 0)) (.slice (s'.A 1) (s'.n 1) (s'.c 1)) (.slice (s'.A 2) (s'.n 2) (s'.c 2)) (.slice (s'.A 3) (s'.n 3) (s'.c 3))) w2.heap.size (.slice A6 nl c6) L) := Lib.hid (ownS_kept (ownS_below HOk.out HDX.out) (fun q hq => hgr.block q (ownS_type (ownS_below HOk.out HDX.out) hq).2.2 (fun e => by
        obtain ⟨⟨cs', h'⟩, -, -⟩ := ownS_type (ownS_below HOk.out HDX.out) hq
        rw [Option.some.inj e] at h'
        exact absurd (rowS_type h' hrg) (by decide))))
      have RSN := Lib.hid (RSX.out.grown hgr (fun e => by
        have h' := RSX.out
        rw [Option.some.inj e] at h'
        exact absurd (rowS_type h' hrg) (by decide)))
      have RTN := Lib.hid ((RTk.out.below HDX.out RTk.out.lt).grown hgr (fun e => by
        have h' := RTk.out.below HDX.out RTk.out.lt
        rw [Option.some.inj e] at h'
        exact absurd (rowS_type h' hrg) (by decide)))
      have BN := Lib.hid ((Bk.out.trans (HDX.out.mono Bk.out.size)).grown hgr (Bk.out.trans (HDX.out.mono Bk.out.size)).size (fun q hq => by
        obtain rfl := Option.some.inj hq
        exact Nat.le_trans HB5.out HGB.out))
      clear hps' hgr hrg HDX HYX HPO RSX
      generalize st6 X1 g k (.int .i64 p.num) (.int .u64 1) (.slice (s'.A 0) (s'.n 0) (s'.c 0)) (.slice (s'.A 1) (s'.n 1) (s'.c 1)) (.slice (s'.A 2) (s'.n 2) (s'.c 2)) (.slice (s'.A 3) (s'.n 3) (s'.c 3)) = X2 at HPJN HON RSN RTN BN ⊢
      refine hK _ _ RSN.out (fun _ => ?_)
      clear hK K
      try simp only [Act.put, List.setIfInBounds_toArray, List.set_cons_zero, List.set_cons_succ]
      refine wpAnyH_take (i := 15) (oi := ⟨some 7, _, _, _, _, _⟩) (v := ?vp28_16) rfl (by kernel_rfl) (by kernel_rfl) (by kernel_rfl) (fun _ _ _ h => h) (Or.inl ⟨by rfl, ?yp28_16⟩) RSN.out ?rp28_16
      case yp28_16 =>
        rintro w' hSw
        go_simp
        try with_reducible rfl
      try simp only [Act.put, List.setIfInBounds_toArray, List.set_cons_zero, List.set_cons_succ]
      refine wpAnyH_done (by kernel_rfl) ?_ _
      clear HYS HYM HYL HYA HSBD HNM HST HGL HGB HOk RSk RTk Bk
      go_wp2_with fail
      go_roundw
      case rel => exact ⟨k + 1, by omega, by go_num, rfl, Lib.hid (by rw [if_neg (by omega)]; exact HPJN.out), HON, RSN, RTN, BN, Lib.hid (fun h => absurd h (by omega))⟩
      case measure => simp [intOf]; omega


theorem resT_HeapPuts : Try.f6.resultTypes = #[4] := by kernel_rfl
set_option maxRecDepth 100000 in
theorem lifted_HeapPuts (os : Os) (started : os.Started) (H : Type) (enc : TypeId × Value → H) :
    ReturnsInHanded {} Try.checked os 6 .any (Rows.heapPutsSpec.pre6 enc Try.prog Try.f6 Rows.heapPutsRow.domain false) (Rows.heapPutsSpec.post enc Try.prog Try.f6 false true false false) := by
  refine Lift.law_lift (C := Try.checked) (s := Rows.heapPutsSpec) (tb := 4) own laidOut started (by kernel_rfl) Try.func6
    (ChangeSpec.witness6 (enc := enc) (C := Try.checked) false ⟨#[], #[.slice none 0 0, .agg #[.int .u32 0, .int .u64 0, .int .u64 0, .int .i64 0, .int .i64 0, .int .i64 0, .int .i64 0, .int .i64 0]], []⟩ 8 (by kernel_rfl) (by kernel_rfl) (by kernel_rfl) (by kernel_rfl))
    rfl resT_HeapPuts Try.underlying4 (by
      have hr : ∀ t ∈ ([44, 30] : List TypeId), Try.prog.readableRec t = true ∧ t < Try.prog.types.size := by
        intro t ht
        simp only [List.mem_cons, List.not_mem_nil, or_false] at ht
        rcases ht with rfl | rfl <;> exact ⟨by kernel_rfl, of_decide_eq_true (by kernel_rfl)⟩
      intro t ht
      exact hr t (by
        have ht' : t ∈ Try.f6.params.toList := ht
        rw [Try.params6] at ht'
        exact ht')) ?_
  intro W base args ds p hval0 hA0 hsz0
  have hval : ∀ (j : Nat) t v, Try.f6.params[j]? = some t → args[j]? = some v → Value.okWide Try.prog W .any base t v := hval0
  have hA : DataW.TrodAll enc Try.prog W 0 (fun _ => true) true Try.f6.params.toList args.toList ds p := hA0
  have hsz : (DataW.weightsEach Try.prog Try.f6.params.toList ds).all (· ≤ reachBytes) = true := hsz0
  clear hval0 hA0 hsz0
  rw [Try.params6] at hA hval hsz
  obtain ⟨v0, vs0, d0, ds0, p0, q0, hargs, rfl, rfl, h0, r0⟩ := trodAll_cons hA
  obtain ⟨v1, vs1, d1, ds1, p1, q1, rfl, rfl, rfl, h1, r1⟩ := trodAll_cons r0
  obtain ⟨rfl, rfl, rfl⟩ := trodAll_nil r1
  obtain rfl : args = #[v0, v1] := by cases args; simp_all
  obtain ⟨A0, n0, c0, os0, rfl, hl0, -, -, -, hm0, ho0⟩ := Pg.open_pages (hval 0 44 v0 rfl rfl) h0 (by rw [List.all_eq_true] at hsz ⊢; intro z hz; exact hsz z (DataW.weights_mem_each (j := 0) (t := 44) (d := d0) rfl rfl z hz))
  obtain ⟨t0, rfl, ht0⟩ := open_tup (hval 1 30 v1 rfl rfl) h1
  exact ⟨rfl, walk os0 A0 n0 c0 t0.r t0.a t0.b t0.x0 t0.x1 t0.y0 t0.y1 t0.v W hl0 ⟨hm0, fun x hx => (ho0 x hx).at_⟩ ht0⟩

theorem proved_HeapPuts : Rows.HeapPutsSaid :=
  OpenClaim.holds_of_wide 6 Try.f6 rfl rfl rfl rfl rfl rfl rfl ⟨rfl, rfl, rfl, rfl, rfl⟩ rfl rfl rfl rfl rfl (by kernel_rfl) Try.func6 (by kernel_rfl)
    (of_decide_eq_true (by kernel_rfl)) (by unfold Func.isWrapper; first | (rw [if_pos (by decide +kernel)]; kernel_rfl) | (rw [if_neg (by decide +kernel)]; exact ⟨rfl, rfl⟩))
    (fun os started H enc _ => lifted_HeapPuts os started H enc)
end Go.Proofs.Ytnojkoefdigcnaa.HeapPuts
