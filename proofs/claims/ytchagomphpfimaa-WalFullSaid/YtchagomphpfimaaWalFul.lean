/-
  WalFull: what has room is taken, and what has none is refused and changes nothing. No condition.
-/
import Derived.Test.YtchagomphpfimaaTw7
import Derived.Deep.Cut
import Derived.Deep.CutRange
namespace Go.Proofs.Ytchagomphpfimaa.WalFul
set_option maxRecDepth 100000
open Go.RowKit Go.Shelf Go.Proofs.Ytchagomphpfimaa.Wd Go.Proofs.Ytchagomphpfimaa.Dsk Go.Proofs.Ytchagomphpfimaa.Oct Go.Proofs.Ytchagomphpfimaa.Sum Go.Proofs.Ytchagomphpfimaa.Beq Go.Proofs.Ytchagomphpfimaa.Wl Go.ChangeShapes Go.WideShapes Go.ChangeAt

theorem own : ownKnob Try.prog.godebug = none := by kernel_rfl
theorem laidOut : laidOutB Try.prog = true := by kernel_rfl
/-- what a round holds of the log -/
structure FI (w : World) (B dg g area r t : Nat) (fs : List (List UInt8)) (W : World) : Prop where
  st : ∃ F G d, Dk W F dg d ∧ Log W G g dg area t fs false ∧ (∀ k, F k → B ≤ k) ∧ (∀ k, G k → B ≤ k ∧ k < W.heap.size) ∧ CalmS d (2 + 2 * area) ∧ d.pend = []
  tt : t ≤ r
  ne : fs ≠ []
  len : fs.length ≤ r + 1
  used : usedM fs ≤ area
  most : ∀ b ∈ fs, b.length ≤ 40000
  hb : Below w.heap.size w W
theorem FI.below {w W W' : World} {B dg g area r t : Nat} {fs : List (List UInt8)} (h : FI w B dg g area r t fs W) (hb : Below W.heap.size W W') : FI w B dg g area r t fs W' := by
  obtain ⟨⟨F, G, d, h1, h2, h3, h4, h5, h6⟩, q1, q2, q3, q4, q5, q6⟩ := h
  exact ⟨⟨F, G, d, h1.below hb, log_below h2 hb, h3, fun k hk => ⟨(h4 k hk).1, Nat.lt_of_lt_of_le (h4 k hk).2 hb.size⟩, h5, h6⟩, q1, q2, q3, q4, q5, q6.trans (hb.mono q6.size)⟩
theorem gd0 {fs : List (List UInt8)} {x : List UInt8} (h : fs ≠ []) : (fs ++ [x]).getD 0 [] = fs.getD 0 [] := by
  cases fs with
  | nil => exact absurd rfl h
  | cons a l => rfl
theorem dr1 {fs : List (List UInt8)} {x : List UInt8} (h : fs ≠ []) : (fs ++ [x]).drop 1 = fs.drop 1 ++ [x] := by
  cases fs with
  | nil => exact absurd rfl h
  | cons a l => rfl
theorem own_grown {W W' : World} {e t : TypeId} {b : Nat} {cs : List Value} {v : Value} {n : Nat} {xs : List Value} (h : W.ownsRow 0 e 1 v n xs) (hr : Row W b t cs) (hne : e ≠ t) (hg : W.grownBy W' (some b)) : W'.ownsRow 0 e 1 v n xs :=
  own_kept h fun k hk hlt => hg.block k hlt fun e' => by
    obtain ⟨cs', hr'⟩ := own_type h hk
    exact hne (row_type hr' (Option.some.inj e' ▸ hr))
theorem log_grown {W W' : World} {G : Nat → Prop} {g dg area t : Nat} {fs : List (List UInt8)} {br : Bool} {b : Nat} {cs : List Value} (h : Log W G g dg area t fs br) (hr : Row W b 60 cs) (hg : W.grownBy W' (some b)) : Log W' G g dg area t fs br := by
  obtain ⟨A, c, xs, h1, h2, h3, h4, h5⟩ := h
  exact ⟨A, c, xs, h1.grown hg (fun e => absurd (row_type h1 (Option.some.inj e ▸ hr)) (by decide)), own_grown h2 hr (by decide) hg, h3, h4, fun i hi => by
    obtain ⟨Ai, ni, ci, q1, q2, q3, q4⟩ := h5 i hi
    exact ⟨Ai, ni, ci, q1, own_grown q2 hr (by decide) hg, q3, q4⟩⟩
theorem stv_grown {W W' : World} {lo : Nat} {v : Value} {b : List UInt8} {fs : List (List UInt8)} {b' : Nat} {cs : List Value} (h : StV W lo v b fs) (hr : Row W b' 60 cs) (hg : W.grownBy W' (some b')) : StV W' lo v b fs := by
  obtain ⟨As, ns, cs', Al, cl, h1, h2, h3, h4, ⟨xs, q1, q2, q3⟩⟩ := h
  exact ⟨As, ns, cs', Al, cl, h1, own_grown h2 hr (by decide) hg, h3, h4, ⟨xs, own_grown q1 hr (by decide) hg, q2, fun i hi => by
    obtain ⟨Ai, ni, ci, s1, s2, s3, s4⟩ := q3 i hi
    exact ⟨Ai, ni, ci, s1, own_grown s2 hr (by decide) hg, s3, s4⟩⟩⟩
theorem FI.grown {w W W' : World} {B dg g area r t : Nat} {fs : List (List UInt8)} {b : Nat} {cs : List Value} (h : FI w B dg g area r t fs W) (hr : Row W b 60 cs) (hg : W.grownBy W' (some b)) (hb : w.heap.size ≤ b) : FI w B dg g area r t fs W' := by
  obtain ⟨⟨F, G, d, h1, h2, h3, h4, h5, h6⟩, q1, q2, q3, q4, q5, q6⟩ := h
  exact ⟨⟨F, G, d, h1.grown hr (by decide) (by decide) (by decide) hg, log_grown h2 hr hg, h3, fun k hk => ⟨(h4 k hk).1, Nat.lt_of_lt_of_le (h4 k hk).2 hg.size⟩, h5, h6⟩, q1, q2, q3, q4, q5, q6.grown hg q6.size (fun q e => by have := Option.some.inj e; omega)⟩
/-- what stands when a round's op is done -/
structure TP (w : World) (B dg g area r b10 lo lf t : Nat) (fs : List (List UInt8)) (c : List Value) (W : World) : Prop where
  fi : FI w B dg g area (r + 1) t fs W
  lf : lf = area - usedM fs
  r10 : Row W b10 60 c
  sv : StV W lo (.agg c.toArray) (fs.getD 0 []) (fs.drop 1)
def TQ (w : World) (B dg g area r b10 lo : Nat) (t7 : Value) (W : World) : Prop := ∃ (lf t : Nat) (fs : List (List UInt8)) (As : Option Addr) (ns cs : Nat) (Al : Option Addr) (nl cl : Nat), t7 = .int .i64 (lf : Int) ∧ fs.length ≤ 50000 ∧ TP w B dg g area r b10 lo lf t fs (scs As ns cs Al nl cl) W
theorem kind0 : kindW 0 = 0 := by decide +kernel
theorem aft0B (a : Int) (x : UInt8) (b : List UInt8) : aftB ⟨0, a, x, none, 0, 0, []⟩ b = b := by
  unfold aftB
  rw [if_neg (by rw [show (⟨0, a, x, none, 0, 0, []⟩ : OM).k = 0 from rfl, kind0]; decide)]
theorem aft0L (k a : Int) (x : UInt8) (A : Option Addr) (n c : Nat) (l : List Bool) (L : List (List UInt8)) : aftL ⟨0, a, x, none, 0, 0, []⟩ L = L ++ [opB ⟨k, a, x, A, n, c, l⟩] := by
  unfold aftL
  rw [if_neg (by rw [show (⟨0, a, x, none, 0, 0, []⟩ : OM).k = 0 from rfl, kind0]; decide)]
  unfold opB
  dsimp only
theorem ap_in {t area us q lf : Nat} {fs : List (List UInt8)} {ob : List UInt8} (hus : usedM fs = us) (hq : sects ob.length = q) (hlf : lf = area - us) (hql : q ≤ lf) (h2 : us ≤ area) : 2 + t % 2 * area + usedM fs + sects ob.length ≤ 2 + 2 * area := by
  have ha2 := area_in (t := t) (area := area) trivial
  rw [hus, hq]
  omega
theorem ap_hc {d : DM} {t area us q lf : Nat} {fs : List (List UInt8)} {ob : List UInt8} (h : CalmS d (2 + 2 * area)) (hus : usedM fs = us) (hq : sects ob.length = q) (hlf : lf = area - us) (hql : q ≤ lf) (h2 : us ≤ area) :
    (layM (pairsM t fs.length ob) ((2 + t % 2 * area + usedM fs : Nat) : Int) d).2 = 0 ∧ CalmS (layM (pairsM t fs.length ob) ((2 + t % 2 * area + usedM fs : Nat) : Int) d).1 (2 + 2 * area) ∧ (layM (pairsM t fs.length ob) ((2 + t % 2 * area + usedM fs : Nat) : Int) d).1.pend = [] :=
  layM_calm (n := 2 + 2 * area) (Nat.lt_of_lt_of_le Nat.zero_lt_two (Nat.le_add_right 2 _)) ((2 + t % 2 * area + usedM fs : Nat) : Int) (pairsM t fs.length ob) d h (pairs_in (ap_in hus hq hlf hql h2))
theorem t_small {t r n : Nat} (h1 : t ≤ r) (h2 : r < n) (h3 : n ≤ 40) : t < 4294967296 := by omega
theorem room_ok {area us q lf : Nat} {fs : List (List UInt8)} {ob : List UInt8} (hus : usedM fs = us) (hq : sects ob.length = q) (hlf : lf = area - us) (hql : q ≤ lf) : sects ob.length ≤ area - usedM fs := by
  rw [hq, hus]
  omega
theorem used_ok {area us : Nat} {fs : List (List UInt8)} (hus : usedM fs = us) (h : us ≤ area) : usedM fs ≤ area := by rw [hus]; exact h
theorem mod20 (k : Int) : ∃ r : Nat, r < 20 ∧ (IntKind.u64.wrap k).tmod 20 = (r : Int) := by
  have h0 : 0 ≤ IntKind.u64.wrap k := by simp only [IntKind.wrap_u64]; omega
  refine ⟨((IntKind.u64.wrap k).tmod 20).toNat, ?_, ?_⟩ <;> (rw [Int.tmod_eq_emod_of_nonneg h0]; omega)
set_option maxHeartbeats 16000000 in
theorem walk (a0 : Int) (A1 : Option Addr) (n1 c1 : Nat) (os : List OM) (w : World) (hl1 : os.length = n1) (hlc1 : n1 ≤ c1) (hn1 : A1 = none → c1 = 0) (hm1 : c1 ≤ maxLen) (ho1 : Opl w w.heap.size A1 os) :
    Calls Try.prog 7 #[.int .i64 a0, .slice A1 n1 c1] w fun e w' => e = .returned (.bool true) ∧ Below w.heap.size w w' := by
  have mixed : Try.prog.follows .mixedOrders = true := by kernel_rfl
  obtain ⟨ra, hra, hmod⟩ := mod20 a0
  obtain ⟨area, har⟩ : ∃ area, area = 4 + ra := ⟨_, rfl⟩
  have hwr : IntKind.i64.wrap (ra : Int) = (ra : Int) := by rw [IntKind.wrap_i64]; omega
  have hwa : wrap64 (4 + (ra : Int)) = (area : Int) := by unfold wrap64; omega
  have h4 : 4 ≤ area := by omega
  have ha : area ≤ 23 := by omega
  have hw1 : wrap64 ((area : Int) - 1) = ((area - 1 : Nat) : Int) := by unfold wrap64; omega
  obtain ⟨n, hn⟩ : ∃ n, n = min n1 40 := ⟨_, rfl⟩
  have hn40 : n ≤ 40 := by omega
  have hnl : n ≤ os.length := by omega
  have HFW := Lib.hid (fun W => few_any A1 n1 c1 W hlc1 hn1 hm1)
  rw [← hn] at HFW
  have hnc : n ≤ c1 := by omega
  have HO := Lib.hid ho1
  have HNL := Lib.hid hnl
  clear ho1 hnl hn har hra
  go_enter Try.func7, Try.ntmps7
  go_wp2_with fail
  refine (wakes_any w).mono ?_
  rintro e w1 ⟨rfl, hb1⟩
  have HB1 := Lib.hid hb1
  clear hb1
  go_wp2_with fail
  refine (made_any area w1 h4 (by omega)).mono ?_
  rintro e w2 ⟨dg, g, F, G, rfl, hd, hlog, hF, hG, hb2⟩
  have hfc := form_calm (area := area) (by omega)
  have HB2 := Lib.hid (HB1.out.trans (hb2.mono HB1.out.size))
  have HI0 : Hid (FI w w1.heap.size dg g area 0 0 [[]] w2) := Lib.hid ⟨⟨F, G, _, hd, hlog, hF, hG, hfc.2.1, hfc.2.2⟩, Nat.le_refl _, by simp, by simp, by show sects 0 + 0 ≤ area; unfold sects; omega, fun b hb => by rw [List.mem_singleton.1 hb]; exact Nat.zero_le _, HB2.out⟩
  obtain ⟨A, c, xs, hrow, _⟩ := hlog
  have hlf := left_any g dg area 0 1 c (usedM [[]]) A false w2 hrow (by omega) (by show sects 0 + 0 ≤ area; unfold sects; omega)
  rw [show area - usedM [[]] = area - 1 from rfl] at hlf
  have HLF := Lib.hid hlf
  clear hd hF hG hb2 hfc hrow hlf
  go_wp2_with fail
  refine HLF.out.mono ?_
  rintro e w3 ⟨rfl, hw3⟩
  have hb3 : Below w2.heap.size w2 w3 := by rw [hw3]; exact (Below.refl _ _).drew
  have HI3 := Lib.hid (HI0.out.below hb3)
  clear hb3 hw3 HI0 HLF
  go_wp2_with fail
  refine (HFW.out w3).mono ?_
  rintro e wx ⟨rfl, rfl⟩
  have HL0 : Hid ((area : Int) - 1 = ((area - 1 : Nat) : Int) ∧ area - 1 = area - usedM [[]]) := Lib.hid ⟨by omega, rfl⟩
  go_wp2_with fail
  go_loopw [7, 35] (fun t7 t35 wr => ∃ (r t : Nat) (fs : List (List UInt8)) (lf : Nat), r ≤ n ∧ t35 = .int .i64 (r : Int) ∧ t7 = .int .i64 (lf : Int) ∧ Hid (lf = area - usedM fs) ∧ Hid (FI w w1.heap.size dg g area r t fs wr)) (fun _ t35 _ => n - (intOf t35).toNat)
  case atStart => exact ⟨0, 0, [[]], area - 1, by omega, rfl, by rw [HL0.out.1], HL0.out.2, HI3⟩
  case round =>
    obtain ⟨r, t, fs, lf, hr, rfl, rfl, HLF, HI⟩ := hrel
    clear HI3 HL0
    by_cases hlt : r < n
    case neg =>
      have h1 : ¬ (r : Int) < (n : Int) := by omega
      obtain ⟨⟨F, G, d, hd, ⟨A, c, xs, hrow, _⟩, _⟩, _⟩ := id HI.out
      have HBK := Lib.hid (broken_log g dg area t fs.length c (usedM fs) A false wr hrow)
      have HBE := Lib.hid HI.out.hb
      clear hd hrow
      go_wp2_with fail
      refine HBK.out.mono ?_
      rintro e wx ⟨rfl, rfl⟩
      go_wp2
      go_ret
      exact ⟨rfl, HBE.out⟩
    have h1 : (r : Int) < (n : Int) := by omega
    have hro : r < os.length := Nat.lt_of_lt_of_le hlt HNL.out
    obtain ⟨bo, oo, rfl, hbo, hat⟩ := HO.out (by omega)
    obtain ⟨o, ho⟩ : ∃ o, os[r] = o := ⟨_, rfl⟩
    have hat2 := hat r o (by rw [List.getElem?_eq_getElem hro, ho])
    obtain ⟨⟨F, G, d, hd, hlog, hF, hG, hcalm, hpend⟩, htt, hne, hlen, hused, hmost, hbw⟩ := HI.out
    have HOA : Hid (wr.rangeAt bo (oo + r * 4) o.cells) := Lib.hid (range_below hat2 hbw hbo)
    have HDK := Lib.hid hd
    have HLG := Lib.hid hlog
    have HFG : Hid ((∀ k, F k → w1.heap.size ≤ k ∧ k < wr.heap.size) ∧ ∀ k, G k → w1.heap.size ≤ k ∧ k < wr.heap.size) := Lib.hid ⟨fun k hk => ⟨hF k hk, hd.1.2 k hk⟩, hG⟩
    have HCL := Lib.hid (And.intro hcalm hpend)
    have HNE := Lib.hid hne
    have HMO := Lib.hid hmost
    have HBW := Lib.hid hbw
    have HB1S : Hid (w.heap.size ≤ w1.heap.size) := Lib.hid HB1.out.size
    obtain ⟨us, hus⟩ : ∃ us, usedM fs = us := ⟨_, rfl⟩
    have HUS := Lib.hid hus
    have hus2 : us ≤ area := by rw [← hus]; exact hused
    have hlf : lf = area - us := by rw [← hus]; exact HLF.out
    have HI4 : Hid ((Try.prog.info? 55).map (·.size) = some o.cells.length) := Lib.hid size55
    have HKD := Lib.hid (fun W => kind_any o W)
    have HBY := Lib.hid (fun W => bytes_any o W)
    have HAF := Lib.hid (fun lo v b L W hs hl hn => after_any lo v b L o W hs hl hn)
    have HM := Lib.hid (opB_len o)
    have HML : Hid ((opB o).length ≤ 400) := Lib.hid (by rw [opB_len]; have := (len_lt o.a).1; omega)
    obtain ⟨kd, hkd⟩ : ∃ kd, kindW o.k = kd := ⟨_, rfl⟩
    have hsame : ∀ q : Int, kindW q ≠ 1 → True := fun _ _ => trivial
    obtain ⟨ob, hob⟩ : ∃ ob, opB o = ob := ⟨_, rfl⟩
    have HAB : Hid (∀ b, aftB o b = if kd = 1 then ob else b) := Lib.hid fun b => by unfold aftB; rw [hkd, hob]
    have HAL : Hid (∀ L, aftL o L = if kd = 1 then [] else L ++ [ob]) := Lib.hid fun L => by unfold aftL; rw [hkd, hob]
    rw [hob] at HBY HML HM
    have HOB := Lib.hid hob
    clear hd hlog hF hG hcalm hpend hne hmost hbw hat hat2 HI ho hus hused hsame HLF hob hro hbo
    obtain ⟨k, a, x, Ak, nk, ck, lk⟩ := o
    unfold OM.val opv at HKD HBY HAF
    unfold OM.cells ocs at HOA HI4
    dsimp only at HKD HBY HAF HOA HI4 HM hkd HOB
    rw [hkd] at HKD
    have HKK := Lib.hid hkd
    clear hkd hnc
    have HLF := Lib.hid hlf
    clear hlf
    have hcc : (0 : Int) ≤ (r : Int) := by omega
    go_wp2_with (first
      | (with_reducible refine Wl.wpList_load_row (op := ⟨some 38, _, _, _, _, _⟩) ?_ 55 (.tmp 37) ?_ bo (oo + r * 4) ?_ [.int .i64 k, .int .i64 a, .int .u8 (x.toNat : Int), .slice Ak nk ck] _ HOA.out Try.underlying55 ?_ HI4.out ?_))
    all_goals try (first | rfl | (simp; done))
    have hr9 : Row (wr.alloc (.cells #[.int .i64 k, .int .i64 a, .int .u8 (x.toNat : Int), .slice Ak nk ck] 55)) wr.heap.size 55 [.int .i64 k, .int .i64 a, .int .u8 (x.toNat : Int), .slice Ak nk ck] := Row.new wr _ _
    have hb0 : Below wr.heap.size wr (wr.alloc (.cells #[.int .i64 k, .int .i64 a, .int .u8 (x.toNat : Int), .slice Ak nk ck] 55)) := (Below.refl _ _).alloc (Nat.le_refl _) _
    generalize wr.alloc (.cells #[.int .i64 k, .int .i64 a, .int .u8 (x.toNat : Int), .slice Ak nk ck] 55) = W0 at hr9 hb0 ⊢
    obtain ⟨b9, hb9⟩ : ∃ b9, wr.heap.size = b9 := ⟨_, rfl⟩
    have HB9 := Lib.hid hb9
    rw [hb9] at hr9 ⊢
    have R9 := Lib.hid hr9
    have HD0 := Lib.hid (HDK.out.below hb0)
    have HL0 := Lib.hid (log_below HLG.out hb0)
    have HW0 := Lib.hid (HBW.out.trans (hb0.mono HBW.out.size))
    have HS0 : Hid (b9 < W0.heap.size) := Lib.hid hr9.lt
    have HBX := Lib.hid hb0
    have HLN : Hid (fs.length ≤ 41) := Lib.hid (by omega)
    clear hb0 hr9 hb9 HOA HDK HLG HBW
    refine (told_any g dg area t fs false G W0 HL0.out (fun k hk => Nat.lt_of_lt_of_le (HFG.out.2 k hk).2 HBX.out.size) HNE.out (by have := HLN.out; omega)).mono ?_
    rintro e W1 ⟨v, rfl, hst, hb1⟩
    have HST := Lib.hid hst
    obtain ⟨As, ns, cs, Al, cl, hv, _⟩ := hst
    have hfl : (fs.drop 1).length = fs.length - 1 := List.length_drop
    obtain ⟨nl, hnl⟩ : ∃ nl, (fs.drop 1).length = nl := ⟨_, rfl⟩
    rw [hnl] at hv
    subst hv
    have R91 := Lib.hid (R9.out.below hb1 R9.out.lt)
    have HD1 := Lib.hid (HD0.out.below hb1)
    have HL1 := Lib.hid (log_below HL0.out hb1)
    have HW1 := Lib.hid (HW0.out.trans (hb1.mono HW0.out.size))
    have HS1 : Hid (b9 < W1.heap.size ∧ W0.heap.size ≤ W1.heap.size) := Lib.hid ⟨R91.out.lt, hb1.size⟩
    clear hb1 hfl hnl R9 HD0 HL0 HW0
    have HLS := Lib.hid fun (As : Option Addr) (ns cs : Nat) (Al : Option Addr) (nl cl : Nat) => (show (scs As ns cs Al nl cl).length = (scs none 0 0 none 0 0).length from rfl)
    have HI2 := Lib.hid fun (As : Option Addr) (ns cs : Nat) (Al : Option Addr) (nl cl : Nat) => (show (Try.prog.info? 60).map (·.size) = some (scs As ns cs Al nl cl).length from size60)
    go_wp2_with (first
      | (with_reducible refine Wl.wpList_store_whole (op := ⟨none, _, _, _, _, _⟩) ?_ 60 (.tmp 10) (.tmp 40) ?_ W1.heap.size (scs As ns cs Al nl cl) ?_ ?_ 60 (scs none 0 0 none 0 0) ?hrow (HLS.out _ _ _ _ _ _) (scs_one _ _ _ _ _ _) (HI2.out _ _ _ _ _ _) ?_))
    case hrow => exact Row.new W1 _ (scs none 0 0 none 0 0)
    all_goals try (first | rfl | (simp; done))
    intro W2 hr10 hg2
    have hb2 : Below W1.heap.size W1 W2 := ((Below.refl _ _).alloc (Nat.le_refl _) _).grown hg2 (by simp) (fun k hk => by cases hk; exact Nat.le_refl _)
    obtain ⟨b10, hb10⟩ : ∃ b10, W1.heap.size = b10 := ⟨_, rfl⟩
    have HB10 := Lib.hid hb10
    rw [hb10] at hr10
    have R10 := Lib.hid hr10
    have R92 := Lib.hid (R91.out.below hb2 R91.out.lt)
    have HD2 := Lib.hid (HD1.out.below hb2)
    have HL2 := Lib.hid (log_below HL1.out hb2)
    have HW2 := Lib.hid (HW1.out.trans (hb2.mono HW1.out.size))
    have HST2 := Lib.hid (HST.out.below hb2)
    have HS2 : Hid (b10 < W2.heap.size ∧ W1.heap.size ≤ W2.heap.size) := Lib.hid ⟨hr10.lt, hb2.size⟩
    have hb10' := hb10
    clear hr10 hg2 hb2 HST R91 HD1 HL1 HW1
    go_wp2_with (first
      | (with_reducible refine Wl.wpList_load_row (op := ⟨some 41, _, _, _, _, _⟩) ?_ 55 (.tmp 9) ?_ b9 0 ?_ [.int .i64 k, .int .i64 a, .int .u8 (x.toNat : Int), .slice Ak nk ck] _ (Row.all R92.out) Try.underlying55 ?_ HI4.out ?_))
    all_goals try (first | rfl | (simp; done))
    go_wp2_with fail
    clear hb10 hb10'
    refine (HBY.out W2).mono ?_
    rintro e W3 ⟨g3, rfl, hr3, hg3, hb3⟩
    have BYW3 : Hid (By W3 (some ⟨g3, 0, none⟩) ob.length ob.length ob) := Lib.hid (by_of_row hr3 (by have := HML.out; omega))
    have R9W3 := Lib.hid (R92.out.below hb3 R92.out.lt)
    have R10W3 := Lib.hid (R10.out.below hb3 R10.out.lt)
    have HWW3 := Lib.hid (HW2.out.trans (hb3.mono HW2.out.size))
    have HSTW3 := Lib.hid (HST2.out.below hb3)
    have SZW3 : Hid (b10 < W3.heap.size) := Lib.hid R10W3.out.lt
    have HDW3 := Lib.hid (HD2.out.below hb3)
    have HLW3 := Lib.hid (log_below HL2.out hb3)
    clear HD2 HL2
    clear R92 R10 HW2 HST2
    clear hr3 hg3 hb3
    have HSE := Lib.hid (fun W => sectors_any ob.length W (by have := HML.out; omega))
    obtain ⟨q, hq⟩ : ∃ q, sects ob.length = q := ⟨_, rfl⟩
    rw [hq] at HSE
    have HQ : Hid (sects ob.length = q ∧ q ≤ 9) := Lib.hid ⟨hq, by rw [← hq]; have := HML.out; unfold sects; omega⟩
    clear hq
    go_wp2_with fail
    refine (HSE.out W3).mono ?_
    rintro e wy ⟨rfl, rfl⟩
    go_wp2_with (first
      | (with_reducible refine Wl.wpList_load_row (op := ⟨some 45, _, _, _, _, _⟩) ?_ 55 (.tmp 9) ?_ b9 0 ?_ [.int .i64 k, .int .i64 a, .int .u8 (x.toNat : Int), .slice Ak nk ck] _ (Row.all R9W3.out) Try.underlying55 ?_ HI4.out ?_))
    all_goals try (first | rfl | (simp; done))
    go_wp2_with fail
    refine (HKD.out W3).mono ?_
    rintro e W4 ⟨rfl, hb4⟩
    have R9W4 := Lib.hid (R9W3.out.below hb4 R9W3.out.lt)
    have R10W4 := Lib.hid (R10W3.out.below hb4 R10W3.out.lt)
    have HWW4 := Lib.hid (HWW3.out.trans (hb4.mono HWW3.out.size))
    have HSTW4 := Lib.hid (HSTW3.out.below hb4)
    have SZW4 : Hid (b10 < W4.heap.size) := Lib.hid R10W4.out.lt
    have HDW4 := Lib.hid (HDW3.out.below hb4)
    have HLW4 := Lib.hid (log_below HLW3.out hb4)
    clear HDW3 HLW3
    clear R9W3 R10W3 HWW3 HSTW3
    clear hb4
    go_upto_if 47 with fail
    go_cut [7] from 46 to 87 (fun t7 wx => TQ w w1.heap.size dg g area r b10 W0.heap.size t7 wx)
    case first =>
      by_cases hk1 : kd = 1
      · have hkb : ((kd : Int) == 1) = true := by rw [hk1]; rfl
        have hk1i : (kd : Int) = 1 := by omega
        have HK1 := Lib.hid hk1
        clear hk1
        go_wp2_with (first
          | (with_reducible refine Wl.wpList_load_row (op := ⟨some 49, _, _, _, _, _⟩) ?_ 55 (.tmp 9) ?_ b9 0 ?_ [.int .i64 k, .int .i64 a, .int .u8 (x.toNat : Int), .slice Ak nk ck] _ (Row.all R9W4.out) Try.underlying55 ?_ HI4.out ?_))
        all_goals try (first | rfl | (simp; done))
        go_wp2_with fail
        refine (HBY.out W4).mono ?_
        rintro e W5 ⟨g5, rfl, hr3, hg3, hb3⟩
        have BYW5 : Hid (By W5 (some ⟨g5, 0, none⟩) ob.length ob.length ob) := Lib.hid (by_of_row hr3 (by have := HML.out; omega))
        have R9W5 := Lib.hid (R9W4.out.below hb3 R9W4.out.lt)
        have R10W5 := Lib.hid (R10W4.out.below hb3 R10W4.out.lt)
        have HWW5 := Lib.hid (HWW4.out.trans (hb3.mono HWW4.out.size))
        have HSTW5 := Lib.hid (HSTW4.out.below hb3)
        have SZW5 : Hid (b10 < W5.heap.size) := Lib.hid R10W5.out.lt
        have HDW5 := Lib.hid (HDW4.out.below hb3)
        have HLW5 := Lib.hid (log_below HLW4.out hb3)
        clear HDW4 HLW4
        clear R9W4 R10W4 HWW4 HSTW4
        clear hr3 hg3 hb3
        by_cases hroom : q ≤ area
        case neg =>
          have hq1 : ¬ (q : Int) ≤ (area : Int) := by omega
          have hq2 : (area : Int) < (q : Int) := by omega
          go_wp2_with fail
          refine (check_full g dg area t fs (some ⟨g5, 0, none⟩) ob.length ob.length G W5 HLW5.out (by have := HML.out; omega) (by rw [HQ.out.1]; omega)).mono ?_
          rintro e Wc ⟨rfl, hb6⟩
          have R9Wc := Lib.hid (R9W5.out.below hb6 R9W5.out.lt)
          have R10Wc := Lib.hid (R10W5.out.below hb6 R10W5.out.lt)
          have HWWc := Lib.hid (HWW5.out.trans (hb6.mono HWW5.out.size))
          have HSTWc := Lib.hid (HSTW5.out.below hb6)
          have SZWc : Hid (b10 < Wc.heap.size) := Lib.hid R10Wc.out.lt
          have HDWc := Lib.hid (HDW5.out.below hb6)
          have HLWc := Lib.hid (log_below HLW5.out hb6)
          clear HDW5 HLW5
          clear R9W5 R10W5 HWW5 HSTW5
          have HT : Hid (TP w w1.heap.size dg g area r b10 W0.heap.size lf t fs (scs As ns cs Al nl cl) Wc) := Lib.hid ⟨⟨⟨F, G, d, HDWc.out, HLWc.out, fun k hk => (HFG.out.1 k hk).1, fun k hk => ⟨(HFG.out.2 k hk).1, by have := (HFG.out.2 k hk).2; have := HB9.out; have := R9Wc.out.lt; omega⟩, HCL.out.1, HCL.out.2⟩, by omega, HNE.out, by omega, by rw [HUS.out]; omega, HMO.out, HWWc.out⟩, by rw [HUS.out]; exact HLF.out, R10Wc.out, HSTWc.out⟩
          have HLQ : Hid (fs.length ≤ 50000) := Lib.hid (by have := HLN.out; omega)
          clear hb6
          go_wp2_with fail
          go_meet
          exact ⟨lf, t, fs, _, _, _, _, _, _, rfl, HLQ.out, HT.out⟩
        have GG : Hid (G g) := Lib.hid (by obtain ⟨_, _, _, _, _, h, _⟩ := HLW5.out; exact h)
        have HW1S : Hid (w.heap.size ≤ W1.heap.size) := Lib.hid (by have := HS1.out.2; have := HBX.out.size; have := HB9.out; have := (HFG.out.2 _ GG.out).1; have := (HFG.out.2 _ GG.out).2; have := HB1S.out; omega)
        have hql : (q : Int) ≤ (area : Int) := by omega
        obtain ⟨lf2, hlf2⟩ : ∃ lf2, area - q = lf2 := ⟨_, rfl⟩
        have hwlf : (area : Int) - (q : Int) = (lf2 : Int) := by omega
        have HLF2 := Lib.hid hlf2
        have HC6 := Lib.hid (begin_calm (t := t + 1) (b := ob) (by omega) HCL.out.1 (by rw [HQ.out.1]; exact hroom))
        clear hlf2
        go_wp2_with fail
        refine (check_ok g dg area t fs (some ⟨g5, 0, none⟩) ob.length ob.length ob d F G W5 HLW5.out HDW5.out BYW5.out.sl (by have := HML.out; omega) (by omega) (by omega) (by rw [HQ.out.1]; exact hroom) (by rw [HCL.out.2]; exact Nat.zero_le _)).mono ?_
        rintro e W6 ⟨rfl, F6, G6, hd6, hx6, hy6, ho6, hl6⟩
        rw [HC6.out.1] at hl6 ⊢
        rw [if_pos rfl, if_pos rfl, show decide ((0 : Int) ≠ 0) = false by decide] at hl6
        have hnb : ∀ k, b9 ≤ k → ¬ (F k ∨ G k) := fun k hk h => by
          have e9 := HB9.out
          rcases h with h | h
          · have := (HFG.out.1 k h).2; omega
          · have := (HFG.out.2 k h).2; omega
        have hb910 : b9 ≤ b10 := by rw [← HB9.out, ← HB10.out]; have := HBX.out.size; have := HS1.out.2; omega
        have R9W6 : Hid (Row W6 b9 55 [.int .i64 k, .int .i64 a, .int .u8 (x.toNat : Int), .slice Ak nk ck]) := Lib.hid ((ho6.block b9 R9W5.out.lt (hnb b9 (Nat.le_refl _))).trans R9W5.out)
        have R10W6 : Hid (Row W6 b10 60 (scs As ns cs Al nl cl)) := Lib.hid ((ho6.block b10 R10W5.out.lt (hnb b10 hb910)).trans R10W5.out)
        have HWW6 := Lib.hid (below_off HWW5.out ho6 (fun k hk => by
          have := HB1S.out
          rcases hk with h | h
          · have := (HFG.out.1 k h).1; omega
          · have := (HFG.out.2 k h).1; omega))
        have HSTW6 := Lib.hid (HSTW5.out.keep (fun k hk hlt => ho6.block k hlt (hnb k (by have e9 := HB9.out; have := HBX.out.size; omega))))
        have HFI6 : Hid (FI w w1.heap.size dg g area (r + 1) (t + 1) [ob] W6) := Lib.hid ⟨⟨F6, fun k => G6 k ∧ k < W6.heap.size, (beginM (t + 1) area ob d).1, hd6, Wl.tight hl6, fun k hk => by
          rcases hx6 k hk with h | h
          · exact (HFG.out.1 k h).1
          · have := HB9.out; have := R9W5.out.lt; have := (HFG.out.2 _ GG.out).1; have := (HFG.out.2 _ GG.out).2; omega, fun k hk => ⟨by
          rcases hy6 k hk.1 with h | h
          · exact (HFG.out.2 k h).1
          · have := HB9.out; have := R9W5.out.lt; have := (HFG.out.2 _ GG.out).1; have := (HFG.out.2 _ GG.out).2; omega, hk.2⟩, HC6.out.2.1, HC6.out.2.2⟩, by omega, by simp, by simp, by show sects ob.length + 0 ≤ area; rw [HQ.out.1]; omega, fun b hb => by rw [List.mem_singleton.1 hb]; have := HML.out; omega, HWW6.out⟩
        clear hd6 hx6 hy6 ho6 hl6 hnb hb910
        go_wp2_with (first
          | (with_reducible refine Wl.wpList_load_row (op := ⟨some 63, _, _, _, _, _⟩) ?_ 60 (.tmp 10) ?_ b10 0 ?_ (scs As ns cs Al nl cl) _ (Row.all R10W6.out) Try.underlying60 ?_ (HI2.out _ _ _ _ _ _) ?_)
          | (with_reducible refine Wl.wpList_load_row (op := ⟨some 64, _, _, _, _, _⟩) ?_ 55 (.tmp 9) ?_ b9 0 ?_ [.int .i64 k, .int .i64 a, .int .u8 (x.toNat : Int), .slice Ak nk ck] _ (Row.all R9W6.out) Try.underlying55 ?_ HI4.out ?_))
        all_goals try (first | rfl | (simp; done))
        go_wp2_with fail
        refine (HAF.out _ _ _ _ W6 HSTW6.out (by have := R10W6.out.lt; have := HB10.out; have := HS1.out.2; omega) (by have := HLN.out; rw [List.length_drop]; omega)).mono ?_
        rintro e W7 ⟨va, rfl, hsa, hba⟩
        rw [HAB.out, HAL.out, if_pos HK1.out, if_pos HK1.out] at hsa
        have SVA := Lib.hid hsa
        obtain ⟨As', ns', cs', Al', cl', hv', _⟩ := hsa
        obtain ⟨nl', hnl'⟩ : ∃ nl', ([] : List (List UInt8)).length = nl' := ⟨_, rfl⟩
        rw [hnl'] at hv'
        clear hnl'
        subst hv'
        have R9W7 := Lib.hid (R9W6.out.below hba R9W6.out.lt)
        have R10W7 := Lib.hid (R10W6.out.below hba R10W6.out.lt)
        have HWW7 := Lib.hid (HWW6.out.trans (hba.mono HWW6.out.size))
        have HSTW7 := Lib.hid (HSTW6.out.below hba)
        have SZW7 : Hid (b10 < W7.heap.size) := Lib.hid R10W7.out.lt
        clear R9W6 R10W6 HWW6 HSTW6
        have HFI7 := Lib.hid (HFI6.out.below hba)
        clear hba HFI6
        go_wp2_with (first
          | (with_reducible refine Wl.wpList_store_whole (op := ⟨none, _, _, _, _, _⟩) ?_ 60 (.tmp 10) (.tmp 65) ?_ b10 (scs As' ns' cs' Al' nl' cl') ?_ ?_ 60 (scs As ns cs Al nl cl) R10W7.out (HLS.out _ _ _ _ _ _) (scs_one _ _ _ _ _ _) (HI2.out _ _ _ _ _ _) ?_))
        all_goals try (first | rfl | (simp; done))
        intro Wc hr8 hg8
        have HT : Hid (TP w w1.heap.size dg g area r b10 W0.heap.size lf2 (t + 1) ([ob]) (scs As' ns' cs' Al' nl' cl') Wc) := Lib.hid ⟨HFI7.out.grown R10W7.out hg8 (by have := HB10.out; have := HW1S.out; omega), by show lf2 = area - (sects ob.length + 0); rw [HQ.out.1]; exact HLF2.out.symm, hr8, by
          have hsv := stv_grown SVA.out R10W7.out hg8
          exact hsv⟩
        have HLQ : Hid (([ob]).length ≤ 50000) := Lib.hid (by have := HLN.out; simp only [List.length_append, List.length_cons, List.length_nil]; omega)
        clear hr8 hg8 HFI7 SVA
        go_wp2_with fail
        go_meet
        exact ⟨lf2, (t + 1), ([ob]), _, _, _, _, _, _, rfl, HLQ.out, HT.out⟩
      have hkb : ((kd : Int) == 1) = false := by simp; omega
      have hk1i : ¬ (kd : Int) = 1 := by omega
      clear hk1
      go_wp2_with (first
        | (with_reducible refine Wl.wpList_load_row (op := ⟨some 67, _, _, _, _, _⟩) ?_ 55 (.tmp 9) ?_ b9 0 ?_ [.int .i64 k, .int .i64 a, .int .u8 (x.toNat : Int), .slice Ak nk ck] _ (Row.all R9W4.out) Try.underlying55 ?_ HI4.out ?_))
      all_goals try (first | rfl | (simp; done))
      go_wp2_with fail
      clear hk1i hkb
      refine (HBY.out W4).mono ?_
      rintro e W5 ⟨g5, rfl, hr3, hg3, hb3⟩
      have BYW5 : Hid (By W5 (some ⟨g5, 0, none⟩) ob.length ob.length ob) := Lib.hid (by_of_row hr3 (by have := HML.out; omega))
      have R9W5 := Lib.hid (R9W4.out.below hb3 R9W4.out.lt)
      have R10W5 := Lib.hid (R10W4.out.below hb3 R10W4.out.lt)
      have HWW5 := Lib.hid (HWW4.out.trans (hb3.mono HWW4.out.size))
      have HSTW5 := Lib.hid (HSTW4.out.below hb3)
      have SZW5 : Hid (b10 < W5.heap.size) := Lib.hid R10W5.out.lt
      have HDW5 := Lib.hid (HDW4.out.below hb3)
      have HLW5 := Lib.hid (log_below HLW4.out hb3)
      clear HDW4 HLW4
      clear R9W4 R10W4 HWW4 HSTW4
      clear hr3 hg3 hb3
      by_cases hroom : q ≤ lf
      case neg =>
        have hq1 : ¬ (q : Int) ≤ (lf : Int) := by omega
        have hq2 : (lf : Int) < (q : Int) := by omega
        go_wp2_with fail
        refine (append_full g dg area t fs (some ⟨g5, 0, none⟩) ob.length ob.length G W5 HLW5.out (by have := HML.out; omega) (by omega) (by rw [HUS.out]; omega) (by rw [HQ.out.1, HUS.out]; have := HLF.out; omega)).mono ?_
        rintro e Wc ⟨rfl, hb6⟩
        have R9Wc := Lib.hid (R9W5.out.below hb6 R9W5.out.lt)
        have R10Wc := Lib.hid (R10W5.out.below hb6 R10W5.out.lt)
        have HWWc := Lib.hid (HWW5.out.trans (hb6.mono HWW5.out.size))
        have HSTWc := Lib.hid (HSTW5.out.below hb6)
        have SZWc : Hid (b10 < Wc.heap.size) := Lib.hid R10Wc.out.lt
        have HDWc := Lib.hid (HDW5.out.below hb6)
        have HLWc := Lib.hid (log_below HLW5.out hb6)
        clear HDW5 HLW5
        clear R9W5 R10W5 HWW5 HSTW5
        have HT : Hid (TP w w1.heap.size dg g area r b10 W0.heap.size lf t fs (scs As ns cs Al nl cl) Wc) := Lib.hid ⟨⟨⟨F, G, d, HDWc.out, HLWc.out, fun k hk => (HFG.out.1 k hk).1, fun k hk => ⟨(HFG.out.2 k hk).1, by have := (HFG.out.2 k hk).2; have := HB9.out; have := R9Wc.out.lt; omega⟩, HCL.out.1, HCL.out.2⟩, by omega, HNE.out, by omega, by rw [HUS.out]; omega, HMO.out, HWWc.out⟩, by rw [HUS.out]; exact HLF.out, R10Wc.out, HSTWc.out⟩
        have HLQ : Hid (fs.length ≤ 50000) := Lib.hid (by have := HLN.out; omega)
        clear hb6
        go_wp2_with fail
        go_meet
        exact ⟨lf, t, fs, _, _, _, _, _, _, rfl, HLQ.out, HT.out⟩
      have GG : Hid (G g) := Lib.hid (by obtain ⟨_, _, _, _, _, h, _⟩ := HLW5.out; exact h)
      have HW1S : Hid (w.heap.size ≤ W1.heap.size) := Lib.hid (by have := HS1.out.2; have := HBX.out.size; have := HB9.out; have := (HFG.out.2 _ GG.out).1; have := (HFG.out.2 _ GG.out).2; have := HB1S.out; omega)
      have hql : (q : Int) ≤ (lf : Int) := by omega
      obtain ⟨lf2, hlf2⟩ : ∃ lf2, lf - q = lf2 := ⟨_, rfl⟩
      have hwlf : (lf : Int) - (q : Int) = (lf2 : Int) := by omega
      have HWL3 : Hid (wrap64 (lf2 : Int) = (lf2 : Int)) := Lib.hid (by unfold wrap64; have := HLF.out; omega)
      have HLF2 := Lib.hid hlf2
      have HC6 := Lib.hid (ap_hc (t := t) HCL.out.1 HUS.out HQ.out.1 HLF.out hroom hus2)
      have HAF2 := Lib.hid (fun lo v b L W hs hl hn => after_any lo v b L ⟨0, a, x, none, 0, 0, []⟩ W hs hl hn)
      have HAB2 : Hid (∀ b, aftB ⟨0, a, x, none, 0, 0, []⟩ b = b) := Lib.hid fun b => aft0B a x b
      have HAL2 : Hid (∀ L, aftL ⟨0, a, x, none, 0, 0, []⟩ L = L ++ [ob]) := Lib.hid fun L => by
        rw [← HOB.out]; exact aft0L _ _ _ _ _ _ _ L
      unfold OM.val opv at HAF2
      dsimp only at HAF2
      clear hlf2
      go_wp2_with fail
      refine (append_ok g dg area t fs (some ⟨g5, 0, none⟩) ob.length ob.length ob d F G W5 HLW5.out HDW5.out BYW5.out.sl (Nat.le_trans HML.out (by decide)) (Nat.le_trans ha (by decide)) (t_small htt hlt hn40) (used_ok HUS.out hus2) (room_ok HUS.out HQ.out.1 HLF.out hroom) (Nat.le_trans HLN.out (by decide)) (by rw [HCL.out.2]; exact Nat.zero_le _)).mono ?_
      rintro e W6 ⟨rfl, F6, G6, hd6, hx6, hy6, ho6, hl6⟩
      rw [HC6.out.1] at hl6 ⊢
      rw [if_pos rfl, show decide ((0 : Int) ≠ 0) = false by decide] at hl6
      have hnb : ∀ k, b9 ≤ k → ¬ (F k ∨ G k) := fun k hk h => by
        have e9 := HB9.out
        rcases h with h | h
        · have := (HFG.out.1 k h).2; omega
        · have := (HFG.out.2 k h).2; omega
      have hb910 : b9 ≤ b10 := by rw [← HB9.out, ← HB10.out]; have := HBX.out.size; have := HS1.out.2; omega
      have R9W6 : Hid (Row W6 b9 55 [.int .i64 k, .int .i64 a, .int .u8 (x.toNat : Int), .slice Ak nk ck]) := Lib.hid ((ho6.block b9 R9W5.out.lt (hnb b9 (Nat.le_refl _))).trans R9W5.out)
      have R10W6 : Hid (Row W6 b10 60 (scs As ns cs Al nl cl)) := Lib.hid ((ho6.block b10 R10W5.out.lt (hnb b10 hb910)).trans R10W5.out)
      have HWW6 := Lib.hid (below_off HWW5.out ho6 (fun k hk => by
        have := HB1S.out
        rcases hk with h | h
        · have := (HFG.out.1 k h).1; omega
        · have := (HFG.out.2 k h).1; omega))
      have HSTW6 := Lib.hid (HSTW5.out.keep (fun k hk hlt => ho6.block k hlt (hnb k (by have e9 := HB9.out; have := HBX.out.size; omega))))
      have HFI6 : Hid (FI w w1.heap.size dg g area (r + 1) t (fs ++ [ob]) W6) := Lib.hid ⟨⟨F6, fun k => G6 k ∧ k < W6.heap.size, (layM (pairsM t fs.length ob) ((2 + t % 2 * area + usedM fs : Nat) : Int) d).1, hd6, Wl.tight hl6, fun k hk => by
        rcases hx6 k hk with h | h
        · exact (HFG.out.1 k h).1
        · have := HB9.out; have := R9W5.out.lt; have := (HFG.out.2 _ GG.out).1; have := (HFG.out.2 _ GG.out).2; omega, fun k hk => ⟨by
        rcases hy6 k hk.1 with h | h
        · exact (HFG.out.2 k h).1
        · have := HB9.out; have := R9W5.out.lt; have := (HFG.out.2 _ GG.out).1; have := (HFG.out.2 _ GG.out).2; omega, hk.2⟩, HC6.out.2.1, HC6.out.2.2⟩, by omega, by simp, by rw [List.length_append]; simp only [List.length_cons, List.length_nil]; omega, by rw [usedM_snoc, HUS.out, HQ.out.1]; have := HLF.out; omega, fun b hb => by rcases List.mem_append.1 hb with hb | hb; exact HMO.out b hb; rw [List.mem_singleton.1 hb]; have := HML.out; omega, HWW6.out⟩
      clear hd6 hx6 hy6 ho6 hl6 hnb hb910
      have c1 : W6.cell? ⟨b9, 1, none⟩ = some (.int .i64 a) := R9W6.out.cell 1
      have c2 : W6.cell? ⟨b9, 2, none⟩ = some (.int .u8 (x.toNat : Int)) := R9W6.out.cell 2
      have hwl3 := HWL3.out
      go_wp2_with (first
        | (with_reducible refine Wl.wpList_load_row (op := ⟨some 81, _, _, _, _, _⟩) ?_ 60 (.tmp 10) ?_ b10 0 ?_ (scs As ns cs Al nl cl) _ (Row.all R10W6.out) Try.underlying60 ?_ (HI2.out _ _ _ _ _ _) ?_))
      all_goals try (first | rfl | (simp; done))
      go_wp2_with fail
      clear hwl3
      refine (HAF2.out _ _ _ _ W6 HSTW6.out (by have := R10W6.out.lt; have := HB10.out; have := HS1.out.2; omega) (by have := HLN.out; rw [List.length_drop]; omega)).mono ?_
      rintro e W7 ⟨va, rfl, hsa, hba⟩
      rw [HAB2.out, HAL2.out] at hsa
      clear c1 c2
      have SVA := Lib.hid hsa
      obtain ⟨As', ns', cs', Al', cl', hv', _⟩ := hsa
      obtain ⟨nl', hnl'⟩ : ∃ nl', (fs.drop 1 ++ [ob]).length = nl' := ⟨_, rfl⟩
      rw [hnl'] at hv'
      clear hnl'
      subst hv'
      have R9W7 := Lib.hid (R9W6.out.below hba R9W6.out.lt)
      have R10W7 := Lib.hid (R10W6.out.below hba R10W6.out.lt)
      have HWW7 := Lib.hid (HWW6.out.trans (hba.mono HWW6.out.size))
      have HSTW7 := Lib.hid (HSTW6.out.below hba)
      have SZW7 : Hid (b10 < W7.heap.size) := Lib.hid R10W7.out.lt
      clear R9W6 R10W6 HWW6 HSTW6
      have HFI7 := Lib.hid (HFI6.out.below hba)
      clear hba HFI6
      go_wp2_with (first
        | (with_reducible refine Wl.wpList_store_whole (op := ⟨none, _, _, _, _, _⟩) ?_ 60 (.tmp 10) (.tmp 87) ?_ b10 (scs As' ns' cs' Al' nl' cl') ?_ ?_ 60 (scs As ns cs Al nl cl) R10W7.out (HLS.out _ _ _ _ _ _) (scs_one _ _ _ _ _ _) (HI2.out _ _ _ _ _ _) ?_))
      all_goals try (first | rfl | (simp; done))
      intro Wc hr8 hg8
      have HT : Hid (TP w w1.heap.size dg g area r b10 W0.heap.size lf2 t (fs ++ [ob]) (scs As' ns' cs' Al' nl' cl') Wc) := Lib.hid ⟨HFI7.out.grown R10W7.out hg8 (by have := HB10.out; have := HW1S.out; omega), by rw [usedM_snoc, HUS.out, HQ.out.1]; have := HLF.out; have := HLF2.out; omega, hr8, by
        have hsv := stv_grown SVA.out R10W7.out hg8
        rw [gd0 HNE.out, dr1 HNE.out]; exact hsv⟩
      have HLQ : Hid ((fs ++ [ob]).length ≤ 50000) := Lib.hid (by have := HLN.out; simp only [List.length_append, List.length_cons, List.length_nil]; omega)
      clear hr8 hg8 HFI7 SVA
      go_wp2_with fail
      go_meet
      exact ⟨lf2, t, (fs ++ [ob]), _, _, _, _, _, _, rfl, HLQ.out, HT.out⟩
    case rest =>
      obtain ⟨lf2, t2, fs2, As2, ns2, cs2, Al2, nl2, cl2, rfl, hlq, ht⟩ := hcut
      have HT := Lib.hid ht
      have HLQ := Lib.hid hlq
      clear hlq ht HBY HAF HKD HOB HAB HAL
      go_wp2_with fail
      obtain ⟨⟨⟨Fx, Gx, dx, hdx, ⟨Ax, cx, xsx, hrowx, hrestx⟩, hFx, hGx, _⟩, _, hnex, hlenx, husx, _⟩, hlfx, hr10x, hsvx⟩ := id HT.out
      have hlgx : Log wc Gx g dg area t2 fs2 false := ⟨Ax, cx, xsx, hrowx, hrestx⟩
      have hlfa := left_any g dg area t2 fs2.length cx (usedM fs2) Ax false wc.drew (Row.drew hrowx) (by omega) husx
      rw [← hlfx] at hlfa
      have HLX := Lib.hid hlfa
      have HTX := Lib.hid (told_any g dg area t2 fs2 false Gx wc.drew.drew (log_below hlgx (((Below.refl _ _).drew).drew)) (fun k hk => (hGx k hk).2) hnex (by omega))
      have R10X := Lib.hid hr10x
      have SVX := Lib.hid hsvx
      clear hdx hrowx hrestx hFx hGx hnex hlenx husx hlfx hr10x hsvx hlgx hlfa
      refine wp_region_held_drew (S := fun W => Row W b10 60 (scs As2 ns2 cs2 Al2 nl2 cl2)) (by kernel_rfl) R10X.out (fun hHeld => ?_)
      have S0 := Lib.hid hHeld
      clear hHeld
      refine wpAnyH_take (i := 0) (oi := ⟨some 88, _, _, _, _, _⟩) (v := ?vu1) rfl (by kernel_rfl) (by kernel_rfl) (by kernel_rfl) (fun _ _ _ h => h) (Or.inl ⟨by rfl, ?yu1⟩) S0.out ?ru1
      case yu1 =>
        rintro w' hSw
        go_simp
        try with_reducible rfl
      try simp only [Act.put, List.setIfInBounds_toArray, List.set_cons_zero, List.set_cons_succ]
      refine wpAnyH_take (i := 2) (oi := ⟨some 90, _, _, _, _, _⟩) (v := ?vu2) rfl (by kernel_rfl) (by kernel_rfl) (by kernel_rfl) (fun _ _ _ h => h) (Or.inl ⟨by rfl, ?yu2⟩) S0.out ?ru2
      case yu2 =>
        rintro w' hSw
        go_simp
        try with_reducible rfl
      try simp only [Act.put, List.setIfInBounds_toArray, List.set_cons_zero, List.set_cons_succ]
      refine wpAnyH_ready (rs := [1]) (by kernel_rfl) (by simp) ?_
      refine (AllReadyH.cons rfl (fun K hK => ?_) AllReadyH.nil)
      go_simp
      refine HLX.out.mono ?_
      rintro e wl ⟨rfl, rfl⟩
      have SA : Hid (Row wc.drew.drew b10 60 (scs As2 ns2 cs2 Al2 nl2 cl2)) := Lib.hid (Row.drew S0.out)
      refine hK _ _ SA.out (fun _ => ?_)
      clear hK K
      try simp only [Act.put, List.setIfInBounds_toArray, List.set_cons_zero, List.set_cons_succ]
      refine wpAnyH_take (i := 3) (oi := ⟨some 91, _, _, _, _, _⟩) (v := ?vu4) rfl (by kernel_rfl) (by kernel_rfl) (by kernel_rfl) (fun _ _ _ h => h) (Or.inl ⟨by rfl, ?yu4⟩) SA.out ?ru4
      case yu4 =>
        rintro w' hSw
        go_simp
        try with_reducible rfl
      try simp only [Act.put, List.setIfInBounds_toArray, List.set_cons_zero, List.set_cons_succ]
      refine wpAnyH_take (i := 4) (oi := ⟨some 92, _, _, _, _, _⟩) (v := ?vu5) rfl (by kernel_rfl) (by kernel_rfl) (by kernel_rfl) (fun _ _ _ h => h) (Or.inl ⟨by rfl, ?yu5⟩) SA.out ?ru5
      case yu5 =>
        rintro w' hSw
        go_simp
        try with_reducible rfl
      try simp only [Act.put, List.setIfInBounds_toArray, List.set_cons_zero, List.set_cons_succ]
      refine wpAnyH_take (i := 5) (oi := ⟨some 93, _, _, _, _, _⟩) (v := ?vu6) rfl (by kernel_rfl) (by kernel_rfl) (by kernel_rfl) (fun _ _ _ h => h) (Or.inl ⟨by rfl, ?yu6⟩) SA.out ?ru6
      case yu6 =>
        rintro w' hSw
        go_simp
        try with_reducible rfl
      try simp only [Act.put, List.setIfInBounds_toArray, List.set_cons_zero, List.set_cons_succ]
      refine wpAnyH_take (i := 7) (oi := ⟨some 95, _, _, _, _, _⟩) rfl (by kernel_rfl) (by kernel_rfl) (by kernel_rfl) (fun _ _ _ h => h) (yieldsIf_load_mid (by rfl) 60 (.tmp 10) rfl b10 0 ?xu7 (scs As2 ns2 cs2 Al2 nl2 cl2) _ (fun W h => Row.all h) Try.underlying60 rfl (HI2.out _ _ _ _ _ _)) SA.out ?ru7
      case xu7 => first | rfl | (simp [Act.eval, go_sem]; done)
      try simp only [Act.put, List.setIfInBounds_toArray, List.set_cons_zero, List.set_cons_succ]
      refine wpAnyH_ready (rs := [6]) (by kernel_rfl) (by simp) ?_
      refine (AllReadyH.cons rfl (fun K hK => ?_) AllReadyH.nil)
      go_simp
      refine HTX.out.mono ?_
      rintro e Wt ⟨vt, rfl, hst, hbt⟩
      have SVT := Lib.hid hst
      have SB : Hid (Row Wt b10 60 (scs As2 ns2 cs2 Al2 nl2 cl2)) := Lib.hid (SA.out.below hbt SA.out.lt)
      have HBT : Hid (Below wc.heap.size wc Wt) := Lib.hid ((((Below.refl _ _).drew).drew).trans hbt)
      clear hst hbt
      refine hK _ _ SB.out (fun _ => ?_)
      clear hK K
      try simp only [Act.put, List.setIfInBounds_toArray, List.set_cons_zero, List.set_cons_succ]
      refine wpAnyH_ready (rs := [8]) (by kernel_rfl) (by simp) ?_
      refine (AllReadyH.cons rfl (fun K hK => ?_) AllReadyH.nil)
      go_simp
      refine (same_any _ _ _ _ _ _ _ _ Wt SVT.out (SVX.out.below HBT.out) (by have := HLQ.out; rw [List.length_drop]; omega)).mono ?_
      rintro e Ws ⟨rfl, hbs⟩
      rw [show ∀ (b : List UInt8) (L : List (List UInt8)), sameS b b L L = true from fun b L => by simp [sameS]]
      have SC : Hid (Row Ws b10 60 (scs As2 ns2 cs2 Al2 nl2 cl2)) := Lib.hid (SB.out.below hbs SB.out.lt)
      have HFE : Hid (FI w w1.heap.size dg g area (r + 1) t2 fs2 Ws) := Lib.hid ((HT.out.fi.below HBT.out).below hbs)
      clear hbs
      refine hK _ _ SC.out (fun _ => ?_)
      clear hK K
      try simp only [Act.put, List.setIfInBounds_toArray, List.set_cons_zero, List.set_cons_succ]
      refine wpAnyH_take (i := 9) (oi := ⟨some 97, _, _, _, _, _⟩) (v := ?vu10) rfl (by kernel_rfl) (by kernel_rfl) (by kernel_rfl) (fun _ _ _ h => h) (Or.inl ⟨by rfl, ?yu10⟩) SC.out ?ru10
      case yu10 =>
        rintro w' hSw
        go_simp
        try with_reducible rfl
      try simp only [Act.put, List.setIfInBounds_toArray, List.set_cons_zero, List.set_cons_succ]
      refine wpAnyH_take (i := 10) (oi := ⟨some 98, _, _, _, _, _⟩) (v := ?vu11) rfl (by kernel_rfl) (by kernel_rfl) (by kernel_rfl) (fun _ _ _ h => h) (Or.inl ⟨by rfl, ?yu11⟩) SC.out ?ru11
      case yu11 =>
        rintro w' hSw
        go_simp
        try with_reducible rfl
      try simp only [Act.put, List.setIfInBounds_toArray, List.set_cons_zero, List.set_cons_succ]
      refine wpAnyH_done (by kernel_rfl) ?_ _
      have HLFE := Lib.hid HT.out.lf
      clear HT HLX HTX
      go_wp2
      go_roundw
      case rel => exact ⟨r + 1, t2, fs2, lf2, by omega, by go_num, rfl, HLFE, HFE⟩
      case measure => simp [intOf]; omega

theorem resT_WalFull : Try.f7.resultTypes = #[4] := by kernel_rfl
set_option maxRecDepth 100000 in
theorem lifted_WalFull (os : Os) (started : os.Started) (H : Type) (enc : TypeId × Value → H) :
    ReturnsInHanded {} Try.checked os 7 .any (Rows.walFullSpec.pre6 enc Try.prog Try.f7 Rows.walFullRow.domain false) (Rows.walFullSpec.post enc Try.prog Try.f7 false true false false) := by
  refine Lift.law_lift (C := Try.checked) (s := Rows.walFullSpec) (tb := 4) own laidOut started (by kernel_rfl) Try.func7
    (ChangeSpec.witness6 (enc := enc) (C := Try.checked) false ⟨#[], #[.int .i64 0, .slice none 0 0], []⟩ 8 (by kernel_rfl) (by kernel_rfl) (by kernel_rfl) (by kernel_rfl))
    rfl resT_WalFull Try.underlying4 (by
      have hr : ∀ t ∈ ([3, 52] : List TypeId), Try.prog.readableRec t = true ∧ t < Try.prog.types.size := by
        intro t ht
        simp only [List.mem_cons, List.not_mem_nil, or_false] at ht
        rcases ht with rfl | rfl <;> exact ⟨by kernel_rfl, of_decide_eq_true (by kernel_rfl)⟩
      intro t ht
      exact hr t (by
        have ht' : t ∈ Try.f7.params.toList := ht
        rw [Try.params7] at ht'
        exact ht')) ?_
  intro W base args ds p hval0 hA0 hsz0
  have hval : ∀ (j : Nat) t v, Try.f7.params[j]? = some t → args[j]? = some v → Value.okWide Try.prog W .any base t v := hval0
  have hA : DataW.TrodAll enc Try.prog W 0 (fun _ => true) true Try.f7.params.toList args.toList ds p := hA0
  have hsz : (DataW.weightsEach Try.prog Try.f7.params.toList ds).all (· ≤ reachBytes) = true := hsz0
  clear hval0 hA0 hsz0
  rw [Try.params7] at hA hval hsz
  obtain ⟨v0, vs0, d0, ds0, p0, q0, hargs, rfl, rfl, h0, r0⟩ := trodAll_cons hA
  obtain ⟨v1, vs1, d1, ds1, p1, q1, rfl, rfl, rfl, h1, r1⟩ := trodAll_cons r0
  obtain ⟨rfl, rfl, rfl⟩ := trodAll_nil r1
  obtain rfl : args = #[v0, v1] := by cases args; simp_all
  obtain ⟨a0, rfl, rfl, rfl, w0⟩ := open_int Try.underlying3 (hval 0 3 v0 rfl rfl) h0
  obtain ⟨A1, n1, c1, os1, rfl, hl1, hlc1, hn1, hm1, ho1, hk1⟩ := open_ops (hval 1 52 v1 rfl rfl) h1 (by rw [List.all_eq_true] at hsz ⊢; intro z hz; exact hsz z (DataW.weights_mem_each (j := 1) (t := 52) (d := d1) rfl rfl z hz))
  exact ⟨rfl, walk a0 A1 n1 c1 os1 W hl1 hlc1 hn1 hm1 ho1⟩

theorem proved_WalFull : Rows.WalFullSaid :=
  OpenClaim.holds_of_wide 7 Try.f7 rfl rfl rfl rfl rfl rfl rfl ⟨rfl, rfl, rfl, rfl, rfl⟩ rfl rfl rfl rfl rfl (by kernel_rfl) Try.func7 (by kernel_rfl)
    (of_decide_eq_true (by kernel_rfl)) (by unfold Func.isWrapper; first | (rw [if_pos (by decide +kernel)]; kernel_rfl) | (rw [if_neg (by decide +kernel)]; exact ⟨rfl, rfl⟩))
    (fun os started H enc _ => lifted_WalFull os started H enc)
end Go.Proofs.Ytchagomphpfimaa.WalFul
