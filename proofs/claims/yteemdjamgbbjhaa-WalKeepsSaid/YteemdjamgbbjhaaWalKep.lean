/-
  WalKeeps: wherever the power goes, in an Open, too, and whatever survives: what was told is found, and what was under way whole or not at all. No condition.
-/
import Derived.Deep.Cut
import Derived.Deep.CutRange
import Derived.Deep.CutBlock
import Derived.Test.YteemdjamgbbjhaaKp7
namespace Go.Proofs.Yteemdjamgbbjhaa.WalKep
set_option maxRecDepth 100000
open Go.RowKit Go.Shelf Go.Proofs.Yteemdjamgbbjhaa.Wd Go.Proofs.Yteemdjamgbbjhaa.Dsk Go.Proofs.Yteemdjamgbbjhaa.Oct Go.Proofs.Yteemdjamgbbjhaa.Sum Go.Proofs.Yteemdjamgbbjhaa.Beq Go.Proofs.Yteemdjamgbbjhaa.Wl Go.ChangeShapes Go.WideShapes Go.ChangeAt

theorem own : ownKnob Try.prog.godebug = none := by kernel_rfl
theorem laidOut : laidOutB Try.prog = true := by kernel_rfl
def K1 (w w1 : World) (dg g r t bn b3 : Nat) (fs : List (List UInt8)) (ac : Int) (xc : UInt8) (Ac : Option Addr) (nc cc : Nat) (wx : World) : Prop :=
  ∃ v1 k', Below w.heap.size w v1 ∧ v1.heap.size = w1.heap.size ∧ Row v1 b3 55 [.int .i64 k', .int .i64 ac, .int .u8 (xc.toNat : Int), .slice Ac nc cc] ∧ (kindW k' = 0 ∨ kindW k' = 1) ∧ KJ v1 dg g r t bn fs fs wx
def K2 (v1 : World) (dg t bn : Nat) (fs : List (List UInt8)) (o : OM) (t13 : Value) (wx : World) : Prop :=
  ∃ (v : Int) (t2 : Nat) (fs2 : List (List UInt8)) (N : Nat → Prop) (As : Option Addr) (ns cs : Nat) (Al : Option Addr) (nl cl : Nat), t13 = .int .i64 v ∧ CutN N wx v1 dg 8 wx v t fs t2 fs2 ∧ N bn ∧ Row wx bn 60 (scs As ns cs Al nl cl) ∧ StN wx N (.agg (scs As ns cs Al nl cl).toArray) (fs.getD 0 []) (fs.drop 1) ∧
    aftB o (fs.getD 0 []) = fs2.getD 0 [] ∧ aftL o (fs.drop 1) = fs2.drop 1 ∧ fs2.length ≤ 43 ∧ fs2 ≠ [] ∧ Below v1.heap.size v1 wx ∧ (∀ k, N k → v1.heap.size ≤ k)
def K3 (v1 : World) (dg t bn : Nat) (fs : List (List UInt8)) (v : Int) (t2 : Nat) (fs2 : List (List UInt8)) (wx : World) : Prop :=
  ∃ (N : Nat → Prop) (As : Option Addr) (ns cs : Nat) (Al : Option Addr) (nl cl : Nat) (nb : List UInt8) (nL : List (List UInt8)), CutN N wx v1 dg 8 wx v t fs t2 fs2 ∧ N bn ∧ Row wx bn 60 (scs As ns cs Al nl cl) ∧ StN wx N (.agg (scs As ns cs Al nl cl).toArray) nb nL ∧
    ((v = 0 ∧ nb = fs2.getD 0 [] ∧ nL = fs2.drop 1) ∨ (v ≠ 0 ∧ nb = fs.getD 0 [] ∧ nL = fs.drop 1)) ∧ Below v1.heap.size v1 wx ∧ (∀ k, N k → v1.heap.size ≤ k)
def K5 (v1 : World) (dg tC bg : Nat) (wx : World) : Prop :=
  ∃ (F : Nat → Prop) (d : DM) (fs : List (List UInt8)) (N : Nat → Prop) (As : Option Addr) (ns cs : Nat) (Al : Option Addr) (nl cl : Nat), Dk wx F dg d ∧ Lies0 d tC 8 fs ∧ (∀ k, F k → v1.heap.size ≤ k) ∧ Below v1.heap.size v1 wx ∧ NF N wx F wx ∧ N bg ∧ Row wx bg 60 (scs As ns cs Al nl cl) ∧ StN wx N (.agg (scs As ns cs Al nl cl).toArray) (fs.getD 0 []) (fs.drop 1) ∧ fs.length ≤ 44 ∧ fs ≠ []
theorem k5_aft {N : Nat → Prop} {v1 : World} {dg tC : Nat} {W W5 W6 : World} {F : Nat → Prop} {d : DM} {fs : List (List UInt8)} {bg : Nat} {c : List Value} {As : Option Addr} {ns cs : Nat} {Al : Option Addr} {nl cl : Nat} (h1 : Dk W F dg d) (hl : Lies0 d tC 8 fs) (hF : ∀ k, F k → v1.heap.size ≤ k) (hB : Below v1.heap.size v1 W) (hn : ∀ k, N k → ¬ F k) (hnb : N bg) (hlo : v1.heap.size ≤ bg) (hr : Row W bg 60 c) (hb : Below W.heap.size W W5)
    (hs : StN W5 (N2 W N) (.agg (scs As ns cs Al nl cl).toArray) (fs.getD 0 []) (fs.drop 1)) (hr6 : Row W6 bg 60 (scs As ns cs Al nl cl)) (hg : W5.grownBy W6 (some bg)) (hlen : fs.length ≤ 44) (hne : fs ≠ []) : K5 v1 dg tC bg W6 := by
  have hr5 : Row W5 bg 60 c := hr.below hb hr.lt
  refine ⟨F, d, fs, fun k => N2 W N k ∧ k < W5.heap.size, As, ns, cs, Al, nl, cl, (h1.below hb).grown hr5 (by decide) (by decide) (by decide) hg, hl, hF, (hB.trans (hb.mono hB.size)).grown hg (Nat.le_trans hB.size hb.size) (fun q e => by have := Option.some.inj e; omega), ⟨fun _ _ => rfl, fun k hk => Nat.lt_of_lt_of_le hk.2 hg.size, fun k hk hf => ?_⟩, ⟨.inl hnb, hr5.lt⟩, hr6, stn_grown hs.tight hr5 hg, hlen, hne⟩
  rcases hk.1 with h | h
  · exact hn k h hf
  · have := h1.1.2 k hf; omega
theorem gd0 {fs : List (List UInt8)} {b : List UInt8} (h : fs ≠ []) : (fs ++ [b]).getD 0 [] = fs.getD 0 [] := by
  cases fs with
  | nil => exact absurd rfl h
  | cons x l => rfl
theorem dr1 {fs : List (List UInt8)} {b : List UInt8} (h : fs ≠ []) : (fs ++ [b]).drop 1 = fs.drop 1 ++ [b] := by
  cases fs with
  | nil => exact absurd rfl h
  | cons x l => rfl
theorem opl_more {w w' : World} {B : Nat} {A : Option Addr} {os : List OM} (h : Opl w B A os) (hb : Below B w w') {B' : Nat} (hB : B ≤ B') : Opl w' B' A os := fun hp => by
  obtain ⟨b, o, e, hlt, hat⟩ := (h.below hb) hp
  exact ⟨b, o, e, by omega, hat⟩
set_option maxHeartbeats 16000000 in
theorem walk (A0 : Option Addr) (n0 c0 : Nat) (os : List OM) (oc : OM) (A2 : Option Addr) (n2 c2 : Nat) (os2 : List OM) (w : World) (hl0 : os.length = n0) (hlc0 : n0 ≤ c0) (hn0 : A0 = none → c0 = 0) (hm0 : c0 ≤ maxLen) (ho0 : Opl w w.heap.size A0 os) (hoc : OpOk w oc)
    (hl2 : os2.length = n2) (hm2 : n2 ≤ 9223372036854775807) (ho2 : Opl w w.heap.size A2 os2) (hk2 : ∀ o ∈ os2, OpOk w o) :
    Calls Try.prog 5 #[.slice A0 n0 c0, oc.val, .slice A2 n2 c2] w fun e w' => e = .returned (.bool true) ∧ Below w.heap.size w w' := by
  have mixed : Try.prog.follows .mixedOrders = true := by kernel_rfl
  have HI4 := Lib.hid fun (k a : Int) (x : UInt8) (A : Option Addr) (n c : Nat) => (show (Try.prog.info? 55).map (·.size) = some ([.int .i64 k, .int .i64 a, .int .u8 (x.toNat : Int), .slice A n c] : List Value).length from size55)
  have HLS := Lib.hid fun (As : Option Addr) (ns cs : Nat) (Al : Option Addr) (nl cl : Nat) (Bs : Option Addr) (ms ds : Nat) (Bl : Option Addr) (ml dl : Nat) => (show (scs As ns cs Al nl cl).length = (scs Bs ms ds Bl ml dl).length from rfl)
  have HI2 := Lib.hid fun (As : Option Addr) (ns cs : Nat) (Al : Option Addr) (nl cl : Nat) => (show (Try.prog.info? 60).map (·.size) = some (scs As ns cs Al nl cl).length from size60)
  obtain ⟨n, hn⟩ : ∃ n, n = min n0 40 := ⟨_, rfl⟩
  have hn40 : n ≤ 40 := by omega
  have hnl : n ≤ os.length := by omega
  have HFW := Lib.hid (fun W => few_any A0 n0 c0 W hlc0 hn0 hm0)
  rw [← hn] at HFW
  have hnc : n ≤ c0 := by omega
  have HO := Lib.hid ho0
  have HNL := Lib.hid hnl
  have HCU := Lib.hid (And.intro hl2 (And.intro hm2 (And.intro ho2 hk2)))
  have HCO := Lib.hid (fun W => bytes_any oc W)
  have HCK := Lib.hid (fun W => kind_any oc W)
  have HCA := Lib.hid (fun N v b fs W hs hn => afterN_any N v b fs oc W hs hn)
  have HCM : Hid ((opB oc).length ≤ 400) := Lib.hid (by rw [opB_len]; have := (len_lt oc.a).1; omega)
  have HOC := Lib.hid hoc
  obtain ⟨mm, hmm, hmod⟩ := mod25 oc.a
  have hmi : IntKind.i64.wrap (mm : Int) = (mm : Int) := by rw [IntKind.wrap_i64]; omega
  have HMM := Lib.hid (And.intro hmm (And.intro hmod hmi))
  clear ho0 hnl hn hoc hl2 hm2 ho2 hk2 hmm hmod hmi
  obtain ⟨kc, ac, xc, Ac, nc, cc, lc⟩ := oc
  unfold OM.val opv at HCO HCK HCA ⊢
  dsimp only at HCO HCK HCA HMM ⊢
  obtain ⟨w0, hw0⟩ : ∃ w0, w0 = w.alloc (.cells #[.int .i64 kc, .int .i64 ac, .int .u8 (xc.toNat : Int), .slice Ac nc cc] 55) := ⟨_, rfl⟩
  have hr0 : Row w0 w.heap.size 55 [.int .i64 kc, .int .i64 ac, .int .u8 (xc.toNat : Int), .slice Ac nc cc] := by rw [hw0]; exact Row.new w _ _
  have hb0 : Below w.heap.size w w0 := by rw [hw0]; exact (Below.refl _ _).alloc (Nat.le_refl _) _
  have HW0 := Lib.hid hw0
  have hww : w.alloc (.cells #[.int .i64 kc, .int .i64 ac, .int .u8 (xc.toNat : Int), .slice Ac nc cc] 55) = w0 := hw0.symm
  have HR0 := Lib.hid hr0
  have HB0 := Lib.hid hb0
  clear hw0 hr0 hb0
  go_enter Try.func5, Try.ntmps5
  go_wp2_with fail
  refine (wakes_any _).mono ?_
  rintro e w1 ⟨rfl, hb1⟩
  have HR1 := Lib.hid (HR0.out.below hb1 HR0.out.lt)
  have HBW : Hid (∀ W, Below w1.heap.size w1 W → Below w.heap.size w W) := Lib.hid fun W hb => (HB0.out.trans (hb1.mono HB0.out.size)).trans (hb.mono (Nat.le_trans HB0.out.size hb1.size))
  have hw01 : Below w.heap.size w w1 := HB0.out.trans (hb1.mono HB0.out.size)
  clear hb1 hww HW0 HR0 HB0 hw01
  obtain ⟨b3, hb3⟩ : ∃ b3, w.heap.size = b3 := ⟨_, rfl⟩
  have HB3 := Lib.hid hb3
  rw [hb3] at HR1 ⊢
  clear hb3
  go_wp2_with fail
  refine (made_any 8 w1 (by omega) (by omega)).mono ?_
  rintro e w2 ⟨dg, g, F, G, rfl, hd, hlog, hF, hG, hb2⟩
  have HD2 := Lib.hid hd
  have HL2 := Lib.hid hlog
  have HFG2 := Lib.hid (And.intro hF hG)
  have HB2 := Lib.hid hb2
  clear hd hlog hF hG hb2
  go_upto_region 7 with fail
  have hr3 : Row (w2.alloc (.cells #[.slice none 0 0, .slice none 0 0] 60)) w2.heap.size 60 (scs none 0 0 none 0 0) := Row.new w2 _ (scs none 0 0 none 0 0)
  have hba : Below w2.heap.size w2 (w2.alloc (.cells #[.slice none 0 0, .slice none 0 0] 60)) := (Below.refl _ _).alloc (Nat.le_refl _) _
  generalize w2.alloc (.cells #[.slice none 0 0, .slice none 0 0] 60) = w3 at hr3 hba ⊢
  obtain ⟨bn, hbn⟩ : ∃ bn, bn = w2.heap.size := ⟨_, rfl⟩
  rw [← hbn] at hr3 ⊢
  have HT0 : Hid (KJ w1 dg g 0 0 bn [[]] [[]] w3) := Lib.hid ⟨fun k => k = bn, none, 0, 0, none, 0, 0, ⟨⟨F, G, _, HD2.out.below hba, log_below HL2.out hba, HFG2.out.1, fun k hk => ⟨(HFG2.out.2 k hk).1, Nat.lt_of_lt_of_le (HFG2.out.2 k hk).2 hba.size⟩, (form_lies (area := 8) (by omega) (by omega)).2, fun k hk => ⟨fun hf => by have := HD2.out.1.2 k hf; omega, fun hg => by have := (HFG2.out.2 k hg).2; omega, by rw [hk]; exact hr3.lt⟩⟩, hr3, rfl, HB2.out.trans (hba.mono HB2.out.size), by rw [hbn]; exact HB2.out.size, fun k hk => by rw [hk, hbn]; exact HB2.out.size⟩,
    ⟨none, 0, 0, none, 0, rfl, World.ownsRow_nil _ _ _ _, Nat.zero_le _, fun k hk => (by cases hk), FrsN.nil _ _⟩, Nat.le_refl _, Nat.le_refl _, Nat.le_refl _, by simp⟩
  clear hr3 hba hbn HD2 HL2 HFG2 HB2
  go_wp2_with fail
  refine (HFW.out w3).mono ?_
  rintro e wx ⟨rfl, rfl⟩
  go_wp2_with fail
  go_loopw [31] (fun t31 wr => ∃ (r t : Nat) (fs : List (List UInt8)), r ≤ n ∧ t31 = .int .i64 (r : Int) ∧ Hid (KJ w1 dg g r t bn fs fs wr)) (fun t31 _ => n - (intOf t31).toNat)
  case atStart => exact ⟨0, 0, [[]], by omega, rfl, HT0⟩
  case round =>
    obtain ⟨r, t, fs, hr, rfl, HT⟩ := hrel
    clear HT0
    by_cases hlt : r < n
    case neg =>
      have h1 : ¬ (r : Int) < (n : Int) := by omega
      have hr40 : r ≤ 40 := by omega
      have HR2 : Hid (Row wr b3 55 [.int .i64 kc, .int .i64 ac, .int .u8 (xc.toNat : Int), .slice Ac nc cc]) := Lib.hid (HR1.out.below HT.out.hb HR1.out.lt)
      have HLE : Hid (fs ≠ [] ∧ fs.length ≤ 41 ∧ t ≤ 40) := Lib.hid (by obtain ⟨_, _, _, _, _, _, _, _, _, h0, h1, _, h2⟩ := HT.out; exact ⟨h2, by omega, by omega⟩)
      obtain ⟨kq, hkq⟩ : ∃ kq, kindW kc = kq := ⟨_, rfl⟩
      have HKQ := Lib.hid hkq
      rw [hkq] at HCK
      clear hkq HO HNL HFW hnc hlc0 hn0 hm0
      go_wp2_with (first
        | (with_reducible refine Wl.wpList_load_row (op := ⟨some 61, _, _, _, _, _⟩) ?_ 55 (.tmp 4) ?_ b3 0 ?_ [.int .i64 kc, .int .i64 ac, .int .u8 (xc.toNat : Int), .slice Ac nc cc] _ (Row.all HR2.out) Try.underlying55 ?_ (HI4.out _ _ _ _ _ _) ?_))
      all_goals try (first | rfl | (simp; done))
      go_wp2_with fail
      refine (HCK.out wr).mono ?_
      rintro e W1 ⟨rfl, hb1⟩
      have T1 := Lib.hid (HT.out.below hb1)
      have HR3 := Lib.hid (HR2.out.below hb1 HR2.out.lt)
      clear hb1 HT HR2
      go_upto_if 63 with fail
      go_cut [62] from 61 to 87 (fun t62 wx => K1 w w1 dg g r t bn b3 fs ac xc Ac nc cc wx)
      case first =>
        by_cases hk : kq = 1
        · have hkb : ((kq : Int) != 1) = false := by simp [hk]
          have hki : (kq : Int) = 1 := by omega
          have HKF : Hid (kindW kc = 1) := Lib.hid (by rw [HKQ.out, hk])
          clear hk
          go_wp2_with fail
          go_meet
          exact ⟨w1, kc, HBW.out w1 (Below.refl _ _), rfl, HR1.out, .inr HKF.out, T1.out⟩
        · have hkb : ((kq : Int) != 1) = true := by simp; omega
          have hki : ¬ (kq : Int) = 1 := by omega
          have c0 := HR3.out.cell 0
          have f0 := HR3.out.frozen 0
          simp only [List.getElem?_cons_zero] at c0
          clear hk
          go_wp2_with fail
          go_meet
          exact ⟨w1.setCell ⟨b3, 0, none⟩ (.int .i64 0), 0, (HBW.out w1 (Below.refl _ _)).setCell (p := ⟨b3, 0, none⟩) (Nat.le_of_eq HB3.out) _, size_set _ _ _, HR1.out.store 0 (.int .i64 0), .inl (by decide), T1.out.rebase _ HR1.out⟩
      case rest =>
        obtain ⟨v1, k', hv1, hvs, hr1, hkk, hkj⟩ := hcut
        have HV1 := Lib.hid hv1
        have HR := Lib.hid hr1
        have HCO2 : Hid (∀ W, Calls Try.prog 32 #[.agg #[.int .i64 k', .int .i64 ac, .int .u8 (xc.toNat : Int), .slice Ac nc cc]] W fun e w' => MkO W w' (opB ⟨k', ac, xc, Ac, nc, cc, lc⟩) e) := Lib.hid (fun W => bytes_any ⟨k', ac, xc, Ac, nc, cc, lc⟩ W)
        have HCK2 : Hid (∀ W, Calls Try.prog 31 #[.agg #[.int .i64 k', .int .i64 ac, .int .u8 (xc.toNat : Int), .slice Ac nc cc]] W fun e w' => e = .returned (.int .i64 (kindW k' : Int)) ∧ Below W.heap.size W w') := Lib.hid (fun W => kind_any ⟨k', ac, xc, Ac, nc, cc, lc⟩ W)
        have HCA2 : Hid (∀ (N : Nat → Prop) (v : Value) (b : List UInt8) (L : List (List UInt8)) (W : World), StN W N v b L → L.length ≤ 10000 → Calls Try.prog 33 #[v, .agg #[.int .i64 k', .int .i64 ac, .int .u8 (xc.toNat : Int), .slice Ac nc cc]] W fun e w' => AftN W w' N (aftB ⟨k', ac, xc, Ac, nc, cc, lc⟩ b) (aftL ⟨k', ac, xc, Ac, nc, cc, lc⟩ L) e) := Lib.hid (fun N v b L W hs hn => afterN_any N v b L ⟨k', ac, xc, Ac, nc, cc, lc⟩ W hs hn)
        obtain ⟨cb, hcb⟩ : ∃ cb, opB ⟨k', ac, xc, Ac, nc, cc, lc⟩ = cb := ⟨_, rfl⟩
        obtain ⟨kq, hkq⟩ : ∃ kq, kindW k' = kq := ⟨_, rfl⟩
        have HCM2 : Hid (cb.length ≤ 400) := Lib.hid (by rw [← hcb, opB_len]; have := (len_lt ac).1; dsimp only; omega)
        have HAB2 : Hid (∀ b, aftB ⟨k', ac, xc, Ac, nc, cc, lc⟩ b = if kq = 1 then cb else b) := Lib.hid fun b => by unfold aftB; rw [hcb, show kindW (⟨k', ac, xc, Ac, nc, cc, lc⟩ : OM).k = kq from hkq]
        have HAL2 : Hid (∀ L, aftL ⟨k', ac, xc, Ac, nc, cc, lc⟩ L = if kq = 1 then [] else L ++ [cb]) := Lib.hid fun L => by unfold aftL; rw [hcb, show kindW (⟨k', ac, xc, Ac, nc, cc, lc⟩ : OM).k = kq from hkq]
        rw [hcb] at HCO2
        rw [hkq] at HCK2 hkk
        have HKK := Lib.hid hkk
        obtain ⟨N, As, ns, cs, Al, nl, cl, ⟨⟨F, G, d, a1, a2, a3, a4, a5, a9⟩, q1, q2, q3, q4, q5⟩, hst, htr, hlr, hlS, hne⟩ := hkj
        have HD := Lib.hid a1
        have HLG := Lib.hid a2
        have HF := Lib.hid a3
        have HG : Hid (∀ k, G k → v1.heap.size ≤ k) := Lib.hid (fun k hk => (a4 k hk).1)
        have HL := Lib.hid a5
        have HNF : Hid (NF N wc (fun k => F k ∨ G k) wc) := Lib.hid ⟨fun _ _ => rfl, fun k hk => (a9 k hk).2.2, fun k hk hf => hf.elim (a9 k hk).1 (a9 k hk).2.1⟩
        have HNG : Hid (∀ k, N k → ¬ G k) := Lib.hid (fun k hk => (a9 k hk).2.1)
        have HRN := Lib.hid q1
        have HNB := Lib.hid q2
        have HBV := Lib.hid q3
        have HNLO := Lib.hid q5
        have HST := Lib.hid hst
        have HNE := Lib.hid hne
        have HRw := Lib.hid (HR.out.below q3 HR.out.lt)
        have c1 := HRw.out.cell 1
        simp only [List.getElem?_cons_zero, List.getElem?_cons_succ] at c1
        obtain ⟨hmm, hmod, hmi⟩ := HMM.out
        clear hv1 hvs hr1 hkk hcb hkq a1 a2 a3 a4 a5 a9 q1 q2 q3 q4 q5 hst hne hlS HCO HCK HCA HCM HKQ HR1 HBW T1 HR3 HMM
        go_wp2_with fail
        refine (arm_any dg d F (mm : Int) wc HD.out.1 (by omega)).mono ?_
        rintro e W2 ⟨rfl, F2', hd2', hx2, ho2⟩
        obtain ⟨F2, hd2, hff⟩ := dk_min hd2'
        have HD2 := Lib.hid hd2
        have HF2 : Hid (∀ k, F2 k → v1.heap.size ≤ k) := Lib.hid fun k hk => ext_new HBV.out.size hx2 HF.out k (hff k hk)
        have HL2 := Lib.hid (log_off HLG.out HD.out ho2)
        have HB2 := Lib.hid (below_off HBV.out ho2 HF.out)
        have HNF2 : Hid (NF N wc (fun k => F2 k ∨ G k) W2) := Lib.hid (((HNF.out.mono (fun _ h => .inl h)).off ho2 hx2 hff).with_new HNG.out)
        have HR2 := Lib.hid (HR.out.below HB2.out HR.out.lt)
        clear hd2' hx2 ho2 hd2 hff HD HLG HBV HRw HF HNF c1 hmod hmi hmm
        go_wp2_with (first
          | (with_reducible refine Wl.wpList_load_row (op := ⟨some 72, _, _, _, _, _⟩) ?_ 55 (.tmp 4) ?_ b3 0 ?_ [.int .i64 k', .int .i64 ac, .int .u8 (xc.toNat : Int), .slice Ac nc cc] _ (Row.all HR2.out) Try.underlying55 ?_ (HI4.out _ _ _ _ _ _) ?_))
        all_goals try (first | rfl | (simp; done))
        go_wp2_with fail
        refine (HCK2.out W2).mono ?_
        rintro e W3 ⟨rfl, hb3⟩
        have HD3 := Lib.hid (HD2.out.below hb3)
        have HL3 := Lib.hid (log_below HL2.out hb3)
        have HB3v := Lib.hid (HB2.out.trans (hb3.mono HB2.out.size))
        have HNF3 := Lib.hid (HNF2.out.below hb3)
        have HR3 := Lib.hid (HR2.out.below hb3 HR2.out.lt)
        clear hb3 HD2 HL2 HB2 HNF2 HR2
        go_upto_if 74 with fail
        go_cut [13] from 61 to 87 (fun t13 wx => K2 v1 dg t bn fs ⟨k', ac, xc, Ac, nc, cc, lc⟩ t13 wx)
        case first =>
          by_cases hk : kq = 1
          · have hki : (kq : Int) = 1 := by omega
            have hkb : ((kq : Int) == 1) = true := by simp; omega
            have HK1 := Lib.hid hk
            clear hk
            go_wp2_with (first
              | (with_reducible refine Wl.wpList_load_row (op := ⟨some 76, _, _, _, _, _⟩) ?_ 55 (.tmp 4) ?_ b3 0 ?_ [.int .i64 k', .int .i64 ac, .int .u8 (xc.toNat : Int), .slice Ac nc cc] _ (Row.all HR3.out) Try.underlying55 ?_ (HI4.out _ _ _ _ _ _) ?_))
            all_goals try (first | rfl | (simp; done))
            go_wp2_with fail
            refine (HCO2.out W3).mono ?_
            rintro e W4 ⟨g4, rfl, hr4, hg4, hb4⟩
            have BY4 : Hid (By W4 (some ⟨g4, 0, none⟩) cb.length cb.length cb) := Lib.hid (by_of_row hr4 (by have := HCM2.out; omega))
            have HD4 := Lib.hid (HD3.out.below hb4)
            have HL4 := Lib.hid (log_below HL3.out hb4)
            have HB4 := Lib.hid (HB3v.out.trans (hb4.mono HB3v.out.size))
            have HNF4 := Lib.hid (HNF3.out.below hb4)
            clear hr4 hg4 hb4 HD3 HL3 HB3v HNF3 HR3
            go_wp2_with fail
            refine (check_cutn HD4.out HL4.out HF2.out HG.out HL.out (by omega) HB4.out HNF4.out _ _ _ cb BY4.out rfl HCM2.out).mono ?_
            rintro e W5 ⟨v, rfl, hcut, hb5⟩
            obtain ⟨hcn, hsame⟩ := hcut.here
            have HK : Hid (K2 v1 dg t bn fs ⟨k', ac, xc, Ac, nc, cc, lc⟩ (.int .i64 v) W5) := Lib.hid ⟨v, (t + 1), [cb], N, As, ns, cs, Al, nl, cl, rfl, hcn, HNB.out, (hsame bn HNB.out).trans HRN.out, HST.out.keep (fun k hk _ => hsame k hk), by rw [HAB2.out, if_pos HK1.out]; rfl, by rw [HAL2.out, if_pos HK1.out]; rfl, by simp, by simp, hb5, HNLO.out⟩
            clear hcut hcn hsame hb5 HD4 HL4 HB4 HNF4 BY4
            go_wp2_with fail
            go_meet
            exact HK.out
          · have hki : ¬ (kq : Int) = 1 := by omega
            have hkb : ((kq : Int) == 1) = false := by simp; omega
            have HK1 := Lib.hid hk
            clear hk
            go_wp2_with (first
              | (with_reducible refine Wl.wpList_load_row (op := ⟨some 80, _, _, _, _, _⟩) ?_ 55 (.tmp 4) ?_ b3 0 ?_ [.int .i64 k', .int .i64 ac, .int .u8 (xc.toNat : Int), .slice Ac nc cc] _ (Row.all HR3.out) Try.underlying55 ?_ (HI4.out _ _ _ _ _ _) ?_))
            all_goals try (first | rfl | (simp; done))
            go_wp2_with fail
            refine (HCO2.out W3).mono ?_
            rintro e W4 ⟨g4, rfl, hr4, hg4, hb4⟩
            have BY4 : Hid (By W4 (some ⟨g4, 0, none⟩) cb.length cb.length cb) := Lib.hid (by_of_row hr4 (by have := HCM2.out; omega))
            have HD4 := Lib.hid (HD3.out.below hb4)
            have HL4 := Lib.hid (log_below HL3.out hb4)
            have HB4 := Lib.hid (HB3v.out.trans (hb4.mono HB3v.out.size))
            have HNF4 := Lib.hid (HNF3.out.below hb4)
            clear hr4 hg4 hb4 HD3 HL3 HB3v HNF3 HR3
            go_wp2_with fail
            refine (append_cutn HD4.out HL4.out HF2.out HG.out HL.out (by omega) HB4.out HNF4.out _ _ _ cb BY4.out rfl HCM2.out).mono ?_
            rintro e W5 ⟨v, rfl, hcut, hb5⟩
            obtain ⟨hcn, hsame⟩ := hcut.here
            have HK : Hid (K2 v1 dg t bn fs ⟨k', ac, xc, Ac, nc, cc, lc⟩ (.int .i64 v) W5) := Lib.hid ⟨v, t, (fs ++ [cb]), N, As, ns, cs, Al, nl, cl, rfl, hcn, HNB.out, (hsame bn HNB.out).trans HRN.out, HST.out.keep (fun k hk _ => hsame k hk), by rw [HAB2.out, if_neg HK1.out]; exact (gd0 HNE.out).symm, by rw [HAL2.out, if_neg HK1.out]; exact (dr1 HNE.out).symm, by rw [List.length_append]; simp only [List.length_cons, List.length_nil]; omega, by simp, hb5, HNLO.out⟩
            clear hcut hcn hsame hb5 HD4 HL4 HB4 HNF4 BY4
            go_wp2_with fail
            go_meet
            exact HK.out
        case rest =>
          obtain ⟨v, t2, fs2, N, As, ns, cs, Al, nl, cl, rfl, hcn, hnb, hrn, hst, hab, hal, hl2, hne2, hbv, hnlo⟩ := hcut
          have HCN := Lib.hid hcn
          have HNB := Lib.hid hnb
          have HRN := Lib.hid hrn
          have HST := Lib.hid hst
          have HAFT := Lib.hid (And.intro hab hal)
          have HLE2 := Lib.hid (And.intro hl2 hne2)
          have HBV := Lib.hid hbv
          have HNLO := Lib.hid hnlo
          have HRw := Lib.hid (HR.out.below hbv HR.out.lt)
          clear hcn hnb hrn hst hab hal hl2 hne2 hbv hnlo HCO2 HCK2 HCM2 HAB2 HAL2 HKK
          go_upto_if 84 with fail
          go_cut [84] from 83 to 87 (fun t84 wx => K3 v1 dg t bn fs v t2 fs2 wx)
          case first =>
            by_cases hv : v = 0
            case neg =>
              have hvb : (v == 0) = false := by simpa using hv
              have HK : Hid (K3 v1 dg t bn fs v t2 fs2 wc) := Lib.hid ⟨N, As, ns, cs, Al, nl, cl, _, _, HCN.out, HNB.out, HRN.out, HST.out, .inr ⟨hv, rfl, rfl⟩, HBV.out, HNLO.out⟩
              clear HCN HNB HRN HST HBV HNLO
              go_wp2_with fail
              go_meet
              exact HK.out
            subst hv
            go_wp2_with (first
              | (with_reducible refine Wl.wpList_load_row (op := ⟨some 85, _, _, _, _, _⟩) ?_ 60 (.tmp 9) ?_ bn 0 ?_ (scs As ns cs Al nl cl) _ (Row.all HRN.out) Try.underlying60 ?_ (HI2.out _ _ _ _ _ _) ?_)
              | (with_reducible refine Wl.wpList_load_row (op := ⟨some 86, _, _, _, _, _⟩) ?_ 55 (.tmp 4) ?_ b3 0 ?_ [.int .i64 k', .int .i64 ac, .int .u8 (xc.toNat : Int), .slice Ac nc cc] _ (Row.all HRw.out) Try.underlying55 ?_ (HI4.out _ _ _ _ _ _) ?_))
            all_goals try (first | rfl | (simp; done))
            go_wp2_with fail
            refine (HCA2.out N _ _ _ wc HST.out (by have := HLE.out.2.1; rw [List.length_drop]; omega)).mono ?_
            rintro e W5 ⟨va, rfl, hsa, hba⟩
            rw [HAFT.out.1, HAFT.out.2] at hsa
            have SVA := Lib.hid hsa
            obtain ⟨As', ns', cs', Al', cl', hv', _⟩ := hsa
            generalize hnl' : (fs2.drop 1).length = nl' at hv'
            clear hnl'
            subst hv'
            have R105 := Lib.hid (HRN.out.below hba HRN.out.lt)
            have HBA := Lib.hid hba
            clear hba
            go_wp2_with (first
              | (with_reducible refine Wl.wpList_store_whole (op := ⟨none, _, _, _, _, _⟩) ?_ 60 (.tmp 9) (.tmp 87) ?_ bn (scs As' ns' cs' Al' nl' cl') ?_ ?_ 60 (scs As ns cs Al nl cl) R105.out (HLS.out _ _ _ _ _ _ _ _ _ _ _ _) (scs_one _ _ _ _ _ _) (HI2.out _ _ _ _ _ _) ?_))
            all_goals try (first | rfl | (simp; done))
            intro W6 hr6 hg6
            have hx := cutn_aft HCN.out HNB.out HRN.out HNLO.out HBV.out HBA.out SVA.out hr6 hg6
            have HK : Hid (K3 v1 dg t bn fs 0 t2 fs2 W6) := Lib.hid ⟨_, As', ns', cs', Al', nl', cl', _, _, hx.1, hx.2.2.1, hr6, hx.2.1, .inl ⟨rfl, rfl, rfl⟩, hx.2.2.2.2, hx.2.2.2.1⟩
            clear hr6 hg6 hx SVA R105 HBA HCN HNB HRN HST HBV HNLO HRw
            go_wp2_with fail
            go_meet
            exact HK.out
          case rest =>
            obtain ⟨N, As, ns, cs, Al, nl, cl, nb, nL, hcn, hnb, hrn, hst, hnow, hbv, hnlo⟩ := hcut
            obtain ⟨d6, F6, hd6, hf6, hnf6, hp6, hc6⟩ := hcn
            obtain ⟨y1, y2, y3⟩ := hc6 lc
            have hrel : ∃ tC fC, Shows (d6.crashM lc).sec tC 8 fC ∧ fC.length ≤ 43 ∧ fC ≠ [] ∧ nL.length ≤ 43 ∧ ((nb = fC.getD 0 [] ∧ nL = fC.drop 1) ∨ (v = 9 ∧ aftB ⟨k', ac, xc, Ac, nc, cc, lc⟩ nb = fC.getD 0 [] ∧ aftL ⟨k', ac, xc, Ac, nc, cc, lc⟩ nL = fC.drop 1)) := by
              have l1 := HLE.out
              have l2 := HLE2.out
              rcases y3 with ⟨hv, hs⟩ | ⟨hv, hs⟩
              · rcases hnow with ⟨hv0, _⟩ | ⟨_, h1, h2⟩
                · exact absurd hv0 hv
                · exact ⟨t, fs, hs, by omega, l1.1, by rw [h2, List.length_drop]; omega, .inl ⟨h1, h2⟩⟩
              · rcases hnow with ⟨hv0, h1, h2⟩ | ⟨hv0, h1, h2⟩
                · exact ⟨t2, fs2, hs, l2.1, l2.2, by rw [h2, List.length_drop]; omega, .inl ⟨h1, h2⟩⟩
                · exact ⟨t2, fs2, hs, l2.1, l2.2, by rw [h2, List.length_drop]; omega, .inr ⟨hv.resolve_left hv0, by rw [h1]; exact HAFT.out.1, by rw [h2]; exact HAFT.out.2⟩⟩
            obtain ⟨tC, fC, hsh, hlC, hneC, hlN, hrel⟩ := hrel
            obtain ⟨C, hC⟩ : ∃ C, d6.crashM lc = C := ⟨_, rfl⟩
            rw [hC] at y1 y2 hsh
            have HD6 := Lib.hid hd6
            have HF6 := Lib.hid hf6
            have HNF6 := Lib.hid hnf6
            have HP6 := Lib.hid hp6
            have HCC := Lib.hid (And.intro y1 (And.intro y2 hsh))
            have HCE := Lib.hid hC
            have HLC := Lib.hid (And.intro hlC (And.intro hneC hlN))
            have HREL := Lib.hid hrel
            have HNB := Lib.hid hnb
            have HRN := Lib.hid hrn
            have HSTN := Lib.hid hst
            have HBV := Lib.hid hbv
            have HRw := Lib.hid (HR.out.below hbv HR.out.lt)
            obtain ⟨hq1, hq2, hq3, hq4⟩ : lc.length = nc ∧ Vs w w.heap.size Ac (bools lc) ∧ (Ac = none → cc = 0) ∧ nc ≤ 140737488351232 := ⟨HOC.out.len, HOC.out.vs, HOC.out.nil, HOC.out.most⟩
            clear hd6 hf6 hnf6 hp6 hc6 y1 y2 y3 hsh hlC hneC hlN hrel hC hnb hrn hst hbv hnow hnlo HAFT HLE2 HOC
            have c3 : (wc.alloc (.cells #[] 4)).cell? ⟨b3, 3, none⟩ = some (.slice Ac nc cc) := (HRw.out.alloc _).cell 3
            obtain ⟨i0, hi0, hz0, hz1, hz2⟩ := info_parts info4
            have HI := Lib.hid hi0
            have HZ0 := Lib.hid hz0
            have HZ1 := Lib.hid hz1
            have HZ2 := Lib.hid hz2
            have OWN0 : Hid ((wc.alloc (.cells #[] 4)).ownsRow wc.heap.size 4 1 (.slice (some ⟨wc.heap.size, 0, none⟩) 0 0) 0 []) := Lib.hid (World.ownsRow_made wc #[] 0 (Nat.le_refl _) (Nat.zero_le _) rfl)
            have hbww : Below w.heap.size w wc := HV1.out.trans (HBV.out.mono HV1.out.size)
            have HVS : Hid (Vs (wc.alloc (.cells #[] 4)) w.heap.size Ac (bools lc)) := Lib.hid (hq2.below (hbww.alloc hbww.size _))
            have HLCC : Hid ((bools lc).length = nc) := Lib.hid (by rw [bools, List.length_map]; exact hq1)
            have HQ1 := Lib.hid hq1
            have HAC := Lib.hid hq3
            clear hi0 hz0 hz1 hz2 hq1 hq2 hq3 hbww
            go_wp2_with (first
              | (with_reducible refine wpList_append_vs (o := ⟨some 92, _, _, _, _, _⟩) ?_ (.tmp 89) (.tmp 91) 53 ?_ wc.heap.size 4 i0 (.bool false) Try.underlying53 HI.out HZ0.out HZ1.out HZ2.out ?_ (.slice (some ⟨wc.heap.size, 0, none⟩) 0 0) 0 [] ?_ OWN0.out Ac nc cc (bools lc) ?_ HLCC.out w.heap.size HVS.out bools_one HAC.out ?_ ?_ ?_))
            all_goals try (first | rfl | omega | (simp; done))
            intro v' W5 hown5 hg5
            have hown6 : W5.ownsRow wc.heap.size 4 1 v' nc (bools lc) := by simpa using hown5
            obtain ⟨A', c', rfl, _, _, hv5, hba5⟩ := own_vs hown6
            have hb5 : Below wc.heap.size wc W5 := ((Below.refl _ _).alloc (Nat.le_refl _) _).grown hg5 (by simp) (fun k e => Nat.le_of_eq (Option.some.inj e))
            have HV5 := Lib.hid hv5
            have HFA : Hid (∀ b o s, A' = some ⟨b, o, s⟩ → ¬ F6 b) := Lib.hid fun b o s e hf => by have := hba5 b o s e; have := HD6.out.1.2 b hf; omega
            have HD65 := Lib.hid (HD6.out.below hb5)
            have HB5 := Lib.hid (HBV.out.trans (hb5.mono HBV.out.size))
            have HNF5 := Lib.hid (HNF6.out.below hb5)
            clear hown5 hg5 hown6 hv5 hba5 hb5 HD6 HBV HRw c3 OWN0 HVS HI HZ0 HZ1 HZ2 HLCC HAC HNF6
            go_wp2_with fail
            refine (crash_any dg d6 F6 A' nc c' lc W5 HD65.out.1 (by have := HP6.out; omega) HQ1.out HV5.out HFA.out).mono ?_
            rintro e W6 ⟨rfl, F7', hd7', hx7, ho7⟩
            obtain ⟨F7, hd7, hf7⟩ := dk_min hd7'
            rw [HCE.out] at hd7
            have HOK : Hid (OKn N wc v1 dg 8 tC fC W6) := Lib.hid ⟨F7, C, hd7, HCC.out.1, HCC.out.2.1, HCC.out.2.2, fun k hk => ext_new HB5.out.size hx7 HF6.out k (hf7 k hk), below_off HB5.out ho7 HF6.out, HNF5.out.off ho7 hx7 hf7⟩
            have HOPD := Lib.hid (opened_n W6 HOK.out os2 A2 n2 c2 HCU.out.1 HCU.out.2.1 (opl_more HCU.out.2.2.1 HV1.out HV1.out.size) (fun o ho => (HCU.out.2.2.2 o ho).below HV1.out))
            clear hd7' hx7 ho7 hd7 hf7 HD65 HB5 HFA HV5 HF6 HCC HP6 HNF5 HCE HQ1 HCU HOK
            go_wp2_with fail
            refine HOPD.out.mono ?_
            rintro e W7 ⟨p, rfl, hp⟩
            obtain ⟨g8, F8, G8, d8, rfl, hd8, hl8, hcs8, hpe8, hsh8, hcl8, hF8, hG8, hb8, hnf8⟩ := hp
            have HD8 := Lib.hid hd8
            have HL8 := Lib.hid (Wl.tight hl8)
            have HS8 := Lib.hid (And.intro hcs8 (And.intro hpe8 (And.intro hsh8 hcl8)))
            have HF8 := Lib.hid hF8
            have HB8 := Lib.hid hb8
            have HV17 : Hid (v1.heap.size ≤ W7.heap.size) := Lib.hid hb8.size
            have RN7 := Lib.hid (hnf8.row HNB.out HRN.out)
            have SN7 := Lib.hid (hnf8.stn HSTN.out)
            have RO7 := Lib.hid (HR.out.below hb8 HR.out.lt)
            clear hd8 hl8 hcs8 hpe8 hsh8 hcl8 hF8 hG8 hb8 hnf8 HOPD HRN HSTN
            go_wp2_with fail
            refine (told_any g8 dg 8 tC fC false _ W7 HL8.out (fun k hk => hk.2) HLC.out.2.1 (by have := HLC.out.1; omega)).mono ?_
            rintro e W8 ⟨v8, rfl, hst8, hb⟩
            have SG8 := Lib.hid hst8
            obtain ⟨Ag, ng, cg, Bg, dl, hv8, _⟩ := hst8
            generalize hml : (fC.drop 1).length = ml at hv8
            clear hml
            subst hv8
            have HB78 := Lib.hid hb
            clear hb
            go_wp2_with (first
              | (with_reducible refine Wl.wpList_store_whole (op := ⟨none, _, _, _, _, _⟩) ?_ 60 (.tmp 15) (.tmp 101) ?_ W8.heap.size (scs Ag ng cg Bg ml dl) ?_ ?_ 60 (scs none 0 0 none 0 0) ?hrow (HLS.out _ _ _ _ _ _ _ _ _ _ _ _) (scs_one _ _ _ _ _ _) (HI2.out _ _ _ _ _ _) ?_))
            case hrow => exact Row.new W8 _ (scs none 0 0 none 0 0)
            all_goals try (first | rfl | (simp; done))
            intro W9 hr10 hg2
            have hb2 : Below W8.heap.size W8 W9 := ((Below.refl _ _).alloc (Nat.le_refl _) _).grown hg2 (by simp) (fun k hk => by cases hk; exact Nat.le_refl _)
            obtain ⟨bg, hbg⟩ : ∃ bg, W8.heap.size = bg := ⟨_, rfl⟩
            have HBG := Lib.hid hbg
            rw [hbg] at hr10
            have hb79 := HB78.out.trans (hb2.mono HB78.out.size)
            have RG9 := Lib.hid hr10
            have RN9 := Lib.hid (RN7.out.below hb79 RN7.out.lt)
            have HSTN := Lib.hid (SN7.out.below hb79)
            have SN9 := Lib.hid (SN7.out.below hb79).stv
            have RO9 := Lib.hid (RO7.out.below hb79 RO7.out.lt)
            have SG9 := Lib.hid (SG8.out.below hb2)
            have HB9 := Lib.hid (HB8.out.trans (hb79.mono HB8.out.size))
            have HD9 := Lib.hid (HD8.out.below hb79)
            have HNG : Hid (NF (fun k => W7.heap.size ≤ k ∧ k < W9.heap.size) W9 F8 W9) := Lib.hid ⟨fun _ _ => rfl, fun k hk => hk.2, fun k hk hf => by have := HD8.out.1.2 k hf; omega⟩
            have HNGB : Hid (W7.heap.size ≤ bg ∧ bg < W9.heap.size) := Lib.hid ⟨by rw [← hbg]; exact HB78.out.size, hr10.lt⟩
            have SG9N := Lib.hid (StN.of SG9.out).tight
            have HLG := Lib.hid (And.intro HLC.out.1 HLC.out.2.2)
            clear hr10 hg2 hb2 hb79 SG8 HB78 RN7 SN7 RO7 HB8 HD8
            rw [hbg]
            clear hbg
            go_upto_region 36 with fail
            go_cut [117] from 102 to 117 (fun t117 wx => t117 = .bool false ∧ Below W9.heap.size W9 wx)
            case first =>
              obtain ⟨q, hq⟩ : ∃ q, sameS (fC.getD 0 []) nb (fC.drop 1) nL = q := ⟨_, rfl⟩
              have HSQ := Lib.hid hq
              cases q
              · have hrc : v = 9 ∧ aftB ⟨k', ac, xc, Ac, nc, cc, lc⟩ nb = fC.getD 0 [] ∧ aftL ⟨k', ac, xc, Ac, nc, cc, lc⟩ nL = fC.drop 1 := by
                  rcases HREL.out with ⟨h1, h2⟩ | h
                  · rw [h1, h2] at hq
                    simp [sameS] at hq
                  · exact h
                obtain ⟨rfl, hr1, hr2⟩ := hrc
                have HRELC := Lib.hid (And.intro hr1 hr2)
                clear hq hr1 hr2
                refine wp_region_held_drew (S := fun W => Row W bg 60 (scs Ag ng cg Bg ml dl) ∧ Row W bn 60 (scs As ns cs Al nl cl) ∧ Row W b3 55 [.int .i64 k', .int .i64 ac, .int .u8 (xc.toNat : Int), .slice Ac nc cc]) (by kernel_rfl) ⟨RG9.out, RN9.out, RO9.out⟩ (fun hHeld => ?_)
                have S0 := Lib.hid hHeld
                clear hHeld
                have SB0 : Hid (Below W9.heap.size W9 W9.drew) := Lib.hid (Below.refl _ _).drew
                refine wpAnyH_take (i := 0) (oi := ⟨some 102, _, _, _, _, _⟩) rfl (by kernel_rfl) (by kernel_rfl) (by kernel_rfl) (fun _ _ _ h => h) (yieldsIf_load_mid (by rfl) 60 (.tmp 15) rfl bg 0 ?xkd_1 (scs Ag ng cg Bg ml dl) _ (fun W h => Row.all h.1) Try.underlying60 rfl (HI2.out _ _ _ _ _ _)) S0.out ?rkd_1
                case xkd_1 => first | rfl | (simp [Act.eval, go_sem]; done)
                try simp only [Act.put, List.setIfInBounds_toArray, List.set_cons_zero, List.set_cons_succ]
                refine wpAnyH_take (i := 1) (oi := ⟨some 103, _, _, _, _, _⟩) rfl (by kernel_rfl) (by kernel_rfl) (by kernel_rfl) (fun _ _ _ h => h) (yieldsIf_load_mid (by rfl) 60 (.tmp 9) rfl bn 0 ?xkd_2 (scs As ns cs Al nl cl) _ (fun W h => Row.all h.2.1) Try.underlying60 rfl (HI2.out _ _ _ _ _ _)) S0.out ?rkd_2
                case xkd_2 => first | rfl | (simp [Act.eval, go_sem]; done)
                try simp only [Act.put, List.setIfInBounds_toArray, List.set_cons_zero, List.set_cons_succ]
                refine wpAnyH_ready (rs := [2]) (by kernel_rfl) (by simp) ?_
                refine (AllReadyH.cons rfl (fun K hK => ?_) AllReadyH.nil)
                go_simp
                refine (same_any _ _ _ _ _ _ _ _ W9.drew (SG9.out.below SB0.out) (SN9.out.below SB0.out) (by have := HLG.out.1; rw [List.length_drop]; omega)).mono ?_
                rintro e W36 ⟨rfl, hbs⟩
                rw [HSQ.out]
                have BB36 := Lib.hid (SB0.out.trans (hbs.mono SB0.out.size))
                have RR36 : Hid (Row W36 bg 60 (scs Ag ng cg Bg ml dl) ∧ Row W36 bn 60 (scs As ns cs Al nl cl) ∧ Row W36 b3 55 [.int .i64 k', .int .i64 ac, .int .u8 (xc.toNat : Int), .slice Ac nc cc]) := Lib.hid ⟨RG9.out.below BB36.out RG9.out.lt, RN9.out.below BB36.out RN9.out.lt, RO9.out.below BB36.out RO9.out.lt⟩
                clear hbs
                refine hK _ _ RR36.out (fun _ => ?_)
                clear hK K
                try simp only [Act.put, List.setIfInBounds_toArray, List.set_cons_zero, List.set_cons_succ]
                refine wpAnyH_take (i := 3) (oi := ⟨some 105, _, _, _, _, _⟩) (v := ?vkd_4) rfl (by kernel_rfl) (by kernel_rfl) (by kernel_rfl) (fun _ _ _ h => h) (Or.inl ⟨by rfl, ?ykd_4⟩) RR36.out ?rkd_4
                case ykd_4 =>
                  rintro w' hSw
                  go_simp
                  try with_reducible rfl
                try simp only [Act.put, List.setIfInBounds_toArray, List.set_cons_zero, List.set_cons_succ]
                refine wpAnyH_take (i := 4) (oi := ⟨some 106, _, _, _, _, _⟩) (v := ?vkd_5) rfl (by kernel_rfl) (by kernel_rfl) (by kernel_rfl) (fun _ _ _ h => h) (Or.inl ⟨by rfl, ?ykd_5⟩) RR36.out ?rkd_5
                case ykd_5 =>
                  rintro w' hSw
                  go_simp
                  try with_reducible rfl
                try simp only [Act.put, List.setIfInBounds_toArray, List.set_cons_zero, List.set_cons_succ]
                refine wpAnyH_take (i := 5) (oi := ⟨some 107, _, _, _, _, _⟩) (v := ?vkd_6) rfl (by kernel_rfl) (by kernel_rfl) (by kernel_rfl) (fun _ _ _ h => h) (Or.inl ⟨by rfl, ?ykd_6⟩) RR36.out ?rkd_6
                case ykd_6 =>
                  rintro w' hSw
                  go_simp
                  try with_reducible rfl
                try simp only [Act.put, List.setIfInBounds_toArray, List.set_cons_zero, List.set_cons_succ]
                refine wpAnyH_take (i := 6) (oi := ⟨some 108, _, _, _, _, _⟩) (v := ?vkd_7) rfl (by kernel_rfl) (by kernel_rfl) (by kernel_rfl) (fun _ _ _ h => h) (Or.inl ⟨by rfl, ?ykd_7⟩) RR36.out ?rkd_7
                case ykd_7 =>
                  rintro w' hSw
                  go_simp
                  try with_reducible rfl
                try simp only [Act.put, List.setIfInBounds_toArray, List.set_cons_zero, List.set_cons_succ]
                refine wpAnyH_take (i := 7) (oi := ⟨some 109, _, _, _, _, _⟩) (v := ?vkd_8) rfl (by kernel_rfl) (by kernel_rfl) (by kernel_rfl) (fun _ _ _ h => h) (Or.inl ⟨by rfl, ?ykd_8⟩) RR36.out ?rkd_8
                case ykd_8 =>
                  rintro w' hSw
                  go_simp
                  try with_reducible rfl
                try simp only [Act.put, List.setIfInBounds_toArray, List.set_cons_zero, List.set_cons_succ]
                refine wpAnyH_take (i := 8) (oi := ⟨some 110, _, _, _, _, _⟩) rfl (by kernel_rfl) (by kernel_rfl) (by kernel_rfl) (fun _ _ _ h => h) (yieldsIf_load_mid (by rfl) 60 (.tmp 15) rfl bg 0 ?xkd_9 (scs Ag ng cg Bg ml dl) _ (fun W h => Row.all h.1) Try.underlying60 rfl (HI2.out _ _ _ _ _ _)) RR36.out ?rkd_9
                case xkd_9 => first | rfl | (simp [Act.eval, go_sem]; done)
                try simp only [Act.put, List.setIfInBounds_toArray, List.set_cons_zero, List.set_cons_succ]
                refine wpAnyH_take (i := 9) (oi := ⟨some 111, _, _, _, _, _⟩) rfl (by kernel_rfl) (by kernel_rfl) (by kernel_rfl) (fun _ _ _ h => h) (yieldsIf_load_mid (by rfl) 60 (.tmp 9) rfl bn 0 ?xkd_10 (scs As ns cs Al nl cl) _ (fun W h => Row.all h.2.1) Try.underlying60 rfl (HI2.out _ _ _ _ _ _)) RR36.out ?rkd_10
                case xkd_10 => first | rfl | (simp [Act.eval, go_sem]; done)
                try simp only [Act.put, List.setIfInBounds_toArray, List.set_cons_zero, List.set_cons_succ]
                refine wpAnyH_take (i := 10) (oi := ⟨some 112, _, _, _, _, _⟩) rfl (by kernel_rfl) (by kernel_rfl) (by kernel_rfl) (fun _ _ _ h => h) (yieldsIf_load_mid (by rfl) 55 (.tmp 4) rfl b3 0 ?xkd_11 [.int .i64 k', .int .i64 ac, .int .u8 (xc.toNat : Int), .slice Ac nc cc] _ (fun W h => Row.all h.2.2) Try.underlying55 rfl (HI4.out _ _ _ _ _ _)) RR36.out ?rkd_11
                case xkd_11 => first | rfl | (simp [Act.eval, go_sem]; done)
                try simp only [Act.put, List.setIfInBounds_toArray, List.set_cons_zero, List.set_cons_succ]
                refine wpAnyH_ready (rs := [11]) (by kernel_rfl) (by simp) ?_
                refine (AllReadyH.cons rfl (fun K hK => ?_) AllReadyH.nil)
                go_simp
                refine (HCA2.out N _ _ _ W36 (HSTN.out.below BB36.out) (by have := HLG.out.2; omega)).mono ?_
                rintro e W37 ⟨va, rfl, hsa, hba⟩
                rw [HRELC.out.1, HRELC.out.2] at hsa
                have SA37 := Lib.hid hsa.stv
                have BB37 := Lib.hid (BB36.out.trans (hba.mono BB36.out.size))
                have RR37 : Hid (Row W37 bg 60 (scs Ag ng cg Bg ml dl) ∧ Row W37 bn 60 (scs As ns cs Al nl cl) ∧ Row W37 b3 55 [.int .i64 k', .int .i64 ac, .int .u8 (xc.toNat : Int), .slice Ac nc cc]) := Lib.hid ⟨RG9.out.below BB37.out RG9.out.lt, RN9.out.below BB37.out RN9.out.lt, RO9.out.below BB37.out RO9.out.lt⟩
                clear hsa hba RR36
                refine hK _ _ RR37.out (fun _ => ?_)
                clear hK K
                try simp only [Act.put, List.setIfInBounds_toArray, List.set_cons_zero, List.set_cons_succ]
                refine wpAnyH_ready (rs := [12]) (by kernel_rfl) (by simp) ?_
                refine (AllReadyH.cons rfl (fun K hK => ?_) AllReadyH.nil)
                go_simp
                refine (same_any _ _ _ _ _ _ _ _ W37 (SG9.out.below BB37.out) SA37.out (by have := HLG.out.1; rw [List.length_drop]; omega)).mono ?_
                rintro e W38 ⟨rfl, hbs⟩
                rw [show ∀ (b : List UInt8) (L : List (List UInt8)), sameS b b L L = true from fun b L => by simp [sameS]]
                have BB38 := Lib.hid (BB37.out.trans (hbs.mono BB37.out.size))
                have RR38 : Hid (Row W38 bg 60 (scs Ag ng cg Bg ml dl) ∧ Row W38 bn 60 (scs As ns cs Al nl cl) ∧ Row W38 b3 55 [.int .i64 k', .int .i64 ac, .int .u8 (xc.toNat : Int), .slice Ac nc cc]) := Lib.hid ⟨RG9.out.below BB38.out RG9.out.lt, RN9.out.below BB38.out RN9.out.lt, RO9.out.below BB38.out RO9.out.lt⟩
                clear hbs RR37
                refine hK _ _ RR38.out (fun _ => ?_)
                clear hK K
                try simp only [Act.put, List.setIfInBounds_toArray, List.set_cons_zero, List.set_cons_succ]
                refine wpAnyH_take (i := 13) (oi := ⟨some 115, _, _, _, _, _⟩) (v := ?vkd_14) rfl (by kernel_rfl) (by kernel_rfl) (by kernel_rfl) (fun _ _ _ h => h) (Or.inl ⟨by rfl, ?ykd_14⟩) RR38.out ?rkd_14
                case ykd_14 =>
                  rintro w' hSw
                  go_simp
                  try with_reducible rfl
                try simp only [Act.put, List.setIfInBounds_toArray, List.set_cons_zero, List.set_cons_succ]
                refine wpAnyH_take (i := 14) (oi := ⟨some 116, _, _, _, _, _⟩) (v := ?vkd_15) rfl (by kernel_rfl) (by kernel_rfl) (by kernel_rfl) (fun _ _ _ h => h) (Or.inl ⟨by rfl, ?ykd_15⟩) RR38.out ?rkd_15
                case ykd_15 =>
                  rintro w' hSw
                  go_simp
                  try with_reducible rfl
                try simp only [Act.put, List.setIfInBounds_toArray, List.set_cons_zero, List.set_cons_succ]
                refine wpAnyH_take (i := 15) (oi := ⟨some 117, _, _, _, _, _⟩) (v := ?vkd_16) rfl (by kernel_rfl) (by kernel_rfl) (by kernel_rfl) (fun _ _ _ h => h) (Or.inl ⟨by rfl, ?ykd_16⟩) RR38.out ?rkd_16
                case ykd_16 =>
                  rintro w' hSw
                  go_simp
                  try with_reducible rfl
                try simp only [Act.put, List.setIfInBounds_toArray, List.set_cons_zero, List.set_cons_succ]
                refine wpAnyH_done (by kernel_rfl) ?_ _
                have BBZ := Lib.hid BB38.out
                clear RR38 BB38 BB37 BB36 SA37
                go_wp2_with fail
                go_meet
                exact ⟨rfl, BBZ.out⟩
              · clear hq
                refine wp_region_held_drew (S := fun W => Row W bg 60 (scs Ag ng cg Bg ml dl) ∧ Row W bn 60 (scs As ns cs Al nl cl) ∧ Row W b3 55 [.int .i64 k', .int .i64 ac, .int .u8 (xc.toNat : Int), .slice Ac nc cc]) (by kernel_rfl) ⟨RG9.out, RN9.out, RO9.out⟩ (fun hHeld => ?_)
                have S0 := Lib.hid hHeld
                clear hHeld
                have SB0 : Hid (Below W9.heap.size W9 W9.drew) := Lib.hid (Below.refl _ _).drew
                refine wpAnyH_take (i := 0) (oi := ⟨some 102, _, _, _, _, _⟩) rfl (by kernel_rfl) (by kernel_rfl) (by kernel_rfl) (fun _ _ _ h => h) (yieldsIf_load_mid (by rfl) 60 (.tmp 15) rfl bg 0 ?xks_1 (scs Ag ng cg Bg ml dl) _ (fun W h => Row.all h.1) Try.underlying60 rfl (HI2.out _ _ _ _ _ _)) S0.out ?rks_1
                case xks_1 => first | rfl | (simp [Act.eval, go_sem]; done)
                try simp only [Act.put, List.setIfInBounds_toArray, List.set_cons_zero, List.set_cons_succ]
                refine wpAnyH_take (i := 1) (oi := ⟨some 103, _, _, _, _, _⟩) rfl (by kernel_rfl) (by kernel_rfl) (by kernel_rfl) (fun _ _ _ h => h) (yieldsIf_load_mid (by rfl) 60 (.tmp 9) rfl bn 0 ?xks_2 (scs As ns cs Al nl cl) _ (fun W h => Row.all h.2.1) Try.underlying60 rfl (HI2.out _ _ _ _ _ _)) S0.out ?rks_2
                case xks_2 => first | rfl | (simp [Act.eval, go_sem]; done)
                try simp only [Act.put, List.setIfInBounds_toArray, List.set_cons_zero, List.set_cons_succ]
                refine wpAnyH_ready (rs := [2]) (by kernel_rfl) (by simp) ?_
                refine (AllReadyH.cons rfl (fun K hK => ?_) AllReadyH.nil)
                go_simp
                refine (same_any _ _ _ _ _ _ _ _ W9.drew (SG9.out.below SB0.out) (SN9.out.below SB0.out) (by have := HLG.out.1; rw [List.length_drop]; omega)).mono ?_
                rintro e W36 ⟨rfl, hbs⟩
                rw [HSQ.out]
                have BB36 := Lib.hid (SB0.out.trans (hbs.mono SB0.out.size))
                have RR36 : Hid (Row W36 bg 60 (scs Ag ng cg Bg ml dl) ∧ Row W36 bn 60 (scs As ns cs Al nl cl) ∧ Row W36 b3 55 [.int .i64 k', .int .i64 ac, .int .u8 (xc.toNat : Int), .slice Ac nc cc]) := Lib.hid ⟨RG9.out.below BB36.out RG9.out.lt, RN9.out.below BB36.out RN9.out.lt, RO9.out.below BB36.out RO9.out.lt⟩
                clear hbs
                refine hK _ _ RR36.out (fun _ => ?_)
                clear hK K
                try simp only [Act.put, List.setIfInBounds_toArray, List.set_cons_zero, List.set_cons_succ]
                refine wpAnyH_take (i := 3) (oi := ⟨some 105, _, _, _, _, _⟩) (v := ?vks_4) rfl (by kernel_rfl) (by kernel_rfl) (by kernel_rfl) (fun _ _ _ h => h) (Or.inl ⟨by rfl, ?yks_4⟩) RR36.out ?rks_4
                case yks_4 =>
                  rintro w' hSw
                  go_simp
                  try with_reducible rfl
                try simp only [Act.put, List.setIfInBounds_toArray, List.set_cons_zero, List.set_cons_succ]
                refine wpAnyH_take (i := 4) (oi := ⟨some 106, _, _, _, _, _⟩) (v := ?vks_5) rfl (by kernel_rfl) (by kernel_rfl) (by kernel_rfl) (fun _ _ _ h => h) (Or.inl ⟨by rfl, ?yks_5⟩) RR36.out ?rks_5
                case yks_5 =>
                  rintro w' hSw
                  go_simp
                  try with_reducible rfl
                try simp only [Act.put, List.setIfInBounds_toArray, List.set_cons_zero, List.set_cons_succ]
                refine wpAnyH_take (i := 5) (oi := ⟨some 107, _, _, _, _, _⟩) (v := undef) rfl (by kernel_rfl) (by kernel_rfl) (by kernel_rfl) (fun _ _ _ h => h) (Or.inr ⟨by rfl, rfl⟩) RR36.out ?rks_6
                try simp only [Act.put, List.setIfInBounds_toArray, List.set_cons_zero, List.set_cons_succ]
                refine wpAnyH_take (i := 6) (oi := ⟨some 108, _, _, _, _, _⟩) (v := undef) rfl (by kernel_rfl) (by kernel_rfl) (by kernel_rfl) (fun _ _ _ h => h) (Or.inr ⟨by rfl, rfl⟩) RR36.out ?rks_7
                try simp only [Act.put, List.setIfInBounds_toArray, List.set_cons_zero, List.set_cons_succ]
                refine wpAnyH_take (i := 7) (oi := ⟨some 109, _, _, _, _, _⟩) (v := undef) rfl (by kernel_rfl) (by kernel_rfl) (by kernel_rfl) (fun _ _ _ h => h) (Or.inr ⟨by rfl, rfl⟩) RR36.out ?rks_8
                try simp only [Act.put, List.setIfInBounds_toArray, List.set_cons_zero, List.set_cons_succ]
                refine wpAnyH_take (i := 8) (oi := ⟨some 110, _, _, _, _, _⟩) (v := undef) rfl (by kernel_rfl) (by kernel_rfl) (by kernel_rfl) (fun _ _ _ h => h) (Or.inr ⟨by rfl, rfl⟩) RR36.out ?rks_9
                try simp only [Act.put, List.setIfInBounds_toArray, List.set_cons_zero, List.set_cons_succ]
                refine wpAnyH_take (i := 9) (oi := ⟨some 111, _, _, _, _, _⟩) (v := undef) rfl (by kernel_rfl) (by kernel_rfl) (by kernel_rfl) (fun _ _ _ h => h) (Or.inr ⟨by rfl, rfl⟩) RR36.out ?rks_10
                try simp only [Act.put, List.setIfInBounds_toArray, List.set_cons_zero, List.set_cons_succ]
                refine wpAnyH_take (i := 10) (oi := ⟨some 112, _, _, _, _, _⟩) (v := undef) rfl (by kernel_rfl) (by kernel_rfl) (by kernel_rfl) (fun _ _ _ h => h) (Or.inr ⟨by rfl, rfl⟩) RR36.out ?rks_11
                try simp only [Act.put, List.setIfInBounds_toArray, List.set_cons_zero, List.set_cons_succ]
                refine wpAnyH_take (i := 11) (oi := ⟨some 113, _, _, _, _, _⟩) (v := undef) rfl (by kernel_rfl) (by kernel_rfl) (by kernel_rfl) (fun _ _ _ h => h) (Or.inr ⟨by rfl, rfl⟩) RR36.out ?rks_12
                try simp only [Act.put, List.setIfInBounds_toArray, List.set_cons_zero, List.set_cons_succ]
                refine wpAnyH_take (i := 12) (oi := ⟨some 114, _, _, _, _, _⟩) (v := undef) rfl (by kernel_rfl) (by kernel_rfl) (by kernel_rfl) (fun _ _ _ h => h) (Or.inr ⟨by rfl, rfl⟩) RR36.out ?rks_13
                try simp only [Act.put, List.setIfInBounds_toArray, List.set_cons_zero, List.set_cons_succ]
                refine wpAnyH_take (i := 13) (oi := ⟨some 115, _, _, _, _, _⟩) (v := undef) rfl (by kernel_rfl) (by kernel_rfl) (by kernel_rfl) (fun _ _ _ h => h) (Or.inr ⟨by rfl, rfl⟩) RR36.out ?rks_14
                try simp only [Act.put, List.setIfInBounds_toArray, List.set_cons_zero, List.set_cons_succ]
                refine wpAnyH_take (i := 14) (oi := ⟨some 116, _, _, _, _, _⟩) (v := undef) rfl (by kernel_rfl) (by kernel_rfl) (by kernel_rfl) (fun _ _ _ h => h) (Or.inr ⟨by rfl, rfl⟩) RR36.out ?rks_15
                try simp only [Act.put, List.setIfInBounds_toArray, List.set_cons_zero, List.set_cons_succ]
                refine wpAnyH_take (i := 15) (oi := ⟨some 117, _, _, _, _, _⟩) (v := ?vks_16) rfl (by kernel_rfl) (by kernel_rfl) (by kernel_rfl) (fun _ _ _ h => h) (Or.inl ⟨by rfl, ?yks_16⟩) RR36.out ?rks_16
                case yks_16 =>
                  rintro w' hSw
                  go_simp
                  try with_reducible rfl
                try simp only [Act.put, List.setIfInBounds_toArray, List.set_cons_zero, List.set_cons_succ]
                refine wpAnyH_done (by kernel_rfl) ?_ _
                have BBZ := Lib.hid BB36.out
                clear RR36 BB36
                go_wp2_with fail
                go_meet
                exact ⟨rfl, BBZ.out⟩
            case rest =>
              rename World => wz
              obtain ⟨rfl, hbz⟩ := hcut
              have HBz := Lib.hid (HB9.out.trans (hbz.mono HB9.out.size))
              have HDz := Lib.hid (HD9.out.below hbz)
              have HNz := Lib.hid (HNG.out.below hbz)
              have RGz := Lib.hid (RG9.out.below hbz RG9.out.lt)
              have SGz := Lib.hid (SG9N.out.below hbz)
              clear hbz HB9 HD9 HNG RG9 SG9N RN9 SN9 RO9 SG9 HSTN HCA2 HREL
              have HOK2 := Lib.hid (open_kkn (N := fun k => W7.heap.size ≤ k ∧ k < W9.heap.size) (w0 := W9) HDz.out HS8.out.1 HS8.out.2.1 HS8.out.2.2.1 HS8.out.2.2.2 HF8.out HBz.out HNz.out)
              go_wp2_with fail
              refine HOK2.out.mono ?_
              rintro e Wo ⟨g9, F9, G9, d9, rfl, hd9, hl9, hlies9, hF9, hG9, hb9, hnf9⟩
              have HD9 := Lib.hid hd9
              have HL9 := Lib.hid (Wl.tight hl9)
              have HLI9 := Lib.hid hlies9
              have HF9 := Lib.hid hF9
              have HG9 := Lib.hid hG9
              have HB9 := Lib.hid hb9
              have HN9 := Lib.hid (hnf9.mono (F2 := fun k => F9 k ∨ (G9 k ∧ k < Wo.heap.size)) (fun k h => h.elim .inl (fun h => .inr h.1)))
              have RGo := Lib.hid (hnf9.row (b := bg) HNGB.out ((hnf9.same bg HNGB.out).symm.trans (show Row Wo bg 60 (scs Ag ng cg Bg ml dl) from (hnf9.same bg HNGB.out).trans (show Row W9 bg 60 (scs Ag ng cg Bg ml dl) from ((HNz.out.same bg HNGB.out).symm.trans RGz.out)))))
              have SGo := Lib.hid (hnf9.stn (SGz.out.keep (fun k hk hlt => (HNz.out.same k hk).symm)))
              clear hd9 hl9 hlies9 hF9 hG9 hb9 hnf9 HOK2 HDz HS8 HF8 HBz HNz RGz SGz
              have HTX : Hid (∀ W, Below Wo.heap.size Wo W → Calls Try.prog 35 #[.pointer (some ⟨g9, 0, none⟩)] W (fun e w' => Tld W w' (fC.getD 0 []) (fC.drop 1) e)) := Lib.hid (fun W hb => told_any g9 dg 8 tC fC false _ W (log_below HL9.out hb) (fun k hk => Nat.lt_of_lt_of_le hk.2 hb.size) HLC.out.2.1 (by have := HLC.out.1; omega))
              have HPE : Hid (∀ W, Below Wo.heap.size Wo W → Calls Try.prog 39 #[.pointer (some ⟨dg, 0, none⟩)] W fun e w' => e = .returned (.slice (some ⟨W.heap.size, 0, none⟩) 0 0) ∧ Below W.heap.size W w') := Lib.hid (fun W hb => by
                have h := pending_any dg d9 F9 W (HD9.out.below hb).1 (by rw [HLI9.out.pend]; exact Nat.zero_le _)
                rw [HLI9.out.pend] at h
                exact h.mono fun e w' hh => ⟨hh.1, hh.2.2⟩)
              go_wp2_with fail
              obtain ⟨qb, hqb⟩ : ∃ qb, opB ⟨0, 60, 9, none, 0, 0, []⟩ = qb := ⟨_, rfl⟩
              have HOBY : Hid (∀ W, Calls Try.prog 32 #[.agg #[.int .i64 0, .int .i64 60, .int .u8 9, .slice none 0 0]] W fun e w' => MkO W w' qb e) := Lib.hid (fun W => by rw [← hqb]; exact bytes_any ⟨0, 60, 9, none, 0, 0, []⟩ W)
              have HOAF : Hid (∀ (N : Nat → Prop) (v : Value) (b : List UInt8) (L : List (List UInt8)) (W : World), StN W N v b L → L.length ≤ 10000 → Calls Try.prog 33 #[v, .agg #[.int .i64 0, .int .i64 60, .int .u8 9, .slice none 0 0]] W fun e w' => AftN W w' N (aftB ⟨0, 60, 9, none, 0, 0, []⟩ b) (aftL ⟨0, 60, 9, none, 0, 0, []⟩ L) e) := Lib.hid (fun N v b L W hs hn => afterN_any N v b L ⟨0, 60, 9, none, 0, 0, []⟩ W hs hn)
              have HOAB : Hid (∀ b, aftB ⟨0, 60, 9, none, 0, 0, []⟩ b = b) := Lib.hid fun b => by unfold aftB; rw [if_neg (by decide)]
              have HOAL : Hid (∀ L, aftL ⟨0, 60, 9, none, 0, 0, []⟩ L = L ++ [qb]) := Lib.hid fun L => by unfold aftL; rw [if_neg (by decide), hqb]
              have HQBL : Hid (qb.length ≤ 400) := Lib.hid (by rw [← hqb, opB_len]; have := (len_lt 60).1; dsimp only; omega)
              have HI4b : Hid ((Try.prog.info? 55).map (·.size) = some ([.int .i64 0, .int .i64 60, .int .u8 9, .slice none 0 0] : List Value).length) := Lib.hid size55
              clear hqb
              refine wp_region_held_drew (S := fun W => Row W bg 60 (scs Ag ng cg Bg ml dl)) (by kernel_rfl) RGo.out (fun hHeld => ?_)
              have S0 := Lib.hid hHeld
              clear hHeld
              have SB0 : Hid (Below Wo.heap.size Wo Wo.drew) := Lib.hid (Below.refl _ _).drew
              refine wpAnyH_take (i := 0) (oi := ⟨some 123, _, _, _, _, _⟩) (v := ?vm_1) rfl (by kernel_rfl) (by kernel_rfl) (by kernel_rfl) (fun _ _ _ h => h) (Or.inl ⟨by rfl, ?ym_1⟩) S0.out ?rm_1
              case ym_1 =>
                rintro w' hSw
                go_simp
                try with_reducible rfl
              try simp only [Act.put, List.setIfInBounds_toArray, List.set_cons_zero, List.set_cons_succ]
              refine wpAnyH_take (i := 1) (oi := ⟨some 124, _, _, _, _, _⟩) (v := ?vm_2) rfl (by kernel_rfl) (by kernel_rfl) (by kernel_rfl) (fun _ _ _ h => h) (Or.inl ⟨by rfl, ?ym_2⟩) S0.out ?rm_2
              case ym_2 =>
                rintro w' hSw
                go_simp
                try with_reducible rfl
              try simp only [Act.put, List.setIfInBounds_toArray, List.set_cons_zero, List.set_cons_succ]
              refine wpAnyH_take (i := 2) (oi := ⟨some 125, _, _, _, _, _⟩) (v := ?vm_3) rfl (by kernel_rfl) (by kernel_rfl) (by kernel_rfl) (fun _ _ _ h => h) (Or.inl ⟨by rfl, ?ym_3⟩) S0.out ?rm_3
              case ym_3 =>
                rintro w' hSw
                go_simp
                try with_reducible rfl
              try simp only [Act.put, List.setIfInBounds_toArray, List.set_cons_zero, List.set_cons_succ]
              refine wpAnyH_take (i := 3) (oi := ⟨some 126, _, _, _, _, _⟩) (v := ?vm_4) rfl (by kernel_rfl) (by kernel_rfl) (by kernel_rfl) (fun _ _ _ h => h) (Or.inl ⟨by rfl, ?ym_4⟩) S0.out ?rm_4
              case ym_4 =>
                rintro w' hSw
                go_simp
                try with_reducible rfl
              try simp only [Act.put, List.setIfInBounds_toArray, List.set_cons_zero, List.set_cons_succ]
              refine wpAnyH_take (i := 5) (oi := ⟨some 128, _, _, _, _, _⟩) rfl (by kernel_rfl) (by kernel_rfl) (by kernel_rfl) (fun _ _ _ h => h) (yieldsIf_load_mid (by rfl) 60 (.tmp 15) rfl bg 0 ?xm_5 (scs Ag ng cg Bg ml dl) _ (fun W h => Row.all h) Try.underlying60 rfl (HI2.out _ _ _ _ _ _)) S0.out ?rm_5
              case xm_5 => first | rfl | (simp [Act.eval, go_sem]; done)
              try simp only [Act.put, List.setIfInBounds_toArray, List.set_cons_zero, List.set_cons_succ]
              refine wpAnyH_ready (rs := [4]) (by kernel_rfl) (by simp) ?_
              refine (AllReadyH.cons rfl (fun K hK => ?_) AllReadyH.nil)
              go_simp
              refine (HTX.out _ SB0.out).mono ?_
              rintro e Wt ⟨vt, rfl, hst, hbt⟩
              have SVT := Lib.hid hst
              have SBT := Lib.hid (SB0.out.trans (hbt.mono SB0.out.size))
              have RST := Lib.hid (RGo.out.below SBT.out RGo.out.lt)
              clear hst hbt
              refine hK _ _ RST.out (fun _ => ?_)
              clear hK K
              try simp only [Act.put, List.setIfInBounds_toArray, List.set_cons_zero, List.set_cons_succ]
              refine wpAnyH_ready (rs := [6]) (by kernel_rfl) (by simp) ?_
              refine (AllReadyH.cons rfl (fun K hK => ?_) AllReadyH.nil)
              go_simp
              refine (same_any _ _ _ _ _ _ _ _ Wt SVT.out (SGo.out.stv.below SBT.out) (by have := HLG.out.1; rw [List.length_drop]; omega)).mono ?_
              rintro e Ws ⟨rfl, hbs⟩
              rw [show ∀ (b : List UInt8) (L : List (List UInt8)), sameS b b L L = true from fun b L => by simp [sameS]]
              have SBS := Lib.hid (SBT.out.trans (hbs.mono SBT.out.size))
              have RSS := Lib.hid (RGo.out.below SBS.out RGo.out.lt)
              clear hbs RST
              refine hK _ _ RSS.out (fun _ => ?_)
              clear hK K
              try simp only [Act.put, List.setIfInBounds_toArray, List.set_cons_zero, List.set_cons_succ]
              refine wpAnyH_take (i := 7) (oi := ⟨some 130, _, _, _, _, _⟩) (v := ?vm_8) rfl (by kernel_rfl) (by kernel_rfl) (by kernel_rfl) (fun _ _ _ h => h) (Or.inl ⟨by rfl, ?ym_8⟩) RSS.out ?rm_8
              case ym_8 =>
                rintro w' hSw
                go_simp
                try with_reducible rfl
              try simp only [Act.put, List.setIfInBounds_toArray, List.set_cons_zero, List.set_cons_succ]
              refine wpAnyH_take (i := 8) (oi := ⟨some 131, _, _, _, _, _⟩) (v := ?vm_9) rfl (by kernel_rfl) (by kernel_rfl) (by kernel_rfl) (fun _ _ _ h => h) (Or.inl ⟨by rfl, ?ym_9⟩) RSS.out ?rm_9
              case ym_9 =>
                rintro w' hSw
                go_simp
                try with_reducible rfl
              try simp only [Act.put, List.setIfInBounds_toArray, List.set_cons_zero, List.set_cons_succ]
              refine wpAnyH_take (i := 9) (oi := ⟨some 132, _, _, _, _, _⟩) (v := ?vm_10) rfl (by kernel_rfl) (by kernel_rfl) (by kernel_rfl) (fun _ _ _ h => h) (Or.inl ⟨by rfl, ?ym_10⟩) RSS.out ?rm_10
              case ym_10 =>
                rintro w' hSw
                go_simp
                try with_reducible rfl
              try simp only [Act.put, List.setIfInBounds_toArray, List.set_cons_zero, List.set_cons_succ]
              refine wpAnyH_take (i := 10) (oi := ⟨some 133, _, _, _, _, _⟩) (v := ?vm_11) rfl (by kernel_rfl) (by kernel_rfl) (by kernel_rfl) (fun _ _ _ h => h) (Or.inl ⟨by rfl, ?ym_11⟩) RSS.out ?rm_11
              case ym_11 =>
                rintro w' hSw
                go_simp
                try with_reducible rfl
              try simp only [Act.put, List.setIfInBounds_toArray, List.set_cons_zero, List.set_cons_succ]
              refine wpAnyH_ready (rs := [11]) (by kernel_rfl) (by simp) ?_
              refine (AllReadyH.cons rfl (fun K hK => ?_) AllReadyH.nil)
              go_simp
              refine (HPE.out _ SBS.out).mono ?_
              rintro e Wp ⟨rfl, hbs⟩
              have SBP := Lib.hid (SBS.out.trans (hbs.mono SBS.out.size))
              have RSP := Lib.hid (RGo.out.below SBP.out RGo.out.lt)
              clear hbs RSS
              refine hK _ _ RSP.out (fun _ => ?_)
              clear hK K
              try simp only [Act.put, List.setIfInBounds_toArray, List.set_cons_zero, List.set_cons_succ]
              refine wpAnyH_take (i := 12) (oi := ⟨some 135, _, _, _, _, _⟩) (v := ?vm_13) rfl (by kernel_rfl) (by kernel_rfl) (by kernel_rfl) (fun _ _ _ h => h) (Or.inl ⟨by rfl, ?ym_13⟩) RSP.out ?rm_13
              case ym_13 =>
                rintro w' hSw
                go_simp
                try with_reducible rfl
              try simp only [Act.put, List.setIfInBounds_toArray, List.set_cons_zero, List.set_cons_succ]
              refine wpAnyH_take (i := 13) (oi := ⟨some 136, _, _, _, _, _⟩) (v := ?vm_14) rfl (by kernel_rfl) (by kernel_rfl) (by kernel_rfl) (fun _ _ _ h => h) (Or.inl ⟨by rfl, ?ym_14⟩) RSP.out ?rm_14
              case ym_14 =>
                rintro w' hSw
                go_simp
                try with_reducible rfl
              try simp only [Act.put, List.setIfInBounds_toArray, List.set_cons_zero, List.set_cons_succ]
              refine wpAnyH_take (i := 14) (oi := ⟨some 137, _, _, _, _, _⟩) (v := ?vm_15) rfl (by kernel_rfl) (by kernel_rfl) (by kernel_rfl) (fun _ _ _ h => h) (Or.inl ⟨by rfl, ?ym_15⟩) RSP.out ?rm_15
              case ym_15 =>
                rintro w' hSw
                go_simp
                try with_reducible rfl
              try simp only [Act.put, List.setIfInBounds_toArray, List.set_cons_zero, List.set_cons_succ]
              refine wpAnyH_done (by kernel_rfl) ?_ _
              have HDp := Lib.hid (HD9.out.below SBP.out)
              have HLp := Lib.hid (log_below HL9.out SBP.out)
              have HBp := Lib.hid (HB9.out.trans (SBP.out.mono HB9.out.size))
              have HNp := Lib.hid (HN9.out.below SBP.out)
              have SGp := Lib.hid (SGo.out.below SBP.out)
              have RGp := Lib.hid RSP.out
              have HSZp : Hid (Wo.heap.size ≤ Wp.heap.size) := Lib.hid SBP.out.size
              have HBGV : Hid (v1.heap.size ≤ bg) := Lib.hid (Nat.le_trans HV17.out HNGB.out.1)
              clear HD9 HL9 HB9 HN9 SGo RGo RSP SBP SBS SBT SB0 HTX HPE SVT
              go_upto_region 42 with fail
              have hr17 : Row (Wp.alloc (.cells #[.int .i64 0, .int .i64 60, .int .u8 9, .slice none 0 0] 55)) Wp.heap.size 55 [.int .i64 0, .int .i64 60, .int .u8 9, .slice none 0 0] := Row.new Wp _ _
              have hba : Below Wp.heap.size Wp (Wp.alloc (.cells #[.int .i64 0, .int .i64 60, .int .u8 9, .slice none 0 0] 55)) := (Below.refl _ _).alloc (Nat.le_refl _) _
              generalize Wp.alloc (.cells #[.int .i64 0, .int .i64 60, .int .u8 9, .slice none 0 0] 55) = Wq at hr17 hba ⊢
              obtain ⟨b17, hb17⟩ : ∃ b, Wp.heap.size = b := ⟨_, rfl⟩
              rw [hb17] at hr17 ⊢
              have HSZ : Hid (Wo.heap.size ≤ b17) := Lib.hid (by rw [← hb17]; exact HSZp.out)
              have HDq := Lib.hid (HDp.out.below hba)
              have HLq := Lib.hid (log_below HLp.out hba)
              have HBq := Lib.hid (HBp.out.trans (hba.mono HBp.out.size))
              have RGq := Lib.hid (RGp.out.below hba RGp.out.lt)
              have RO17 := Lib.hid hr17
              have SGq := Lib.hid ((SGp.out.below hba).more (M := fun k => (W7.heap.size ≤ k ∧ k < W9.heap.size) ∨ k = b17) (fun k hk => .inl hk))
              have HNq : Hid (NF (fun k => (W7.heap.size ≤ k ∧ k < W9.heap.size) ∨ k = b17) Wq (fun k => F9 k ∨ (G9 k ∧ k < Wo.heap.size)) Wq) := Lib.hid ⟨fun _ _ => rfl, fun k hk => by
                rcases hk with hk | rfl
                · exact Nat.lt_of_lt_of_le (HNp.out.lt k hk) hba.size
                · exact hr17.lt, fun k hk hf => by
                rcases hk with hk | rfl
                · exact HNp.out.no k hk hf
                · rcases hf with hf | hf
                  · have := HDp.out.1.2 k hf; omega
                  · have h1 := hf.2; have h2 := HSZ.out; omega⟩
              clear hr17 hba HDp HLp HBp HNp SGp RGp
              go_wp2_with (first
                | (with_reducible refine Wl.wpList_load_row (op := ⟨some 140, _, _, _, _, _⟩) ?_ 55 (.tmp 17) ?_ b17 0 ?_ [.int .i64 0, .int .i64 60, .int .u8 9, .slice none 0 0] _ (Row.all RO17.out) Try.underlying55 ?_ HI4b.out ?_))
              all_goals try (first | rfl | (simp; done))
              go_wp2_with fail
              refine (HOBY.out Wq).mono ?_
              rintro e Wr ⟨g3, rfl, hr3, hg3, hb3⟩
              have BY3 : Hid (By Wr (some ⟨g3, 0, none⟩) qb.length qb.length qb) := Lib.hid (by_of_row hr3 (by have := HQBL.out; omega))
              have HDr := Lib.hid (HDq.out.below hb3)
              have HLr := Lib.hid (log_below HLq.out hb3)
              have HBr := Lib.hid (HBq.out.trans (hb3.mono HBq.out.size))
              have HNr := Lib.hid (HNq.out.below hb3)
              clear hr3 hg3 hb3 HDq HLq HBq HNq
              go_wp2_with fail
              refine (append_kcn HDr.out HLr.out HLI9.out HF9.out (fun k hk => HG9.out k hk.1) (by have := HLC.out.1; omega) HBr.out HNr.out _ _ _ qb BY3.out rfl HQBL.out).mono ?_
              rintro e Ws2 ⟨v2, rfl, F10, d10, fs10, hd10, hlies10, hrel10, hF10, hB10, hn10⟩
              have HD10 := Lib.hid hd10
              have HLI10 := Lib.hid hlies10
              have HF10 := Lib.hid hF10
              have HB10 := Lib.hid hB10
              have HN10 := Lib.hid hn10
              have RG10 := Lib.hid (hn10.row (b := bg) (.inl HNGB.out) RGq.out)
              have RO10 := Lib.hid (hn10.row (b := b17) (.inr rfl) RO17.out)
              have SG10 := Lib.hid (hn10.stn SGq.out)
              clear hd10 hlies10 hF10 hB10 hn10 HDr HLr HBr HNr BY3 RGq RO17 SGq HLI9
              go_upto_if 143 with fail
              go_cut [143] from 138 to 146 (fun t143 wx => K5 v1 dg tC bg wx)
              case first =>
                rcases hrel10 with ⟨rfl, rfl⟩ | ⟨hv2, rfl⟩
                case inr =>
                  have hvb : (v2 == 0) = false := by simpa using hv2
                  have HK : Hid (K5 v1 dg tC bg Ws2) := Lib.hid ⟨F10, d10, fs10, _, Ag, ng, cg, Bg, ml, dl, HD10.out, HLI10.out, HF10.out, HB10.out, ⟨fun _ _ => rfl, HN10.out.lt, HN10.out.no⟩, .inl HNGB.out, RG10.out, SG10.out, by have := HLC.out.1; omega, HLC.out.2.1⟩
                  clear HD10 HLI10 HF10 HB10 HN10 RG10 RO10 SG10
                  go_wp2_with fail
                  go_meet
                  exact HK.out
                go_wp2_with (first
                  | (with_reducible refine Wl.wpList_load_row (op := ⟨some 144, _, _, _, _, _⟩) ?_ 60 (.tmp 15) ?_ bg 0 ?_ (scs Ag ng cg Bg ml dl) _ (Row.all RG10.out) Try.underlying60 ?_ (HI2.out _ _ _ _ _ _) ?_)
                  | (with_reducible refine Wl.wpList_load_row (op := ⟨some 145, _, _, _, _, _⟩) ?_ 55 (.tmp 17) ?_ b17 0 ?_ [.int .i64 0, .int .i64 60, .int .u8 9, .slice none 0 0] _ (Row.all RO10.out) Try.underlying55 ?_ HI4b.out ?_))
                all_goals try (first | rfl | (simp; done))
                go_wp2_with fail
                refine (HOAF.out _ _ _ _ Ws2 SG10.out (by have := HLC.out.1; rw [List.length_drop]; omega)).mono ?_
                rintro e W5 ⟨va, rfl, hsa, hba⟩
                rw [HOAB.out, HOAL.out] at hsa
                have SVA := Lib.hid hsa
                obtain ⟨As', ns', cs', Al', cl', hv', _⟩ := hsa
                generalize hnl' : (fC.drop 1 ++ [qb]).length = nl' at hv'
                clear hnl'
                subst hv'
                have R105 := Lib.hid (RG10.out.below hba RG10.out.lt)
                have HBA := Lib.hid hba
                clear hba
                go_wp2_with (first
                  | (with_reducible refine Wl.wpList_store_whole (op := ⟨none, _, _, _, _, _⟩) ?_ 60 (.tmp 15) (.tmp 146) ?_ bg (scs As' ns' cs' Al' nl' cl') ?_ ?_ 60 (scs Ag ng cg Bg ml dl) R105.out (HLS.out _ _ _ _ _ _ _ _ _ _ _ _) (scs_one _ _ _ _ _ _) (HI2.out _ _ _ _ _ _) ?_))
                all_goals try (first | rfl | (simp; done))
                intro W6 hr6 hg6
                have HK : Hid (K5 v1 dg tC bg W6) := Lib.hid (k5_aft HD10.out HLI10.out HF10.out HB10.out HN10.out.no (.inl HNGB.out) HBGV.out RG10.out HBA.out (by rw [gd0 HLC.out.2.1, dr1 HLC.out.2.1]; exact SVA.out) hr6 hg6 (by have := HLC.out.1; rw [List.length_append]; simp only [List.length_cons, List.length_nil]; omega) (by simp))
                clear hr6 hg6 SVA R105 HBA HD10 HLI10 HF10 HB10 HN10 RG10 RO10 SG10
                go_wp2_with fail
                go_meet
                exact HK.out
              case rest =>
                obtain ⟨F, d, fsZ, N, As, ns, cs, Al, nl, cl, kd1, kd2, kd3, kd4, kd5, kd6, kd7, kd8, kd9, kd10⟩ := hcut
                obtain ⟨c1, c2, c3⟩ := crash_kept kd2 []
                have HD := Lib.hid kd1
                have HF := Lib.hid kd3
                have HB := Lib.hid kd4
                have HN := Lib.hid kd5
                have HNB2 := Lib.hid kd6
                have RG := Lib.hid kd7
                have SG := Lib.hid kd8
                have HLZ := Lib.hid (And.intro kd9 kd10)
                have HCC := Lib.hid (And.intro c1 (And.intro c2 c3))
                have HPD : Hid (d.pend.length ≤ 1000000) := Lib.hid (by rw [kd2.pend]; exact Nat.zero_le _)
                clear kd1 kd2 kd3 kd4 kd5 kd6 kd7 kd8 kd9 kd10 c1 c2 c3
                go_wp2_with fail
                refine (crash_any dg d F none 0 0 [] wc HD.out.1 HPD.out rfl (fun hp => absurd hp (by simp [bools])) (fun b o s e => by cases e)).mono ?_
                rintro e W6 ⟨rfl, F7', hd7', hx7, ho7⟩
                obtain ⟨F7, hd7, hf7⟩ := dk_min hd7'
                have HOK : Hid (OKn N wc v1 dg 8 tC fsZ W6) := Lib.hid ⟨F7, _, hd7, HCC.out.1, HCC.out.2.1, HCC.out.2.2, fun k hk => ext_new HB.out.size hx7 HF.out k (hf7 k hk), below_off HB.out ho7 HF.out, HN.out.off ho7 hx7 hf7⟩
                clear hd7' hx7 ho7 hd7 hf7 HD HF HB HN HCC HPD
                go_wp2_with fail
                refine (open_kcn HOK.out).mono ?_
                rintro e Wz ⟨p, rfl, hp⟩
                obtain ⟨gz, Fz, Gz, dz, rfl, hdz, hlz, hcsz, hpez, hshz, hclz, hFz, hGz, hbz, hnfz⟩ := hp
                have HLz := Lib.hid (Wl.tight hlz)
                have HBz := Lib.hid hbz
                have RGz := Lib.hid (hnfz.row HNB2.out RG.out)
                have SGz := Lib.hid (hnfz.stn SG.out).stv
                clear hdz hlz hcsz hpez hshz hclz hFz hGz hbz hnfz HOK RG SG
                have HTX : Hid (∀ W, Below Wz.heap.size Wz W → Calls Try.prog 35 #[.pointer (some ⟨gz, 0, none⟩)] W (fun e w' => Tld W w' (fsZ.getD 0 []) (fsZ.drop 1) e)) := Lib.hid (fun W hb => told_any gz dg 8 tC fsZ false _ W (log_below HLz.out hb) (fun k hk => Nat.lt_of_lt_of_le hk.2 hb.size) HLZ.out.2 (by have := HLZ.out.1; omega))
                clear HLz
                go_wp2_with fail
                refine wp_region_held_drew (S := fun W => Row W bg 60 (scs As ns cs Al nl cl)) (by kernel_rfl) RGz.out (fun hHeld => ?_)
                have S0 := Lib.hid hHeld
                clear hHeld
                have SB0 : Hid (Below Wz.heap.size Wz Wz.drew) := Lib.hid (Below.refl _ _).drew
                refine wpAnyH_take (i := 0) (oi := ⟨some 154, _, _, _, _, _⟩) (v := ?vz_1) rfl (by kernel_rfl) (by kernel_rfl) (by kernel_rfl) (fun _ _ _ h => h) (Or.inl ⟨by rfl, ?yz_1⟩) S0.out ?rz_1
                case yz_1 =>
                  rintro w' hSw
                  go_simp
                  try with_reducible rfl
                try simp only [Act.put, List.setIfInBounds_toArray, List.set_cons_zero, List.set_cons_succ]
                refine wpAnyH_take (i := 1) (oi := ⟨some 155, _, _, _, _, _⟩) (v := ?vz_2) rfl (by kernel_rfl) (by kernel_rfl) (by kernel_rfl) (fun _ _ _ h => h) (Or.inl ⟨by rfl, ?yz_2⟩) S0.out ?rz_2
                case yz_2 =>
                  rintro w' hSw
                  go_simp
                  try with_reducible rfl
                try simp only [Act.put, List.setIfInBounds_toArray, List.set_cons_zero, List.set_cons_succ]
                refine wpAnyH_take (i := 2) (oi := ⟨some 156, _, _, _, _, _⟩) (v := ?vz_3) rfl (by kernel_rfl) (by kernel_rfl) (by kernel_rfl) (fun _ _ _ h => h) (Or.inl ⟨by rfl, ?yz_3⟩) S0.out ?rz_3
                case yz_3 =>
                  rintro w' hSw
                  go_simp
                  try with_reducible rfl
                try simp only [Act.put, List.setIfInBounds_toArray, List.set_cons_zero, List.set_cons_succ]
                refine wpAnyH_take (i := 3) (oi := ⟨some 157, _, _, _, _, _⟩) (v := ?vz_4) rfl (by kernel_rfl) (by kernel_rfl) (by kernel_rfl) (fun _ _ _ h => h) (Or.inl ⟨by rfl, ?yz_4⟩) S0.out ?rz_4
                case yz_4 =>
                  rintro w' hSw
                  go_simp
                  try with_reducible rfl
                try simp only [Act.put, List.setIfInBounds_toArray, List.set_cons_zero, List.set_cons_succ]
                refine wpAnyH_take (i := 5) (oi := ⟨some 159, _, _, _, _, _⟩) rfl (by kernel_rfl) (by kernel_rfl) (by kernel_rfl) (fun _ _ _ h => h) (yieldsIf_load_mid (by rfl) 60 (.tmp 15) rfl bg 0 ?xz_5 (scs As ns cs Al nl cl) _ (fun W h => Row.all h) Try.underlying60 rfl (HI2.out _ _ _ _ _ _)) S0.out ?rz_5
                case xz_5 => first | rfl | (simp [Act.eval, go_sem]; done)
                try simp only [Act.put, List.setIfInBounds_toArray, List.set_cons_zero, List.set_cons_succ]
                refine wpAnyH_ready (rs := [4]) (by kernel_rfl) (by simp) ?_
                refine (AllReadyH.cons rfl (fun K hK => ?_) AllReadyH.nil)
                go_simp
                refine (HTX.out _ SB0.out).mono ?_
                rintro e Wt ⟨vt, rfl, hst, hbt⟩
                have SVT := Lib.hid hst
                have SBT := Lib.hid (SB0.out.trans (hbt.mono SB0.out.size))
                have RST := Lib.hid (RGz.out.below SBT.out RGz.out.lt)
                clear hst hbt
                refine hK _ _ RST.out (fun _ => ?_)
                clear hK K
                try simp only [Act.put, List.setIfInBounds_toArray, List.set_cons_zero, List.set_cons_succ]
                refine wpAnyH_ready (rs := [6]) (by kernel_rfl) (by simp) ?_
                refine (AllReadyH.cons rfl (fun K hK => ?_) AllReadyH.nil)
                go_simp
                refine (same_any _ _ _ _ _ _ _ _ Wt SVT.out (SGz.out.below SBT.out) (by have := HLZ.out.1; rw [List.length_drop]; omega)).mono ?_
                rintro e Ws ⟨rfl, hbs⟩
                rw [show ∀ (b : List UInt8) (L : List (List UInt8)), sameS b b L L = true from fun b L => by simp [sameS]]
                have SBS := Lib.hid (SBT.out.trans (hbs.mono SBT.out.size))
                have RSS := Lib.hid (RGz.out.below SBS.out RGz.out.lt)
                clear hbs RST
                refine hK _ _ RSS.out (fun _ => ?_)
                clear hK K
                try simp only [Act.put, List.setIfInBounds_toArray, List.set_cons_zero, List.set_cons_succ]
                refine wpAnyH_take (i := 7) (oi := ⟨some 161, _, _, _, _, _⟩) (v := ?vz_8) rfl (by kernel_rfl) (by kernel_rfl) (by kernel_rfl) (fun _ _ _ h => h) (Or.inl ⟨by rfl, ?yz_8⟩) RSS.out ?rz_8
                case yz_8 =>
                  rintro w' hSw
                  go_simp
                  try with_reducible rfl
                try simp only [Act.put, List.setIfInBounds_toArray, List.set_cons_zero, List.set_cons_succ]
                refine wpAnyH_take (i := 8) (oi := ⟨some 6, _, _, _, _, _⟩) (v := ?vz_9) rfl (by kernel_rfl) (by kernel_rfl) (by kernel_rfl) (fun _ _ _ h => h) (Or.inl ⟨by rfl, ?yz_9⟩) RSS.out ?rz_9
                case yz_9 =>
                  rintro w' hSw
                  go_simp
                  try with_reducible rfl
                try simp only [Act.put, List.setIfInBounds_toArray, List.set_cons_zero, List.set_cons_succ]
                refine wpAnyH_done (by kernel_rfl) ?_ _
                have HFIN : Hid (Below w.heap.size w Ws) := Lib.hid (HV1.out.trans ((HBz.out.trans (SBS.out.mono HBz.out.size)).mono HV1.out.size))
                clear RSS SBS SBT SB0 HTX SVT
                go_wp2
                go_ret
                exact ⟨rfl, HFIN.out⟩
    have h1 : (r : Int) < (n : Int) := by omega
    have hro : r < os.length := Nat.lt_of_lt_of_le hlt HNL.out
    obtain ⟨bo, oo, rfl, hbo, hat⟩ := HO.out (by omega)
    obtain ⟨o, ho⟩ : ∃ o, os[r] = o := ⟨_, rfl⟩
    have hat2 := hat r o (by rw [List.getElem?_eq_getElem hro, ho])
    have HOA : Hid (wr.rangeAt bo (oo + r * 4) o.cells) := Lib.hid (range_below hat2 (HBW.out wr HT.out.hb) hbo)
    have HKD := Lib.hid (fun W => kind_any o W)
    have HBY := Lib.hid (fun W => bytes_any o W)
    have HAF := Lib.hid (fun N v b fs W hs hn => afterN_any N v b fs o W hs hn)
    have HMO : Hid ((opB o).length ≤ 400) := Lib.hid (by rw [opB_len]; have := (len_lt o.a).1; omega)
    obtain ⟨kd, hkd⟩ : ∃ kd, kindW o.k = kd := ⟨_, rfl⟩
    obtain ⟨ob, hob⟩ : ∃ ob, opB o = ob := ⟨_, rfl⟩
    have HAB : Hid (∀ b, aftB o b = if kd = 1 then ob else b) := Lib.hid fun b => by unfold aftB; rw [hkd, hob]
    have HAL : Hid (∀ L, aftL o L = if kd = 1 then [] else L ++ [ob]) := Lib.hid fun L => by unfold aftL; rw [hkd, hob]
    rw [hob] at HBY HMO
    rw [hkd] at HKD
    clear hat hat2 ho hob hro hbo hkd HCO HCK HCA HCM HOC HMM HR1 HCU
    obtain ⟨k, a, x, Ak, nk, ck, lk⟩ := o
    unfold OM.val opv at HKD HBY HAF
    unfold OM.cells ocs at HOA
    dsimp only at HKD HBY HAF HOA
    have hccc : (0 : Int) ≤ (r : Int) := by omega
    go_wp2_with (first
      | (with_reducible refine Wl.wpList_load_row (op := ⟨some 34, _, _, _, _, _⟩) ?_ 55 (.tmp 33) ?_ bo (oo + r * 4) ?_ [.int .i64 k, .int .i64 a, .int .u8 (x.toNat : Int), .slice Ak nk ck] _ HOA.out Try.underlying55 ?_ (HI4.out _ _ _ _ _ _) ?_))
    all_goals try (first | rfl | (simp; done))
    have hr9 : Row (wr.alloc (.cells #[.int .i64 k, .int .i64 a, .int .u8 (x.toNat : Int), .slice Ak nk ck] 55)) wr.heap.size 55 [.int .i64 k, .int .i64 a, .int .u8 (x.toNat : Int), .slice Ak nk ck] := Row.new wr _ _
    have hb0 : Below wr.heap.size wr (wr.alloc (.cells #[.int .i64 k, .int .i64 a, .int .u8 (x.toNat : Int), .slice Ak nk ck] 55)) := (Below.refl _ _).alloc (Nat.le_refl _) _
    generalize wr.alloc (.cells #[.int .i64 k, .int .i64 a, .int .u8 (x.toNat : Int), .slice Ak nk ck] 55) = W0 at hr9 hb0 ⊢
    obtain ⟨b9, hb9⟩ : ∃ b9, wr.heap.size = b9 := ⟨_, rfl⟩
    rw [hb9] at hr9 ⊢
    have R9 := Lib.hid hr9
    have T0 := Lib.hid (HT.out.add hb0 (Nat.le_of_eq hb9) hr9.lt)
    have HNE : Hid (fs ≠ [] ∧ fs.length ≤ 41) := Lib.hid (by obtain ⟨_, _, _, _, _, _, _, _, _, _, h1, _, h2⟩ := HT.out; exact ⟨h2, by omega⟩)
    clear hb0 hr9 hb9 HOA HT
    go_wp2_with (first
      | (with_reducible refine Wl.wpList_load_row (op := ⟨some 35, _, _, _, _, _⟩) ?_ 55 (.tmp 11) ?_ b9 0 ?_ [.int .i64 k, .int .i64 a, .int .u8 (x.toNat : Int), .slice Ak nk ck] _ (Row.all R9.out) Try.underlying55 ?_ (HI4.out _ _ _ _ _ _) ?_))
    all_goals try (first | rfl | (simp; done))
    go_wp2_with fail
    refine (HKD.out W0).mono ?_
    rintro e W1 ⟨rfl, hb1⟩
    have R91 := Lib.hid (R9.out.below hb1 R9.out.lt)
    have T1 := Lib.hid (T0.out.below hb1)
    clear hb1 R9 T0
    go_upto_block 2 with fail
    go_cut [12] from 36 to 60 (fun t12 wx => ∃ (t : Nat) (fs : List (List UInt8)), KJ w1 dg g (r + 1) t bn fs fs wx)
    case first =>
      by_cases hk01 : kd = 0 ∨ kd = 1
      case neg =>
        have hk0i : ¬ (kd : Int) = 0 := by omega
        have hk1i : ¬ (kd : Int) = 1 := by omega
        have hk0b : ((kd : Int) == 0) = false := by simp; omega
        have hk1b : ((kd : Int) == 1) = false := by simp; omega
        have T2 := Lib.hid (T1.out.kj.more (Nat.le_succ r))
        clear hk01 T1
        go_wp2_with fail
        go_meet
        exact ⟨t, fs, T2.out⟩
      rcases hk01 with hk0 | hk1
      · have hk0i : (kd : Int) = 0 := by omega
        have hk1i : ¬ (kd : Int) = 1 := by omega
        have hk0b : ((kd : Int) == 0) = true := by simp; omega
        have hk1b : ((kd : Int) == 1) = false := by simp; omega
        have HK1 : Hid (¬ kd = 1) := Lib.hid (by omega)
        clear hk0
        go_wp2_with (first
          | (with_reducible refine Wl.wpList_load_row (op := ⟨some 42, _, _, _, _, _⟩) ?_ 55 (.tmp 11) ?_ b9 0 ?_ [.int .i64 k, .int .i64 a, .int .u8 (x.toNat : Int), .slice Ak nk ck] _ (Row.all R91.out) Try.underlying55 ?_ (HI4.out _ _ _ _ _ _) ?_))
        all_goals try (first | rfl | (simp; done))
        go_wp2_with fail
        refine (HKD.out W1).mono ?_
        rintro e W2 ⟨rfl, hb1⟩
        have R92 := Lib.hid (R91.out.below hb1 R91.out.lt)
        have T2 := Lib.hid (T1.out.below hb1)
        clear hb1 R91 T1
        go_wp2_with (first
          | (with_reducible refine Wl.wpList_load_row (op := ⟨some 48, _, _, _, _, _⟩) ?_ 55 (.tmp 11) ?_ b9 0 ?_ [.int .i64 k, .int .i64 a, .int .u8 (x.toNat : Int), .slice Ak nk ck] _ (Row.all R92.out) Try.underlying55 ?_ (HI4.out _ _ _ _ _ _) ?_))
        all_goals try (first | rfl | (simp; done))
        go_wp2_with fail
        refine (HBY.out W2).mono ?_
        rintro e W3 ⟨g3, rfl, hr3, hg3, hb3⟩
        have R93 := Lib.hid (R92.out.below hb3 R92.out.lt)
        have T3 := Lib.hid (T2.out.below hb3)
        have BY3 : Hid (By W3 (some ⟨g3, 0, none⟩) ob.length ob.length ob) := Lib.hid (by_of_row hr3 (by have := HMO.out; omega))
        have SZ3 : Hid (b9 < W3.heap.size) := Lib.hid R93.out.lt
        clear hr3 hg3 hb3 R92 T2
        go_wp2_with fail
        refine (kj_app T3.out (by omega) _ _ _ ob BY3.out rfl HMO.out).mono ?_
        rintro e W4 ⟨v, rfl, h94, hv⟩
        have R94 : Hid (Row W4 b9 55 [.int .i64 k, .int .i64 a, .int .u8 (x.toNat : Int), .slice Ak nk ck]) := Lib.hid (h94.trans R93.out)
        clear h94 T3 BY3 R93
        rcases hv with ⟨hv0, hk⟩ | ⟨hv0, hk⟩
        case inr =>
          have hv0b : (v == 0) = false := by simpa using hv0
          have T4 := Lib.hid hk
          clear hk
          go_wp2_with fail
          go_meet
          exact ⟨_, _, T4.out⟩
        subst hv0
        obtain ⟨N, As, ns, cs, Al, nl, cl, hkp, hst, htr, hlr, hlS, hne⟩ := hk
        have HKP := Lib.hid hkp
        have R10 := Lib.hid hkp.row
        have ST := Lib.hid hst
        have HTR := Lib.hid (And.intro htr (And.intro hlr hne))
        clear hkp hst htr hlr hlS hne
        go_wp2_with (first
          | (with_reducible refine Wl.wpList_load_row (op := ⟨some 52, _, _, _, _, _⟩) ?_ 60 (.tmp 9) ?_ bn 0 ?_ (scs As ns cs Al nl cl) _ (Row.all R10.out) Try.underlying60 ?_ (HI2.out _ _ _ _ _ _) ?_)
          | (with_reducible refine Wl.wpList_load_row (op := ⟨some 53, _, _, _, _, _⟩) ?_ 55 (.tmp 11) ?_ b9 0 ?_ [.int .i64 k, .int .i64 a, .int .u8 (x.toNat : Int), .slice Ak nk ck] _ (Row.all R94.out) Try.underlying55 ?_ (HI4.out _ _ _ _ _ _) ?_))
        all_goals try (first | rfl | (simp; done))
        go_wp2_with fail
        refine (HAF.out N _ _ _ W4 ST.out (by have := HNE.out.2; rw [List.length_drop]; omega)).mono ?_
        rintro e W5 ⟨va, rfl, hsa, hba⟩
        rw [HAB.out, HAL.out, if_neg HK1.out, if_neg HK1.out] at hsa
        have SVA := Lib.hid hsa
        obtain ⟨As', ns', cs', Al', cl', hv', _⟩ := hsa
        generalize hnl' : ((fs.drop 1 ++ [ob])).length = nl' at hv'
        clear hnl'
        subst hv'
        have R105 := Lib.hid (R10.out.below hba R10.out.lt)
        have HBA := Lib.hid hba
        clear hba R10 ST R94
        go_wp2_with (first
          | (with_reducible refine Wl.wpList_store_whole (op := ⟨none, _, _, _, _, _⟩) ?_ 60 (.tmp 9) (.tmp 54) ?_ bn (scs As' ns' cs' Al' nl' cl') ?_ ?_ 60 (scs As ns cs Al nl cl) R105.out (HLS.out _ _ _ _ _ _ _ _ _ _ _ _) (scs_one _ _ _ _ _ _) (HI2.out _ _ _ _ _ _) ?_))
        all_goals try (first | rfl | (simp; done))
        intro W6 hr6 hg6
        have T6 := Lib.hid (kj_aft HKP.out HBA.out rfl (by rw [gd0 HNE.out.1, dr1 HNE.out.1]; exact SVA.out) hr6 hg6 HTR.out.1 HTR.out.2.1 HTR.out.2.2)
        clear hr6 hg6 SVA HKP HBA R105
        go_wp2_with fail
        go_meet
        exact ⟨_, _, T6.out⟩
      · have hk0i : ¬ (kd : Int) = 0 := by omega
        have hk1i : (kd : Int) = 1 := by omega
        have hk0b : ((kd : Int) == 0) = false := by simp; omega
        have hk1b : ((kd : Int) == 1) = true := by simp; omega
        have HK1 : Hid (kd = 1) := Lib.hid (by omega)
        clear hk1
        go_wp2_with (first
          | (with_reducible refine Wl.wpList_load_row (op := ⟨some 42, _, _, _, _, _⟩) ?_ 55 (.tmp 11) ?_ b9 0 ?_ [.int .i64 k, .int .i64 a, .int .u8 (x.toNat : Int), .slice Ak nk ck] _ (Row.all R91.out) Try.underlying55 ?_ (HI4.out _ _ _ _ _ _) ?_))
        all_goals try (first | rfl | (simp; done))
        go_wp2_with fail
        refine (HKD.out W1).mono ?_
        rintro e W2 ⟨rfl, hb1⟩
        have R92 := Lib.hid (R91.out.below hb1 R91.out.lt)
        have T2 := Lib.hid (T1.out.below hb1)
        clear hb1 R91 T1
        go_wp2_with (first
          | (with_reducible refine Wl.wpList_load_row (op := ⟨some 48, _, _, _, _, _⟩) ?_ 55 (.tmp 11) ?_ b9 0 ?_ [.int .i64 k, .int .i64 a, .int .u8 (x.toNat : Int), .slice Ak nk ck] _ (Row.all R92.out) Try.underlying55 ?_ (HI4.out _ _ _ _ _ _) ?_))
        all_goals try (first | rfl | (simp; done))
        go_wp2_with fail
        refine (HBY.out W2).mono ?_
        rintro e W3 ⟨g3, rfl, hr3, hg3, hb3⟩
        have R93 := Lib.hid (R92.out.below hb3 R92.out.lt)
        have T3 := Lib.hid (T2.out.below hb3)
        have BY3 : Hid (By W3 (some ⟨g3, 0, none⟩) ob.length ob.length ob) := Lib.hid (by_of_row hr3 (by have := HMO.out; omega))
        have SZ3 : Hid (b9 < W3.heap.size) := Lib.hid R93.out.lt
        clear hr3 hg3 hb3 R92 T2
        go_wp2_with fail
        refine (kj_chk T3.out (by omega) _ _ _ ob BY3.out rfl HMO.out).mono ?_
        rintro e W4 ⟨v, rfl, h94, hv⟩
        have R94 : Hid (Row W4 b9 55 [.int .i64 k, .int .i64 a, .int .u8 (x.toNat : Int), .slice Ak nk ck]) := Lib.hid (h94.trans R93.out)
        clear h94 T3 BY3 R93
        rcases hv with ⟨hv0, hk⟩ | ⟨hv0, hk⟩
        case inr =>
          have hv0b : (v == 0) = false := by simpa using hv0
          have T4 := Lib.hid hk
          clear hk
          go_wp2_with fail
          go_meet
          exact ⟨_, _, T4.out⟩
        subst hv0
        obtain ⟨N, As, ns, cs, Al, nl, cl, hkp, hst, htr, hlr, hlS, hne⟩ := hk
        have HKP := Lib.hid hkp
        have R10 := Lib.hid hkp.row
        have ST := Lib.hid hst
        have HTR := Lib.hid (And.intro htr (And.intro hlr hne))
        clear hkp hst htr hlr hlS hne
        go_wp2_with (first
          | (with_reducible refine Wl.wpList_load_row (op := ⟨some 52, _, _, _, _, _⟩) ?_ 60 (.tmp 9) ?_ bn 0 ?_ (scs As ns cs Al nl cl) _ (Row.all R10.out) Try.underlying60 ?_ (HI2.out _ _ _ _ _ _) ?_)
          | (with_reducible refine Wl.wpList_load_row (op := ⟨some 53, _, _, _, _, _⟩) ?_ 55 (.tmp 11) ?_ b9 0 ?_ [.int .i64 k, .int .i64 a, .int .u8 (x.toNat : Int), .slice Ak nk ck] _ (Row.all R94.out) Try.underlying55 ?_ (HI4.out _ _ _ _ _ _) ?_))
        all_goals try (first | rfl | (simp; done))
        go_wp2_with fail
        refine (HAF.out N _ _ _ W4 ST.out (by have := HNE.out.2; rw [List.length_drop]; omega)).mono ?_
        rintro e W5 ⟨va, rfl, hsa, hba⟩
        rw [HAB.out, HAL.out, if_pos HK1.out, if_pos HK1.out] at hsa
        have SVA := Lib.hid hsa
        obtain ⟨As', ns', cs', Al', cl', hv', _⟩ := hsa
        generalize hnl' : (([] : List (List UInt8))).length = nl' at hv'
        clear hnl'
        subst hv'
        have R105 := Lib.hid (R10.out.below hba R10.out.lt)
        have HBA := Lib.hid hba
        clear hba R10 ST R94
        go_wp2_with (first
          | (with_reducible refine Wl.wpList_store_whole (op := ⟨none, _, _, _, _, _⟩) ?_ 60 (.tmp 9) (.tmp 54) ?_ bn (scs As' ns' cs' Al' nl' cl') ?_ ?_ 60 (scs As ns cs Al nl cl) R105.out (HLS.out _ _ _ _ _ _ _ _ _ _ _ _) (scs_one _ _ _ _ _ _) (HI2.out _ _ _ _ _ _) ?_))
        all_goals try (first | rfl | (simp; done))
        intro W6 hr6 hg6
        have T6 := Lib.hid (kj_aft HKP.out HBA.out rfl (by exact SVA.out) hr6 hg6 HTR.out.1 HTR.out.2.1 HTR.out.2.2)
        clear hr6 hg6 SVA HKP HBA R105
        go_wp2_with fail
        go_meet
        exact ⟨_, _, T6.out⟩
    case rest =>
      obtain ⟨t2, fs2, hkj⟩ := hcut
      obtain ⟨N, As, ns, cs, Al, nl, cl, hkp, hst, htr, hlr, hlS, hne⟩ := id hkj
      obtain ⟨⟨F, G, d, a1, a2, a3, a4, a5, a9⟩, q1, q2, q3, q4, q5⟩ := id hkp
      have HKJ := Lib.hid hkj
      have R10 := Lib.hid q1
      have ST := Lib.hid hst.stv
      have HLQ : Hid (fs2.length ≤ 42) := Lib.hid (by omega)
      have HTX : Hid (∀ W, Below wc.heap.size wc W → Calls Try.prog 35 #[.pointer (some ⟨g, 0, none⟩)] W (fun e w' => Tld W w' (fs2.getD 0 []) (fs2.drop 1) e)) := Lib.hid (fun W hb => told_any g dg 8 t2 fs2 false G W (log_below a2 hb) (fun k hk => Nat.lt_of_lt_of_le (a4 k hk).2 hb.size) hne (by omega))
      clear hkj hkp hst htr hlr hlS hne a1 a2 a3 a4 a5 a9 q1 q2 q3 q4 q5 HBY HAF HAB HAL HKD
      go_wp2_with fail
      refine wp_region_held_drew (S := fun W => Row W bn 60 (scs As ns cs Al nl cl)) (by kernel_rfl) R10.out (fun hHeld => ?_)
      have S0 := Lib.hid hHeld
      clear hHeld
      have SB0 : Hid (Below wc.heap.size wc wc.drew) := Lib.hid (Below.refl _ _).drew
      refine wpAnyH_take (i := 0) (oi := ⟨some 55, _, _, _, _, _⟩) (v := ?ve_1) rfl (by kernel_rfl) (by kernel_rfl) (by kernel_rfl) (fun _ _ _ h => h) (Or.inl ⟨by rfl, ?ye_1⟩) S0.out ?re_1
      case ye_1 =>
        rintro w' hSw
        go_simp
        try with_reducible rfl
      try simp only [Act.put, List.setIfInBounds_toArray, List.set_cons_zero, List.set_cons_succ]
      refine wpAnyH_take (i := 2) (oi := ⟨some 57, _, _, _, _, _⟩) rfl (by kernel_rfl) (by kernel_rfl) (by kernel_rfl) (fun _ _ _ h => h) (yieldsIf_load_mid (by rfl) 60 (.tmp 9) rfl bn 0 ?xe_2 (scs As ns cs Al nl cl) _ (fun W h => Row.all h) Try.underlying60 rfl (HI2.out _ _ _ _ _ _)) S0.out ?re_2
      case xe_2 => first | rfl | (simp [Act.eval, go_sem]; done)
      try simp only [Act.put, List.setIfInBounds_toArray, List.set_cons_zero, List.set_cons_succ]
      refine wpAnyH_ready (rs := [1]) (by kernel_rfl) (by simp) ?_
      refine (AllReadyH.cons rfl (fun K hK => ?_) AllReadyH.nil)
      go_simp
      refine (HTX.out _ SB0.out).mono ?_
      rintro e Wt ⟨vt, rfl, hst, hbt⟩
      have SVT := Lib.hid hst
      have SBT := Lib.hid (SB0.out.trans (hbt.mono SB0.out.size))
      have RST := Lib.hid (R10.out.below SBT.out R10.out.lt)
      clear hst hbt
      refine hK _ _ RST.out (fun _ => ?_)
      clear hK K
      try simp only [Act.put, List.setIfInBounds_toArray, List.set_cons_zero, List.set_cons_succ]
      refine wpAnyH_ready (rs := [3]) (by kernel_rfl) (by simp) ?_
      refine (AllReadyH.cons rfl (fun K hK => ?_) AllReadyH.nil)
      go_simp
      refine (same_any _ _ _ _ _ _ _ _ Wt SVT.out (ST.out.below SBT.out) (by have := HLQ.out; rw [List.length_drop]; omega)).mono ?_
      rintro e Ws ⟨rfl, hbs⟩
      rw [show ∀ (b : List UInt8) (L : List (List UInt8)), sameS b b L L = true from fun b L => by simp [sameS]]
      have SBS := Lib.hid (SBT.out.trans (hbs.mono SBT.out.size))
      have RSS := Lib.hid (R10.out.below SBS.out R10.out.lt)
      clear hbs
      refine hK _ _ RSS.out (fun _ => ?_)
      clear hK K
      try simp only [Act.put, List.setIfInBounds_toArray, List.set_cons_zero, List.set_cons_succ]
      refine wpAnyH_take (i := 4) (oi := ⟨some 59, _, _, _, _, _⟩) (v := ?ve_5) rfl (by kernel_rfl) (by kernel_rfl) (by kernel_rfl) (fun _ _ _ h => h) (Or.inl ⟨by rfl, ?ye_5⟩) RSS.out ?re_5
      case ye_5 =>
        rintro w' hSw
        go_simp
        try with_reducible rfl
      try simp only [Act.put, List.setIfInBounds_toArray, List.set_cons_zero, List.set_cons_succ]
      refine wpAnyH_done (by kernel_rfl) ?_ _
      have HKN := Lib.hid (HKJ.out.below SBS.out)
      clear HKJ HTX SVT ST RST RSS SBT SBS SB0 R10
      go_wp2_with fail
      go_roundw
      case rel => exact ⟨r + 1, t2, fs2, by omega, by go_num, HKN⟩
      case measure => simp [intOf]; omega

theorem resT_WalKeeps : Try.f5.resultTypes = #[4] := by kernel_rfl
set_option maxRecDepth 100000 in
theorem lifted_WalKeeps (os : Os) (started : os.Started) (H : Type) (enc : TypeId × Value → H) :
    ReturnsInHanded {} Try.checked os 5 .any (Rows.walKeepsSpec.pre6 enc Try.prog Try.f5 Rows.walKeepsRow.domain false) (Rows.walKeepsSpec.post enc Try.prog Try.f5 false true false false) := by
  refine Lift.law_lift (C := Try.checked) (s := Rows.walKeepsSpec) (tb := 4) own laidOut started (by kernel_rfl) Try.func5
    (ChangeSpec.witness6 (enc := enc) (C := Try.checked) false ⟨#[], #[.slice none 0 0, .agg #[.int .i64 0, .int .i64 0, .int .u8 0, .slice none 0 0], .slice none 0 0], []⟩ 8 (by kernel_rfl) (by kernel_rfl) (by kernel_rfl) (by kernel_rfl))
    rfl resT_WalKeeps Try.underlying4 (by
      have hr : ∀ t ∈ ([52, 55, 52] : List TypeId), Try.prog.readableRec t = true ∧ t < Try.prog.types.size := by
        intro t ht
        simp only [List.mem_cons, List.not_mem_nil, or_false] at ht
        rcases ht with rfl | rfl | rfl <;> exact ⟨by kernel_rfl, of_decide_eq_true (by kernel_rfl)⟩
      intro t ht
      exact hr t (by
        have ht' : t ∈ Try.f5.params.toList := ht
        rw [Try.params5] at ht'
        exact ht')) ?_
  intro W base args ds p hval0 hA0 hsz0
  have hval : ∀ (j : Nat) t v, Try.f5.params[j]? = some t → args[j]? = some v → Value.okWide Try.prog W .any base t v := hval0
  have hA : DataW.TrodAll enc Try.prog W 0 (fun _ => true) true Try.f5.params.toList args.toList ds p := hA0
  have hsz : (DataW.weightsEach Try.prog Try.f5.params.toList ds).all (· ≤ reachBytes) = true := hsz0
  clear hval0 hA0 hsz0
  rw [Try.params5] at hA hval hsz
  obtain ⟨v0, vs0, d0, ds0, p0, q0, hargs, rfl, rfl, h0, r0⟩ := trodAll_cons hA
  obtain ⟨v1, vs1, d1, ds1, p1, q1, rfl, rfl, rfl, h1, r1⟩ := trodAll_cons r0
  obtain ⟨v2, vs2, d2, ds2, p2, q2, rfl, rfl, rfl, h2, r2⟩ := trodAll_cons r1
  obtain ⟨rfl, rfl, rfl⟩ := trodAll_nil r2
  obtain rfl : args = #[v0, v1, v2] := by cases args; simp_all
  obtain ⟨A0, n0, c0, os0, rfl, hl0, hlc0, hn0, hm0, ho0, hk0⟩ := open_ops (hval 0 52 v0 rfl rfl) h0 (by rw [List.all_eq_true] at hsz ⊢; intro z hz; exact hsz z (DataW.weights_mem_each (j := 0) (t := 52) (d := d0) rfl rfl z hz))
  obtain ⟨cs1, rfl, _⟩ := okWide_struct Try.underlying55 (hval 1 55 v1 rfl rfl)
  obtain ⟨fuel1, hf1⟩ := h1
  obtain ⟨o1, hcs1, hok1⟩ := open_op hf1 (by rw [List.all_eq_true] at hsz ⊢; intro z hz; exact hsz z (DataW.weights_mem_each (j := 1) (t := 55) (d := d1) rfl rfl z hz))
  have hv1 : Value.agg cs1 = o1.val := by
    have : cs1.toList = o1.cells := by simpa [Value.cells] using hcs1
    show _ = Value.agg (o1.cells).toArray
    rw [← this]
  rw [hv1]
  obtain ⟨A2, n2, c2, os2, rfl, hl2, hlc2, hn2, hm2, ho2, hk2⟩ := open_ops (hval 2 52 v2 rfl rfl) h2 (by rw [List.all_eq_true] at hsz ⊢; intro z hz; exact hsz z (DataW.weights_mem_each (j := 2) (t := 52) (d := d2) rfl rfl z hz))
  exact ⟨rfl, walk A0 n0 c0 os0 o1 A2 n2 c2 os2 W hl0 hlc0 hn0 hm0 ho0 hok1 hl2 (by have hcap := hm2; rw [show maxLen = 9223372036854775807 from rfl] at hcap; omega) ho2 hk2⟩

theorem proved_WalKeeps : Rows.WalKeepsSaid :=
  OpenClaim.holds_of_wide 5 Try.f5 rfl rfl rfl rfl rfl rfl rfl ⟨rfl, rfl, rfl, rfl, rfl⟩ rfl rfl rfl rfl rfl (by kernel_rfl) Try.func5 (by kernel_rfl)
    (of_decide_eq_true (by kernel_rfl)) (by unfold Func.isWrapper; first | (rw [if_pos (by decide +kernel)]; kernel_rfl) | (rw [if_neg (by decide +kernel)]; exact ⟨rfl, rfl⟩))
    (fun os started H enc _ => lifted_WalKeeps os started H enc)
end Go.Proofs.Yteemdjamgbbjhaa.WalKep
