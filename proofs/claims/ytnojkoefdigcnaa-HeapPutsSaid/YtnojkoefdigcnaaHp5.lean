/-
  Heap: what stands in the slots, told by a function over which one ranges.
-/
import Derived.Test.YtnojkoefdigcnaaHp4
import Derived.Test.YtnojkoefdigcnaaRfW
import Derived.Sort.CutIn
import Derived.Test.YtnojkoefdigcnaaRecW
import Derived.LoopTactic
import Derived.Deep.RegionHeld
import Derived.Deep.Cut
import Derived.WalkLawsBesides
namespace Go.Proofs.Ytnojkoefdigcnaa.Hp
set_option maxRecDepth 100000
open Go.RowKit Go.Shelf Go.Proofs.Ytnojkoefdigcnaa.Dsk Go.Proofs.Ytnojkoefdigcnaa.Pg Go.Proofs.Ytnojkoefdigcnaa.Rec Go.Proofs.Ytnojkoefdigcnaa.Wd Go.Proofs.Ytnojkoefdigcnaa.Wi Go.Proofs.Ytnojkoefdigcnaa.Ky Go.Proofs.Ytnojkoefdigcnaa.Oct Go.Proofs.Ytnojkoefdigcnaa.Rec Go.Proofs.Ytnojkoefdigcnaa.Lift

attribute [local go_sem] Oper.semAt_some

theorem items_fn (A : Option Addr) (n c : Nat) (w : World) :
    Calls Try.prog 44 #[.slice A n c] w fun e w' => e = .returned (.func (.func 56) #[] #[.pointer (some ⟨w.heap.size, 0, none⟩)]) ∧ Below w.heap.size w w' ∧ Row w' w.heap.size 44 [.slice A n c] := by
  go_enter Try.func44, Try.ntmps44
  go_wp2
  go_ret
  exact ⟨rfl, (Below.refl _ _).alloc (Nat.le_refl _) _, Row.new _ _ _⟩
def encE (x : EH) : Array Value := #[.agg x.cells.toArray, .int .i64 x.e]
def GH (A B : World) : Prop := Below A.heap.size A B
/-- what the rounds of a range keep: what lies below a block, one block, and pages -/
def KpH (B0 Bf : Nat) (W W' : World) : Prop := (∀ k, (k < B0 ∨ k = Bf ∨ ∃ cs, Row W k 73 cs) → W'.heap[k]? = W.heap[k]?) ∧ W.heap.size ≤ W'.heap.size
theorem KpH.refl (B0 Bf : Nat) (W : World) : KpH B0 Bf W W := ⟨fun _ _ => rfl, Nat.le_refl _⟩
theorem KpH.row {B0 Bf : Nat} {W W' : World} (h : KpH B0 Bf W W') {k : Nat} {cs : List Value} (hr : Row W k 73 cs) : Row W' k 73 cs := (h.1 k (.inr (.inr ⟨cs, hr⟩))).trans hr
theorem KpH.trans {B0 Bf : Nat} {A B C : World} (h : KpH B0 Bf A B) (k : KpH B0 Bf B C) : KpH B0 Bf A C := ⟨fun i hi => (k.1 i (by
  rcases hi with hi | hi | ⟨cs, hi⟩
  · exact .inl hi
  · exact .inr (.inl hi)
  · exact .inr (.inr ⟨cs, h.row hi⟩))).trans (h.1 i hi), Nat.le_trans h.2 k.2⟩
theorem KpH.below {B0 Bf : Nat} {A B : World} (h : Below A.heap.size A B) (h0 : B0 ≤ A.heap.size) (hf : Bf < A.heap.size) : KpH B0 Bf A B := ⟨fun k hk => h.block k (by
  rcases hk with hk | hk | ⟨cs, hk⟩
  · omega
  · omega
  · exact hk.lt), h.size⟩
/-- what is known of an element in its round -/
structure TE (L : List EH) (pre : List EH) (x : EH) (W : World) : Prop where
  at_ : L[pre.length]? = some x
  pre_ : pre = L.take pre.length
def SE (L : List EH) (xs : List EH) (_ : World) : Prop := xs = L
theorem PgAt.kp {B0 Bf : Nat} {W W' : World} {sl : Nat → List UInt8} {s : PS} (h : PgAt W B0 sl s) (hk : KpH B0 Bf W W') : PgAt W' B0 sl s := fun k hk4 =>
  ⟨(h k hk4).len, (h k hk4).cap, (h k hk4).most, (h k hk4).nil, (h k hk4).bs.keep fun b o hb => World.cell?_of_block (a := ⟨b, o, none⟩) (hk.1 b (.inl hb))⟩
/-- a heap's pages, behind a variable -/
structure FH (W : World) (B0 Bf : Nat) (A : Option Addr) (c : Nat) (l : List PX) : Prop where
  cell : W.cell? ⟨Bf, 0, none⟩ = some (.slice A l.length c)
  pgs : Pgs W B0 A l
  l0 : B0 ≤ W.heap.size
  lf : Bf < W.heap.size
theorem Pgs.keep {w w' : World} {B : Nat} {A : Option Addr} {l : List PX} (h : Pgs w B A l) (hk : ∀ k, k < B → w'.heap[k]? = w.heap[k]?) : Pgs w' B A l := by
  have hc : ∀ b o, b < B → w'.cell? ⟨b, o, none⟩ = w.cell? ⟨b, o, none⟩ := fun b o hb => World.cell?_of_block (a := ⟨b, o, none⟩) (hk b hb)
  refine ⟨fun hp => ?_, fun x hx k hk4 => ?_⟩
  · obtain ⟨b, o, rfl, hb, hcs⟩ := h.many hp
    exact ⟨b, o, rfl, hb, fun i x hx j v hj => (hc b _ hb).trans (hcs i x hx j v hj)⟩
  · have := h.at_ x hx k hk4
    exact ⟨this.len, this.cap, this.most, this.nil, this.bs.keep hc⟩
theorem FH.kept {W W' : World} {B0 Bf c : Nat} {A : Option Addr} {l : List PX} (h : FH W B0 Bf A c l) (hk : KpH B0 Bf W W') : FH W' B0 Bf A c l :=
  ⟨(World.cell?_of_block (a := ⟨Bf, 0, none⟩) (hk.1 _ (.inr (.inl rfl)))).trans h.cell, h.pgs.keep fun k hlt => hk.1 k (.inl hlt), Nat.le_trans h.l0 hk.2, Nat.lt_of_lt_of_le h.lf hk.2⟩
theorem pageE_take {l : List PM} {r : Nat} {p : PM} (h : l[r]? = some p) : allE (l.take (r + 1)) = allE (l.take r) ++ pageE p 4 := by
  rw [List.take_succ_eq_append_getElem (List.getElem?_eq_some_iff.1 h).1, (List.getElem?_eq_some_iff.1 h).2]
  simp [allE]
theorem pageE_pre (p : PM) : ∀ (k j : Nat), k ≤ j → pageE p k <+: pageE p j
  | k, 0, h => by
    obtain rfl : k = 0 := by omega
    exact List.prefix_refl _
  | k, j + 1, h => by
    by_cases e : k = j + 1
    · subst e; exact List.prefix_refl _
    · exact (pageE_pre p k j (by omega)).trans (List.prefix_append _ _)
theorem allE_pre {l : List PM} {r : Nat} {p : PM} (h : l[r]? = some p) {k : Nat} (hk : k ≤ 4) : allE (l.take r) ++ pageE p k <+: allE l := by
  have h1 : allE (l.take (r + 1)) <+: allE l := by
    conv => rhs; rw [← List.take_append_drop (r + 1) l]
    unfold allE
    rw [List.flatMap_append]
    exact List.prefix_append _ _
  rw [pageE_take h] at h1
  exact ((List.prefix_append_right_inj _).2 (pageE_pre p k 4 hk)).trans h1
theorem te_of {L pre : List EH} {x : EH} (h : pre ++ [x] <+: L) (W : World) : TE L pre x W := by
  obtain ⟨t, rfl⟩ := h
  exact ⟨by simp, by simp [List.append_assoc]⟩

set_option maxHeartbeats 8000000 in
theorem items_feeds (Bf nn c B0 : Nat) (A : Option Addr) (l : List PX) (w : World) (hnn : 1 ≤ nn) (hl : l.length ≤ 100000) (hF : FH w B0 Bf A c l) (hsl : ∀ x ∈ l, ∀ k, k < 4 → x.s.n k ≤ 140737488355328) :
    Feeds nn Try.prog 56 #[.pointer (some ⟨Bf, 0, none⟩)] encE GH (TE (allE (l.map pmOf))) (fun _ => True) (KpH B0 Bf) (SE (allE (l.map pmOf))) (fun _ _ => True) w := by
  intro yl J Jx W1 hW1 hJ hJx hY hJ0
  have HY := Lib.hid hY
  have HJ := Lib.hid hJ
  have HS := Lib.hid hW1.size
  have hF1 := hF.kept (KpH.below hW1 hF.l0 hF.lf)
  have hc0 := hF1.cell
  have HF := Lib.hid hF1
  have HSL := Lib.hid hsl
  have HI0 : Hid (J (allE ((l.map pmOf).take 0)) W1 ∧ KpH B0 Bf W1 W1) := Lib.hid ⟨hJ0, KpH.refl _ _ _⟩
  clear hY hJ hJx hF1 hF hJ0 hW1 hsl
  obtain ⟨ms, hms⟩ : ∃ ms, ms = l.map pmOf := ⟨_, rfl⟩
  have HMS := Lib.hid hms
  rw [← hms] at HY HI0 ⊢
  clear hms
  refine callsIn_of_wp Try.func56 rfl trivial ?_ rfl
  simp only [Try.ntmps56, List.size_toArray, List.length_cons, List.length_nil, Nat.reduceAdd, Nat.reduceSub, Array.replicate_succ, Array.replicate_zero, List.push_toArray, List.append_toArray, List.nil_append, List.cons_append]
  gi_wp2
  gi_loopw [12] (fun t wr => ∃ r : Nat, r ≤ l.length ∧ t = .int .i64 (r : Int) ∧ Hid (J (allE (ms.take r)) wr ∧ KpH B0 Bf W1 wr)) (fun t _ => l.length - (intOf t).toNat)
  case atStart => exact ⟨0, by omega, rfl, HI0⟩
  case round =>
    obtain ⟨r, hr, rfl, HI⟩ := hrel
    clear HI0 hc0
    by_cases hlt : r < l.length
    case neg =>
      have h1 : ¬ (r : Int) < (l.length : Int) := by omega
      obtain rfl : r = l.length := by omega
      have HX : Hid (J (allE ms) wr) := Lib.hid (by
        have := HI.out.1
        rwa [List.take_of_length_le (by rw [HMS.out, List.length_map]; exact Nat.le_refl _)] at this)
      clear HI
      gi_wp2
      go_end0
      exact ⟨⟨_, rfl⟩, .inl ⟨_, rfl, HX.out⟩⟩
    have h1 : (r : Int) < (l.length : Int) := by omega
    obtain ⟨x, hx⟩ : ∃ x, l[r]? = some x := ⟨_, List.getElem?_eq_getElem hlt⟩
    have hxm : ms[r]? = some (pmOf x) := by rw [HMS.out, List.getElem?_map, hx]; rfl
    have HXM := Lib.hid hxm
    have HFR := Lib.hid (HF.out.kept HI.out.2)
    obtain ⟨b, o, rfl, hblt, c0, c1, c2, c3, c4, c5⟩ := HFR.out.pgs.cells hx
    have HAT := Lib.hid (HF.out.pgs.at_ x (List.mem_of_getElem? hx))
    have HMX := Lib.hid (HSL.out x (List.mem_of_getElem? hx))
    have HBW := Lib.hid (((Below.refl wr.heap.size wr).alloc (Nat.le_refl _) (.cells (pcs x.num x.lsn x.s).toArray 73)))
    have HR : Hid (Row (wr.alloc (.cells (pcs x.num x.lsn x.s).toArray 73)) wr.heap.size 73 (pcs x.num x.lsn x.s)) := Lib.hid (Row.new _ _ _)
    clear hx hxm
    obtain ⟨num, lsn, sl, st⟩ := x
    dsimp only at *
    have HIX := Lib.hid (idx_any st)
    unfold scs at HIX
    unfold pcs at HBW HR
    gi_wp2_with fail
    generalize (wr.alloc (.cells #[.int .i64 num, .int .u64 (lsn : Int), .slice (st.A 0) (st.n 0) (st.c 0), .slice (st.A 1) (st.n 1) (st.c 1), .slice (st.A 2) (st.n 2) (st.c 2), .slice (st.A 3) (st.n 3) (st.c 3)] 73)) = w1 at HBW HR ⊢
    have HI1 : Hid (J (allE (ms.take r) ++ pageE (pmOf { num := num, lsn := lsn, sl := sl, s := st }) 0) w1 ∧ KpH B0 Bf W1 w1 ∧ Row w1 wr.heap.size 73 [.int .i64 num, .int .u64 (lsn : Int), .slice (st.A 0) (st.n 0) (st.c 0), .slice (st.A 1) (st.n 1) (st.c 1), .slice (st.A 2) (st.n 2) (st.c 2), .slice (st.A 3) (st.n 3) (st.c 3)]) := Lib.hid (by
      refine ⟨?_, HI.out.2.trans (KpH.below HBW.out HFR.out.l0 HFR.out.lf), HR.out⟩
      rw [show pageE _ 0 = [] from rfl, List.append_nil]
      exact HJ.out _ _ _ HI.out.1 HBW.out)
    clear HR HI HBW c0 c1 c2 c3 c4 c5 HFR
    obtain ⟨gp, hgp⟩ : ∃ g, g = wr.heap.size := ⟨_, rfl⟩
    rw [← hgp] at HI1 ⊢
    clear hgp
    obtain ⟨p, hp⟩ : ∃ p, p = pmOf { num := num, lsn := lsn, sl := sl, s := st } := ⟨_, rfl⟩
    have HP := Lib.hid hp
    rw [← hp] at HI1 HXM
    clear hp
    gi_loopw [18] (fun t wr => ∃ j : Nat, j ≤ 4 ∧ t = .int .i64 (j : Int) ∧ Hid (J (allE (ms.take r) ++ pageE p j) wr ∧ KpH B0 Bf W1 wr ∧ Row wr gp 73 [.int .i64 num, .int .u64 (lsn : Int), .slice (st.A 0) (st.n 0) (st.c 0), .slice (st.A 1) (st.n 1) (st.c 1), .slice (st.A 2) (st.n 2) (st.c 2), .slice (st.A 3) (st.n 3) (st.c 3)])) (fun t _ => 4 - (intOf t).toNat)
    case atStart => exact ⟨0, by omega, rfl, HI1⟩
    case round =>
      obtain ⟨j, hj, rfl, HJI⟩ := hrel
      clear HI1
      by_cases hlt4 : j < 4
      case neg =>
        have h4 : ¬ (j : Int) < 4 := by omega
        obtain rfl : j = 4 := by omega
        have HN : Hid (J (allE (ms.take (r + 1))) wr ∧ KpH B0 Bf W1 wr) := Lib.hid ⟨by rw [pageE_take HXM.out]; exact HJI.out.1, HJI.out.2.1⟩
        clear HJI
        gi_wp2
        go_roundw
        case rel => exact ⟨r + 1, by omega, by go_num, HN⟩
        case measure => simp [intOf]; omega
      have h4 : (j : Int) < 4 := by omega
      have hix := HIX.out j hlt4
      have HSJ := Lib.hid ((PgAt.kp HAT.out HJI.out.2.1) j hlt4)
      have HLE : Hid ((p.sl j).length = st.n j) := Lib.hid (by rw [HP.out]; exact HSJ.out.len)
      have HPJ : Hid (p.sl j = sl j ∧ p.num = num) := Lib.hid (by rw [HP.out]; exact ⟨rfl, rfl⟩)
      have HMJ := Lib.hid (HMX.out j hlt4)
      have HSZ : Hid (B0 ≤ wr.heap.size) := Lib.hid (Nat.le_trans HF.out.l0 HJI.out.2.1.2)
      have HFZ : Hid (Bf < wr.heap.size) := Lib.hid (Nat.lt_of_lt_of_le HF.out.lf HJI.out.2.1.2)
      by_cases hz : st.n j = 0
      · have hzb : ((st.n j : Int) == 0) = true := by simp [hz]
        have HN : Hid (J (allE (ms.take r) ++ pageE p (j + 1)) wr ∧ KpH B0 Bf W1 wr ∧ Row wr gp 73 [.int .i64 num, .int .u64 (lsn : Int), .slice (st.A 0) (st.n 0) (st.c 0), .slice (st.A 1) (st.n 1) (st.c 1), .slice (st.A 2) (st.n 2) (st.c 2), .slice (st.A 3) (st.n 3) (st.c 3)]) := Lib.hid (by
          refine ⟨?_, HJI.out.2⟩
          rw [show pageE p (j + 1) = pageE p j from by
            show pageE p j ++ elE p j = _
            rw [elE, if_pos (by rw [HLE.out]; exact hz), List.append_nil]]
          exact HJI.out.1)
        clear HJI hz
        gi_wp2
        go_roundw
        case rel => exact ⟨j + 1, by omega, by go_num, HN⟩
        case measure => simp [intOf]; omega
      have hzb : ((st.n j : Int) == 0) = false := by simp [hz]
      obtain ⟨y, hy⟩ : ∃ y : EH, elE p j = [y] ∧ y.pg = num ∧ y.k = j ∧ ((decM (sl j) = some y.t ∧ y.e = 0) ∨ (decM (sl j) = none ∧ y.t = zT ∧ y.e = 200)) := by
        unfold elE
        rw [if_neg (by rw [HLE.out]; exact hz), HPJ.out.1, HPJ.out.2]
        cases decM (sl j) with
        | none => exact ⟨_, rfl, rfl, rfl, .inr ⟨rfl, rfl, rfl⟩⟩
        | some t => exact ⟨_, rfl, rfl, rfl, .inl ⟨rfl, rfl⟩⟩
      obtain ⟨hy1, hy2, hy3, hy4⟩ := hy
      have HTE : Hid (∀ W, TE (allE ms) (allE (ms.take r) ++ pageE p j) y W) := Lib.hid fun W => te_of (by
        have := allE_pre HXM.out (show j + 1 ≤ 4 by omega)
        rw [show pageE p (j + 1) = pageE p j ++ [y] from by rw [← hy1]; rfl, ← List.append_assoc] at this
        exact this) W
      have HNX : Hid (pageE p j ++ [y] = pageE p (j + 1)) := Lib.hid (by rw [← hy1]; rfl)
      have HDEC : Hid (∀ W, Below wr.heap.size wr W → Calls Try.prog 14 #[.slice (st.A j) (st.n j) (st.c j)] W fun e w' => e = .returned (.tuple #[.agg y.t.cells.toArray, .int .i64 y.e]) ∧ Below W.heap.size W w') := Lib.hid fun W hb => by
        have hs := HSJ.out
        have hbs : Bs W W.heap.size (st.A j) (sl j) := (hs.bs.below (hb.mono HSZ.out)).more (Nat.le_trans HSZ.out hb.size)
        rcases hy4 with ⟨h1, h2⟩ | ⟨h1, h2, h3⟩
        · rw [h2]
          exact Decode_some (st.A j) (sl j) (st.n j) (st.c j) y.t.r y.t.a y.t.b y.t.x0 y.t.x1 y.t.y0 y.t.y1 y.t.v W h1 hs.len hs.nil hbs
        · rw [h2, h3]
          exact Decode_none (st.A j) (sl j) (st.n j) (st.c j) W h1 hs.len HMJ.out hs.nil hbs
      clear hy1 hy4 hz
      obtain ⟨yp, yk, ⟨r_, a_, b_, x0, x1, y0, y1, v⟩, ye⟩ := y
      dsimp only at hy2 hy3
      subst hy2 hy3
      unfold Tu.cells at HDEC
      dsimp only at HDEC
      gi_wp2_with fail
      refine ⟨trivial, callsIn_wide.2 ((HDEC.out _ (Below.refl _ _)).mono ?_)⟩
      rintro e w3 ⟨rfl, hb3⟩
      have HB3 := Lib.hid hb3
      have HR3 := Lib.hid (HJI.out.2.2.below hb3 HJI.out.2.2.lt)
      have c0 := HR3.out.cell 0
      simp only [List.getElem?_cons_zero] at c0
      clear hb3
      have hgp3 : gp < w3.heap.size := HR3.out.lt
      have hgp4 : gp ≠ w3.heap.size := by omega
      gi_upto_region 9 with fail
      have hb5 : Below w3.heap.size w3 ((w3.alloc (.cells #[.int .u32 (r_ : Int), .int .u64 (a_ : Int), .int .u64 (b_ : Int), .int .i64 x0, .int .i64 x1, .int .i64 y0, .int .i64 y1, .int .i64 v] 30)).alloc (.cells #[.int .i64 yp, .int .i64 (yk : Int)] 49)) := ((Below.refl _ _).alloc (Nat.le_refl _) _).alloc (by simp) _
      have hrt : Row ((w3.alloc (.cells #[.int .u32 (r_ : Int), .int .u64 (a_ : Int), .int .u64 (b_ : Int), .int .i64 x0, .int .i64 x1, .int .i64 y0, .int .i64 y1, .int .i64 v] 30)).alloc (.cells #[.int .i64 yp, .int .i64 (yk : Int)] 49)) w3.heap.size 30 [.int .u32 (r_ : Int), .int .u64 (a_ : Int), .int .u64 (b_ : Int), .int .i64 x0, .int .i64 x1, .int .i64 y0, .int .i64 y1, .int .i64 v] := (Row.new w3 _ _).alloc _
      have hrs : Row ((w3.alloc (.cells #[.int .u32 (r_ : Int), .int .u64 (a_ : Int), .int .u64 (b_ : Int), .int .i64 x0, .int .i64 x1, .int .i64 y0, .int .i64 y1, .int .i64 v] 30)).alloc (.cells #[.int .i64 yp, .int .i64 (yk : Int)] 49)) (w3.heap.size + 1) 49 [.int .i64 yp, .int .i64 (yk : Int)] := row_last _ _ _ _ (by simp)
      generalize (w3.alloc (.cells #[.int .u32 (r_ : Int), .int .u64 (a_ : Int), .int .u64 (b_ : Int), .int .i64 x0, .int .i64 x1, .int .i64 y0, .int .i64 y1, .int .i64 v] 30)).alloc (.cells #[.int .i64 yp, .int .i64 (yk : Int)] 49) = w5 at hb5 hrt hrs ⊢
      have k0 := hrt.cell 0
      have k1 := hrt.cell 1
      have k2 := hrt.cell 2
      have k3 := hrt.cell 3
      have k4 := hrt.cell 4
      have k5 := hrt.cell 5
      have k6 := hrt.cell 6
      have k7 := hrt.cell 7
      have q0 := hrs.cell 0
      have q1 := hrs.cell 1
      simp only [List.getElem?_cons_zero, List.getElem?_cons_succ] at k0 k1 k2 k3 k4 k5 k6 k7 q0 q1
      clear hrt hrs
      have hb35 := HB3.out.trans (hb5.mono HB3.out.size)
      have HJ5 := Lib.hid (HJ.out _ _ _ HJI.out.1 hb35)
      have HK5 := Lib.hid (HJI.out.2.1.trans (KpH.below hb35 HSZ.out HFZ.out))
      have HR5 := Lib.hid (HR3.out.below hb5 HR3.out.lt)
      clear hb5 hb35 c0 hgp3 hgp4 HR3 HB3
      obtain ⟨fn, tmps, assign, body, hy, hR⟩ := HY.out _ _ w5 (HTE.out w5) HJ5.out
      unfold encE EH.cells Tu.cells at hy
      dsimp only at hy
      gi_wp2_with fail
      refine hR.mono ?_
      rintro e W3 (⟨rfl, _, hJ4, hk4⟩ | ⟨rfl, hJx4⟩)
      · have HN : Hid (J (allE (ms.take r) ++ pageE p (yk + 1)) W3 ∧ KpH B0 Bf W1 W3 ∧ Row W3 gp 73 [.int .i64 yp, .int .u64 (lsn : Int), .slice (st.A 0) (st.n 0) (st.c 0), .slice (st.A 1) (st.n 1) (st.c 1), .slice (st.A 2) (st.n 2) (st.c 2), .slice (st.A 3) (st.n 3) (st.c 3)]) := Lib.hid (by
          refine ⟨?_, HK5.out.trans hk4, hk4.row HR5.out⟩
          rw [← HNX.out, ← List.append_assoc]
          exact hJ4)
        clear hk4 hJ4 hR hy HJI HJ5 HK5 HR5
        gi_wp2
        go_roundw
        case rel => exact ⟨yk + 1, by omega, by go_num, HN⟩
        case measure => simp [intOf]; omega
      · gi_wp2
        refine bodyPost_ret (results_none rfl _ _ _) rfl ?_
        exact ⟨⟨_, rfl⟩, .inr ⟨_, trivial, hJx4⟩⟩
end Go.Proofs.Ytnojkoefdigcnaa.Hp
