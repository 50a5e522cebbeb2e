/-
  Heap: pages in a row, what stands in them (pure), mayBe.
-/
import Derived.Test.YtnojkoefdigcnaaHp3
import Derived.Test.YtnojkoefdigcnaaPgO
import Derived.Test.YtnojkoefdigcnaaPgL
import Derived.Test.YtnojkoefdigcnaaRecW
import Derived.LoopTactic
import Derived.Deep.RegionHeld
import Derived.Deep.Cut
import Derived.WalkLawsBesides
namespace Go.Proofs.Ytnojkoefdigcnaa.Hp
set_option maxRecDepth 100000
open Go.RowKit Go.Proofs.Ytnojkoefdigcnaa.Pg Go.Proofs.Ytnojkoefdigcnaa.Rec Go.Proofs.Ytnojkoefdigcnaa.Wd Go.Proofs.Ytnojkoefdigcnaa.Wi Go.Proofs.Ytnojkoefdigcnaa.Ky Go.Proofs.Ytnojkoefdigcnaa.Oct Go.Proofs.Ytnojkoefdigcnaa.Rec Go.Proofs.Ytnojkoefdigcnaa.Lift

/-- a page as it is meant -/
def pmOf (x : PX) : PM := ⟨x.num, x.lsn, x.sl⟩
/-- how long its slots are -/
def lensP (p : PM) : Nat → Nat := fun k => (p.sl k).length
/-- an item as it is told: its page, its slot, the tuple, the error -/
structure EH where
  pg : Int
  k : Nat
  t : Tu
  e : Int
def zT : Tu := ⟨0, 0, 0, 0, 0, 0, 0, 0⟩
def Tu.cells (t : Tu) : List Value := [.int .u32 t.r, .int .u64 t.a, .int .u64 t.b, .int .i64 t.x0, .int .i64 t.x1, .int .i64 t.y0, .int .i64 t.y1, .int .i64 t.v]
def EH.cells (x : EH) : List Value := .int .i64 x.pg :: .int .i64 (x.k : Int) :: x.t.cells
/-- what slot k tells -/
def elE (p : PM) (k : Nat) : List EH :=
  if (p.sl k).length = 0 then [] else match decM (p.sl k) with
    | some t => [⟨p.num, k, t, 0⟩]
    | none => [⟨p.num, k, zT, 200⟩]
def pageE (p : PM) : Nat → List EH
  | 0 => []
  | k + 1 => pageE p k ++ elE p k
def allE (l : List PM) : List EH := l.flatMap (pageE · 4)
/-- do the numbers rise behind one, and may the pages be? -/
def riseM : Int → List PM → Bool
  | _, [] => true
  | last, p :: l => okN p.num (lensP p) && decide (last < p.num) && riseM p.num l
def mayM (l : List PM) : Bool := riseM (-1) l
/-- the error of all that take pages -/
def itE (l : List PM) : Int := if mayM l = true then (if (allE l).all (fun x => decide (x.e = 0)) = true then 0 else 200) else 160
def itL (l : List PM) : List EH := if itE l = 0 then allE l else []
/-- pages in memory, below block B -/
structure Pgs (w : World) (B : Nat) (A : Option Addr) (l : List PX) : Prop where
  many : Lift.Many PX.cells 6 w B A l
  at_ : ∀ x ∈ l, PgAt w B x.sl x.s
theorem Pgs.below {w w' : World} {B : Nat} {A : Option Addr} {l : List PX} (h : Pgs w B A l) (hb : Below B w w') : Pgs w' B A l := ⟨h.many.below hb, fun x hx => (h.at_ x hx).below hb⟩
theorem Pgs.more {w : World} {B B' : Nat} {A : Option Addr} {l : List PX} (h : Pgs w B A l) (hb : B ≤ B') : Pgs w B' A l := ⟨h.many.more hb, fun x hx => (h.at_ x hx).more hb⟩
theorem lens_eq {w : World} {B : Nat} {x : PX} (h : PgAt w B x.sl x.s) : okN x.num x.s.n = okN (pmOf x).num (lensP (pmOf x)) := by
  have h0 := h.lens 0 (by omega); have h1 := h.lens 1 (by omega); have h2 := h.lens 2 (by omega); have h3 := h.lens 3 (by omega)
  unfold okN lensP pmOf
  dsimp only
  rw [h0, h1, h2, h3]
/-- the cells of the k-th page -/
theorem Pgs.cells {w : World} {B : Nat} {A : Option Addr} {l : List PX} (h : Pgs w B A l) {k : Nat} {x : PX} (hx : l[k]? = some x) : ∃ b o, A = some ⟨b, o, none⟩ ∧ b < B ∧
    w.cell? ⟨b, o + k * 6, none⟩ = some (.int .i64 x.num) ∧ w.cell? ⟨b, o + k * 6 + 1, none⟩ = some (.int .u64 (x.lsn : Int)) ∧ w.cell? ⟨b, o + k * 6 + 2, none⟩ = some (.slice (x.s.A 0) (x.s.n 0) (x.s.c 0)) ∧
    w.cell? ⟨b, o + k * 6 + 3, none⟩ = some (.slice (x.s.A 1) (x.s.n 1) (x.s.c 1)) ∧ w.cell? ⟨b, o + k * 6 + 4, none⟩ = some (.slice (x.s.A 2) (x.s.n 2) (x.s.c 2)) ∧ w.cell? ⟨b, o + k * 6 + 5, none⟩ = some (.slice (x.s.A 3) (x.s.n 3) (x.s.c 3)) := by
  have hk := (List.getElem?_eq_some_iff.1 hx).1
  obtain ⟨b, o, rfl, hlt, hc⟩ := h.many (by omega)
  exact ⟨b, o, rfl, hlt, hc k x hx 0 _ rfl, hc k x hx 1 _ rfl, hc k x hx 2 _ rfl, hc k x hx 3 _ rfl, hc k x hx 4 _ rfl, hc k x hx 5 _ rfl⟩
/-- the number ahead of the k-th page -/
def lastM (l : List PM) : Nat → Int
  | 0 => -1
  | k + 1 => match l[k]? with | some p => p.num | none => -1
theorem rise_app : ∀ (a b : List PM) (last : Int), riseM last (a ++ b) = (riseM last a && riseM (match a.getLast? with | some p => p.num | none => last) b)
  | [], b, last => by simp [riseM]
  | p :: a, b, last => by
    rw [List.cons_append, riseM, riseM, rise_app a b p.num]
    cases a with
    | nil => simp [riseM]
    | cons q a => rw [List.getLast?_cons_cons]; simp only [Bool.and_assoc, List.getLast?_cons]
theorem may_take {l : List PM} {k : Nat} {p : PM} (h : l[k]? = some p) : mayM (l.take (k + 1)) = (mayM (l.take k) && (okN p.num (lensP p) && decide (lastM l k < p.num))) := by
  have hk := (List.getElem?_eq_some_iff.1 h).1
  unfold mayM
  rw [List.take_succ_eq_append_getElem hk, (List.getElem?_eq_some_iff.1 h).2, rise_app]
  congr 1
  simp only [riseM, Bool.and_true]
  congr 2
  cases k with
  | zero => rfl
  | succ k =>
    have hk' : k < l.length := by omega
    rw [List.take_succ_eq_append_getElem hk', List.getLast?_concat]
    simp [lastM, hk']
theorem may_of_take {l : List PM} {k : Nat} (h : mayM (l.take k) = false) : mayM l = false := by
  rw [← List.take_append_drop k l]
  unfold mayM at *
  rw [rise_app, h]
  rfl

set_option maxHeartbeats 4000000 in
theorem mayBe_any (l : List PX) (A : Option Addr) (n c : Nat) (w : World) (hn : l.length = n) (hm : n ≤ 100000) (hP : Pgs w w.heap.size A l) :
    Calls Try.prog 43 #[.slice A n c] w fun e w' => e = .returned (.bool (mayM (l.map pmOf))) ∧ Below w.heap.size w w' := by
  have HN := Lib.hid hn
  have HP := Lib.hid hP
  clear hn hP
  go_enter Try.func43, Try.ntmps43
  go_wp2
  have HI0 : Hid (Below w.heap.size w w) := Lib.hid (Below.refl _ _)
  have HT0 : Hid (mayM ((l.map pmOf).take 0) = true) := Lib.hid (by rfl)
  go_loopw [3, 8] (fun t i wr => ∃ (k : Nat) (last : Int), k ≤ n ∧ i = .int .i64 (k : Int) ∧ t = .int .i64 last ∧ Hid (lastM (l.map pmOf) k = last) ∧ Hid (Below w.heap.size w wr) ∧ Hid (mayM ((l.map pmOf).take k) = true)) (fun _ i _ => n - (intOf i).toNat)
  case atStart => exact ⟨0, -1, by omega, rfl, rfl, Lib.hid rfl, HI0, HT0⟩
  case round =>
    obtain ⟨k, last, hk, rfl, rfl, HLA, HI, HT⟩ := hrel
    clear HI0 HT0
    by_cases hlt : k < n
    case neg =>
      have h1 : ¬ (k : Int) < (n : Int) := by omega
      obtain rfl : k = n := by omega
      have HE : Hid (mayM (l.map pmOf) = true) := Lib.hid (by have := HT.out; rwa [List.take_of_length_le (by rw [List.length_map, HN.out]; exact Nat.le_refl _)] at this)
      go_wp2
      go_ret
      exact ⟨by rw [HE.out]; rfl, HI.out⟩
    have h1 : (k : Int) < (n : Int) := by omega
    obtain ⟨x, hx⟩ : ∃ x, l[k]? = some x := ⟨_, List.getElem?_eq_getElem (by rw [HN.out]; exact hlt)⟩
    have hxm : (l.map pmOf)[k]? = some (pmOf x) := by rw [List.getElem?_map, hx]; rfl
    obtain ⟨b, o, rfl, hblt, c0, c1, c2, c3, c4, c5⟩ := (HP.out.below HI.out).cells hx
    have hat := (HP.out.at_ x (List.mem_of_getElem? hx)).below HI.out
    have HK : Hid (okN x.num x.s.n = okN (pmOf x).num (lensP (pmOf x))) := Lib.hid (lens_eq hat)
    have HTS : Hid (mayM ((l.map pmOf).take (k + 1)) = (okN x.num x.s.n && decide (last < x.num))) := Lib.hid (by
      rw [may_take hxm, HT.out, Bool.true_and, HLA.out, HK.out]; rfl)
    have HNX : Hid (lastM (l.map pmOf) (k + 1) = x.num) := Lib.hid (by simp only [lastM]; rw [hxm]; rfl)
    have HF : Hid (mayM ((l.map pmOf).take (k + 1)) = false → mayM (l.map pmOf) = false) := Lib.hid may_of_take
    have HB : Hid (Below w.heap.size w (wr.alloc (.cells (pcs x.num x.lsn x.s).toArray 73))) := Lib.hid (HI.out.alloc HI.out.size _)
    have HR : Hid (Row (wr.alloc (.cells (pcs x.num x.lsn x.s).toArray 73)) wr.heap.size 73 (pcs x.num x.lsn x.s)) := Lib.hid (Row.new _ _ _)
    have HC := Lib.hid (fun (W : World) => check_any x.num x.lsn x.s W)
    clear hx hxm hat HT HLA HI HK
    obtain ⟨num, lsn, sl, st⟩ := x
    dsimp only at *
    generalize hK : okN num st.n = K at HC HTS
    clear hK
    unfold pcs at HB HR HC
    go_upto_region 5 with fail
    clear c0 c1 c2 c3 c4 c5
    generalize (wr.alloc (.cells #[.int .i64 num, .int .u64 (lsn : Int), .slice (st.A 0) (st.n 0) (st.c 0), .slice (st.A 1) (st.n 1) (st.c 1), .slice (st.A 2) (st.n 2) (st.c 2), .slice (st.A 3) (st.n 3) (st.c 3)] 73)) = w1 at HB HR ⊢
    have c0 := HR.out.cell 0
    have c1 := HR.out.cell 1
    have c2 := HR.out.cell 2
    have c3 := HR.out.cell 3
    have c4 := HR.out.cell 4
    have c5 := HR.out.cell 5
    simp only [List.getElem?_cons_zero, List.getElem?_cons_succ] at c0 c1 c2 c3 c4 c5
    go_wp2_with fail
    clear c0 c1 c2 c3 c4 c5
    refine (HC.out _).mono ?_
    rintro e w2 ⟨rfl, hb⟩
    have HB1 := Lib.hid (HB.out.trans (hb.mono HB.out.size))
    have HR1 := Lib.hid (HR.out.below hb HR.out.lt)
    clear hb HB HR HC
    have c0 := HR1.out.cell 0
    simp only [List.getElem?_cons_zero] at c0
    cases K
    · rw [show errP false = 160 from rfl]
      go_wp2
      go_ret
      exact ⟨by rw [HF.out (by rw [HTS.out]; rfl)]; rfl, HB1.out⟩
    · rw [show errP true = 0 from rfl]
      by_cases hl : num ≤ last
      · have HX : Hid (mayM (l.map pmOf) = false) := Lib.hid (HF.out (by rw [HTS.out, decide_eq_false (by omega)]; rfl))
        go_wp2
        go_ret
        exact ⟨by rw [HX.out]; rfl, HB1.out⟩
      · have HX := Lib.hid (HTS.out.trans (by rw [decide_eq_true (by omega)]; rfl : _ = true))
        go_wp2
        go_roundw
        case rel => exact ⟨k + 1, num, by omega, by go_num, rfl, HNX, HB1, HX⟩
        case measure => simp [intOf]; omega
end Go.Proofs.Ytnojkoefdigcnaa.Hp
