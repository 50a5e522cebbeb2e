/-
  Keys: a list is parted (in the order in which it is).
-/
import Derived.Test.YtbmfijcckdkmdaaKy11
import Derived.Deep.CutRange
import Derived.Test.YtbmfijcckdkmdaaWi2
import Derived.LoopTactic
import Derived.Deep.RegionHeld
import Derived.Deep.Cut
import Derived.WalkLawsBesides
namespace Go.Proofs.Ytbmfijcckdkmdaa.Ky
set_option maxRecDepth 100000
open Go.RowKit Go.Proofs.Ytbmfijcckdkmdaa.Wd Go.Proofs.Ytbmfijcckdkmdaa.Wi Go.Proofs.Ytbmfijcckdkmdaa.Lift


/-- both sides so far -/
structure PS where
  L : List Nat
  R : List Nat
  u : Kb
  v : Kb
def lessK (a b y : Kb) : Bool := lessB a.x0 a.x1 a.y0 a.y1 b.x0 b.x1 b.y0 b.y1 y.x0 y.x1 y.y0 y.y1
def stepP (ks : List Kb) (least i k : Nat) (s : PS) (j : Nat) : PS :=
  if j = i ∨ j = k then s else if goesM ks.length least s.L.length s.R.length (lessK s.u s.v (ks.getD j .zero)) (lessK s.v s.u (ks.getD j .zero)) then { s with L := s.L ++ [j], u := unionK s.u (ks.getD j .zero) } else { s with R := s.R ++ [j], v := unionK s.v (ks.getD j .zero) }
def partP (ks : List Kb) (least i k j : Nat) : PS := (List.range j).foldl (stepP ks least i k) ⟨[i], [k], ks.getD i .zero, ks.getD k .zero⟩
theorem partP_zero (ks : List Kb) (least i k : Nat) : partP ks least i k 0 = ⟨[i], [k], ks.getD i .zero, ks.getD k .zero⟩ := rfl
theorem partP_succ (ks : List Kb) (least i k j : Nat) : partP ks least i k (j + 1) = stepP ks least i k (partP ks least i k j) j := by
  unfold partP
  rw [List.range_succ, List.foldl_append]
  rfl
/-- what is true of both sides -/
structure PSok (i k j : Nat) (s : PS) : Prop where
  cnt : s.L.length + s.R.length + (if i < j then 1 else 0) + (if k < j then 1 else 0) = 2 + j
  uo : s.u.ok = true
  vo : s.v.ok = true
  un : KOk s.u.x0 s.u.x1 s.u.y0 s.u.y1
  vn : KOk s.v.x0 s.v.x1 s.v.y0 s.v.y1
theorem PSok.step {ks : List Kb} {least i k j : Nat} {s : PS} (hK : KsOk ks) (hj : j < ks.length) (hik : i ≠ k) (h : PSok i k j s) : PSok i k (j + 1) (stepP ks least i k s j) := by
  obtain ⟨h1, h2, h3, h4, h5⟩ := h
  have hm : ks.getD j .zero ∈ ks := by rw [List.getD_eq_getElem?_getD, List.getElem?_eq_getElem hj]; exact List.getElem_mem hj
  have o1 := hK.ok _ hm
  have o2 := hK.num _ hm
  unfold stepP
  split
  · rename_i he
    refine ⟨?_, h2, h3, h4, h5⟩
    rcases he with rfl | rfl
    · simp; split at h1 <;> split at h1 <;> split <;> omega
    · simp; split at h1 <;> split at h1 <;> split <;> omega
  · rename_i he
    split
    · refine ⟨?_, unionK_ok h2 o1, h3, unionK_num h4 o2, h5⟩
      simp only [List.length_append, List.length_singleton]
      split at h1 <;> split at h1 <;> split <;> split <;> omega
    · refine ⟨?_, h2, unionK_ok h3 o1, h4, unionK_num h5 o2⟩
      simp only [List.length_append, List.length_singleton]
      split at h1 <;> split at h1 <;> split <;> split <;> omega
/-- what the rounds hold -/
structure PI (w wr : World) (gl g1 g2 gm : Nat) (A : Option Addr) (n c least : Nat) (s : PS) : Prop where
  rl : Row wr gl 38 [.slice A n c]
  rm : Row wr gm 3 [.int .i64 (least : Int)]
  sd : ∃ v1 v2, Side wr w.heap.size g1 v1 s.L s.u ∧ Side wr w.heap.size g2 v2 s.R s.v ∧ v1.ownBlock ≠ v2.ownBlock ∧ some gm ≠ v1.ownBlock ∧ some gm ≠ v2.ownBlock
  hb : Below w.heap.size w wr
theorem PI.below {w wr wx : World} {gl g1 g2 gm n c least : Nat} {A : Option Addr} {s : PS} (h : PI w wr gl g1 g2 gm A n c least s) (hb : Below wr.heap.size wr wx) : PI w wx gl g1 g2 gm A n c least s := by
  obtain ⟨h1, h2, ⟨v1, v2, h3, h4, h5⟩, h6⟩ := h
  exact ⟨h1.below hb h1.lt, h2.below hb h2.lt, ⟨v1, v2, h3.below hb, h4.below hb, h5⟩, h6.trans (hb.mono h6.size)⟩
theorem touch_below {w wr wx : World} {g n : Nat} {v v' : Value} {xs : List Value} (hb : Below w.heap.size w wr) (ht : Touch wr wx g v v') (hg : w.heap.size ≤ g) (ho : wr.ownsRow w.heap.size 3 1 v n xs) : Below w.heap.size w wx :=
  ⟨ht.os.trans hb.os, ht.tape.trans hb.tape, ht.output.trans hb.output, Nat.le_trans hb.size ht.size, fun k hk => (ht.block k (Nat.lt_of_lt_of_le hk hb.size) (by omega) (fun e => by have := own_base ho e.symm; omega)).trans (hb.block k hk)⟩
theorem new_ne {wr wx : World} {g : Nat} {v v' : Value} {o : Option Nat} (ht : Touch wr wx g v v') (hne : v.ownBlock ≠ o) (hlt : ∀ k, o = some k → k < wr.heap.size) : v'.ownBlock ≠ o := by
  rcases ht.new with h | ⟨k, h1, h2⟩
  · rw [h]; exact hne
  · intro e; rw [h2] at e; have := hlt k e.symm; omega
theorem PI.left {w wr wx : World} {gl g1 g2 gm n c least j : Nat} {A : Option Addr} {s : PS} {b : Kb} {v1 v1' v2 : Value} (h1 : Row wr gl 38 [.slice A n c]) (h2 : Row wr gm 3 [.int .i64 (least : Int)]) (h3 : Side wr w.heap.size g1 v1 s.L s.u) (h4 : Side wr w.heap.size g2 v2 s.R s.v) (h5 : v1.ownBlock ≠ v2.ownBlock) (h6 : some gm ≠ v1.ownBlock) (h7 : some gm ≠ v2.ownBlock) (hb : Below w.heap.size w wr)
    (hS : Side wx w.heap.size g1 v1' (s.L ++ [j]) (unionK s.u b)) (ht : Touch wr wx g1 v1 v1') (hg : w.heap.size ≤ g1) (n1 : gl ≠ g1) (n2 : gm ≠ g1) (n3 : g2 ≠ g1) : PI w wx gl g1 g2 gm A n c least { s with L := s.L ++ [j], u := unionK s.u b } :=
  ⟨Row.touch h1 ht n1 (own_ne h3.own h1 (by decide)), Row.touch h2 ht n2 h6, ⟨v1', v2, hS, h4.touch ht n3 (own_ne h3.own h4.row (by decide)) (own_ne h4.own h3.row (by decide)) (.inr h5.symm), new_ne (g := g1) ht h5 (fun k hk => own_lt h4.own hk), (new_ne (g := g1) ht h6.symm (fun k hk => by cases hk; exact h2.lt)).symm, h7⟩, touch_below hb ht hg h3.own⟩
theorem PI.right {w wr wx : World} {gl g1 g2 gm n c least j : Nat} {A : Option Addr} {s : PS} {b : Kb} {v1 v2' v2 : Value} (h1 : Row wr gl 38 [.slice A n c]) (h2 : Row wr gm 3 [.int .i64 (least : Int)]) (h3 : Side wr w.heap.size g1 v1 s.L s.u) (h4 : Side wr w.heap.size g2 v2 s.R s.v) (h5 : v1.ownBlock ≠ v2.ownBlock) (h6 : some gm ≠ v1.ownBlock) (h7 : some gm ≠ v2.ownBlock) (hb : Below w.heap.size w wr)
    (hS : Side wx w.heap.size g2 v2' (s.R ++ [j]) (unionK s.v b)) (ht : Touch wr wx g2 v2 v2') (hg : w.heap.size ≤ g2) (n1 : gl ≠ g2) (n2 : gm ≠ g2) (n3 : g1 ≠ g2) : PI w wx gl g1 g2 gm A n c least { s with R := s.R ++ [j], v := unionK s.v b } :=
  ⟨Row.touch h1 ht n1 (own_ne h4.own h1 (by decide)), Row.touch h2 ht n2 h7, ⟨v1, v2', h3.touch ht n3 (own_ne h4.own h3.row (by decide)) (own_ne h3.own h4.row (by decide)) (.inr h5), hS, (new_ne (g := g2) ht h5.symm (fun k hk => own_lt h3.own hk)).symm, h6, (new_ne (g := g2) ht h7.symm (fun k hk => by cases hk; exact h2.lt)).symm⟩, touch_below hb ht hg h4.own⟩
theorem own_slice {w : World} {base n : Nat} {e : TypeId} {v : Value} {xs : List Value} (h : w.ownsRow base e 1 v n xs) : ∃ A c, v = .slice A n c := by
  rcases h.2 with ⟨rfl, rfl⟩ | ⟨g', cap, cur, rfl, _⟩
  · exact ⟨_, _, rfl⟩
  · exact ⟨_, _, rfl⟩
/-- five cells stored -/
def st5 (w : World) (g : Nat) (a b c d e : Value) : World := ((((w.setCell ⟨g, 0, none⟩ a).setCell ⟨g, 1, none⟩ b).setCell ⟨g, 2, none⟩ c).setCell ⟨g, 3, none⟩ d).setCell ⟨g, 4, none⟩ e
theorem st5_row {w : World} {g : Nat} {t : TypeId} {a' b' c' d' e' : Value} (h : Row w g t [a', b', c', d', e']) (a b c d e : Value) : Row (st5 w g a b c d e) g t [a, b, c, d, e] :=
  Row.store (Row.store (Row.store (Row.store (Row.store h 0 a) 1 b) 2 c) 3 d) 4 e
theorem st5_far {w : World} {g p : Nat} {t : TypeId} {cs : List Value} (h : Row w p t cs) (hp : p ≠ g) (a b c d e : Value) : Row (st5 w g a b c d e) p t cs :=
  Row.far (Row.far (Row.far (Row.far (Row.far h (p := ⟨g, 0, none⟩) hp a) (p := ⟨g, 1, none⟩) hp b) (p := ⟨g, 2, none⟩) hp c) (p := ⟨g, 3, none⟩) hp d) (p := ⟨g, 4, none⟩) hp e
theorem st5_below {B : Nat} {w0 w : World} {g : Nat} (h : Below B w0 w) (hg : B ≤ g) (a b c d e : Value) : Below B w0 (st5 w g a b c d e) :=
  ((((h.setCell (p := ⟨g, 0, none⟩) hg a).setCell (p := ⟨g, 1, none⟩) hg b).setCell (p := ⟨g, 2, none⟩) hg c).setCell (p := ⟨g, 3, none⟩) hg d).setCell (p := ⟨g, 4, none⟩) hg e
theorem row5 {w : World} {g : Nat} {t : TypeId} {a b c d e : Value} (h : Row w g t [a, b, c, d, e]) : w.cell? ⟨g, 0, none⟩ = some a ∧ w.cell? ⟨g, 1, none⟩ = some b ∧ w.cell? ⟨g, 2, none⟩ = some c ∧ w.cell? ⟨g, 3, none⟩ = some d ∧ w.cell? ⟨g, 4, none⟩ = some e ∧ w.frozen? ⟨g, 0, none⟩ = false ∧ w.frozen? ⟨g, 1, none⟩ = false ∧ w.frozen? ⟨g, 2, none⟩ = false ∧ w.frozen? ⟨g, 3, none⟩ = false ∧ w.frozen? ⟨g, 4, none⟩ = false :=
  ⟨h.cell 0, h.cell 1, h.cell 2, h.cell 3, h.cell 4, h.frozen 0, h.frozen 1, h.frozen 2, h.frozen 3, h.frozen 4⟩

abbrev zS : Obj := .cells #[.slice none 0 0, .int .i64 0, .int .i64 0, .int .i64 0, .int .i64 0] 66
abbrev zI (i : Nat) : Obj := .cells #[.int .i64 (i : Int)] 3
/-- what stands behind the region that makes both sides -/
def PInit (w : World) (gl : Nat) (A : Option Addr) (n c i k : Nat) (x y : Kb) (t6 t7 : Value) (wx : World) : Prop :=
  ∃ g1 g2 p1 p2, t6 = .pointer (some ⟨g1, 0, none⟩) ∧ t7 = .pointer (some ⟨g2, 0, none⟩) ∧ Row wx gl 38 [.slice A n c] ∧ Row wx g1 66 [.slice (some ⟨p1, 0, none⟩) 1 1, .int .i64 x.x0, .int .i64 x.x1, .int .i64 x.y0, .int .i64 x.y1] ∧ Row wx g2 66 [.slice (some ⟨p2, 0, none⟩) 1 1, .int .i64 y.x0, .int .i64 y.x1, .int .i64 y.y0, .int .i64 y.y1] ∧
    Row wx p1 3 [.int .i64 (i : Int)] ∧ Row wx p2 3 [.int .i64 (k : Int)] ∧ g1 ≠ g2 ∧ p1 ≠ p2 ∧ gl < g1 ∧ gl < g2 ∧ gl < p1 ∧ gl < p2 ∧ Below w.heap.size w wx
end Go.Proofs.Ytbmfijcckdkmdaa.Ky
