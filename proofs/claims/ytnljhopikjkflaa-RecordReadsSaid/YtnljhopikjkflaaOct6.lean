/-
  The contracts of octet.Read and of the statements' wakes.
-/
import Derived.Test.YtnljhopikjkflaaOct5
namespace Go.Proofs.Ytnljhopikjkflaa.Oct
set_option maxRecDepth 100000
open Go.RowKit Go.Proofs.Ytnljhopikjkflaa.Wd

/-- what Read leaves: a new Reader at the first byte -/
def ReadOf (w : World) (l : List UInt8) (e : Ending) (w' : World) : Prop :=
  ∃ g, e = .returned (.pointer (some ⟨g, 0, none⟩)) ∧ w.heap.size ≤ g ∧ Rdr w' g l 0 0 ∧ Below w.heap.size w w'

theorem read_any (A : Option Addr) (l : List UInt8) (n c : Nat) (w : World) (hl : l.length = n) (hn : n ≤ 140737488355328) (B : Nat) (hb : Bs w B A l) (hA : A = none → c = 0) :
    Calls Try.prog 62 #[.slice A n c] w (ReadOf w l) := by
  obtain ⟨i0, hi, hz0, hz1, hz2⟩ := info_parts info5
  have HL := Lib.hid hl
  have HA := Lib.hid hA
  clear hl hA
  go_enter Try.func62, Try.ntmps62
  go_wp2_with (at_builtin; refine wpList_append_bs rfl _ _ 25 rfl w.heap.size 5 i0 (.int .u8 0) Try.underlying25 hi hz0 hz1 hz2 rfl (.slice none 0 0) 0 [] rfl (World.ownsRow_nil _ _ _ _) A n c l rfl HL.out B hb HA.out (by omega) (Nat.le_refl _) ?_; intro v w2 hown2 hg2; obtain ⟨A2, c2, rfl, hl2, hn2, hc2, hA2, hbs2, _⟩ := own_bs (l := l) (by simpa using hown2); clear hown2; have HL2 := Lib.hid hl2; have HA2 := Lib.hid hA2; clear hl2 hA2)
  go_ret
  have hbel : Below w.heap.size w w2 := (Below.refl _ _).grown hg2 (Nat.le_refl _) (fun k hk => by cases hk)
  refine ⟨w2.heap.size, rfl, hbel.size, ⟨A2, n, c2, ?_, (show _ = _ from HL.out), hbs2.alloc (Nat.le_refl _) _, Nat.zero_le _, ?_, ?_, HA2.out⟩, hbel.alloc hbel.size _⟩
  · simpa using Row.new w2 99 [.slice A2 n c2, .int .i64 0, .int .i64 0]
  · omega
  · unfold maxLen at hc2; omega

theorem lit_bs (w : World) (l : List UInt8) (t : TypeId) : Bs (w.alloc (.cells (bv l).toArray t)) (w.heap.size + 1) (some ⟨w.heap.size, 0, none⟩) l :=
  (Row.new w t (bv l)).bs (by omega)

theorem eq_lits (w : World) (h : Nat) (hh : h = w.heap.size) (a b : UInt8) (i j : Int) (hi : i = a.toNat) (hj : j = b.toNat) :
    Calls Try.prog 21 #[.slice (some ⟨h, 0, none⟩) 1 1, .slice (some ⟨h + 1, 0, none⟩) 1 1] ((w.alloc (.cells #[.int .u8 i] 5)).alloc (.cells #[.int .u8 j] 5)) fun e w' =>
      e = .returned (.bool (decide (a = b))) ∧ ((w.alloc (.cells #[.int .u8 i] 5)).alloc (.cells #[.int .u8 j] 5)) = w' := by
  subst hh hi hj
  have b1 : Bs ((w.alloc (.cells #[.int .u8 (a.toNat : Int)] 5)).alloc (.cells #[.int .u8 (b.toNat : Int)] 5)) (w.heap.size + 1) (some ⟨w.heap.size, 0, none⟩) [a] := (lit_bs w [a] _).alloc (by simp) _
  have b2 : Bs ((w.alloc (.cells #[.int .u8 (a.toNat : Int)] 5)).alloc (.cells #[.int .u8 (b.toNat : Int)] 5)) (w.heap.size + 1 + 1) (some ⟨w.heap.size + 1, 0, none⟩) [b] := by
    have := lit_bs (w.alloc (.cells #[.int .u8 (a.toNat : Int)] 5)) [b] 5
    simpa [bv] using this
  refine (equal_any _ _ [a] [b] 1 1 _ (by simp [maxLen]) _ _ b1 b2).mono ?_
  rintro e w' ⟨rfl, rfl⟩
  exact ⟨ret_bool (by simp), rfl⟩

theorem same_true (A1 A2 : Option Addr) (l : List UInt8) (c1 c2 n1 n2 : Nat) (w : World) (h1 : l.length = n1) (h2 : l.length = n2) (hm : n1 ≤ 140737488355336) (B1 B2 : Nat) (r1 : Bs w B1 A1 l) (r2 : Bs w B2 A2 l) :
    Calls Try.prog 16 #[.slice A1 n1 c1, .slice A2 n2 c2] w fun e w' => e = .returned (.bool true) ∧ Still w w' := by
  subst h1
  subst h2
  have := same_any A1 A2 l l c1 c2 w (by unfold maxLen; omega) B1 B2 r1 r2
  rwa [decide_eq_true rfl] at this

theorem same_n (A1 A2 : Option Addr) (l1 l2 : List UInt8) (c1 c2 n1 n2 : Nat) (w : World) (h1 : l1.length = n1) (h2 : l2.length = n2) (hm : n1 ≤ 140737488355336) (B1 B2 : Nat) (r1 : Bs w B1 A1 l1) (r2 : Bs w B2 A2 l2) :
    Calls Try.prog 16 #[.slice A1 n1 c1, .slice A2 n2 c2] w fun e w' => e = .returned (.bool (decide (l1 = l2))) ∧ Still w w' := by
  subst h1
  subst h2
  exact same_any A1 A2 l1 l2 c1 c2 w (by unfold maxLen; omega) B1 B2 r1 r2

theorem equal_n (A1 A2 : Option Addr) (l1 l2 : List UInt8) (c1 c2 n1 n2 : Nat) (w : World) (h1 : l1.length = n1) (h2 : l2.length = n2) (hm : n1 ≤ 140737488355336) (B1 B2 : Nat) (r1 : Bs w B1 A1 l1) (r2 : Bs w B2 A2 l2) :
    Calls Try.prog 21 #[.slice A1 n1 c1, .slice A2 n2 c2] w fun e w' => e = .returned (.bool (decide (l1 = l2))) ∧ w = w' := by
  subst h1
  subst h2
  exact equal_any A1 A2 l1 l2 c1 c2 w (by unfold maxLen; omega) B1 B2 r1 r2

theorem below_still {B : Nat} {a w w' : World} (h : Below B a w) (hs : Still w w') : Below B a w' := by
  obtain ⟨n, rfl⟩ := hs
  exact ⟨h.os, h.tape, h.output, h.size, h.block⟩
end Go.Proofs.Ytnljhopikjkflaa.Oct
