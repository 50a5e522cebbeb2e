/-
  The contracts of octet.Read and of the statements' wakes.
-/
import Derived.Test.YtnojkoefdigcnaaOct5
namespace Go.Proofs.Ytnojkoefdigcnaa.Oct
set_option maxRecDepth 100000
open Go.RowKit Go.Proofs.Ytnojkoefdigcnaa.Wd

/-- what Read leaves: a new Reader at the first byte -/
def ReadOf (w : World) (l : List UInt8) (e : Ending) (w' : World) : Prop :=
  ∃ g, e = .returned (.pointer (some ⟨g, 0, none⟩)) ∧ w.heap.size ≤ g ∧ Rdr w' g l 0 0 ∧ Below w.heap.size w w'

theorem read_any (A : Option Addr) (l : List UInt8) (n c : Nat) (w : World) (hl : l.length = n) (hn : n ≤ 140737488355328) (B : Nat) (hb : Bs w B A l) (hA : A = none → c = 0) :
    Calls Try.prog 38 #[.slice A n c] w (ReadOf w l) := by
  obtain ⟨i0, hi, hz0, hz1, hz2⟩ := info_parts info5
  have HL := Lib.hid hl
  have HA := Lib.hid hA
  clear hl hA
  go_enter Try.func38, Try.ntmps38
  go_wp2_with (at_builtin; refine wpList_append_bs rfl _ _ 31 rfl w.heap.size 5 i0 (.int .u8 0) Try.underlying31 hi hz0 hz1 hz2 rfl (.slice none 0 0) 0 [] rfl (World.ownsRow_nil _ _ _ _) A n c l rfl HL.out B hb HA.out (by omega) (Nat.le_refl _) ?_; intro v w2 hown2 hg2; obtain ⟨A2, c2, rfl, hl2, hn2, hc2, hA2, hbs2, _⟩ := own_bs (l := l) (by simpa using hown2); clear hown2; have HL2 := Lib.hid hl2; have HA2 := Lib.hid hA2; clear hl2 hA2)
  go_ret
  have hbel : Below w.heap.size w w2 := (Below.refl _ _).grown hg2 (Nat.le_refl _) (fun k hk => by cases hk)
  refine ⟨w2.heap.size, rfl, hbel.size, ⟨A2, n, c2, ?_, (show _ = _ from HL.out), hbs2.alloc (Nat.le_refl _) _, Nat.zero_le _, ?_, ?_, HA2.out⟩, hbel.alloc hbel.size _⟩
  · simpa using Row.new w2 115 [.slice A2 n c2, .int .i64 0, .int .i64 0]
  · omega
  · unfold maxLen at hc2; omega

theorem lit_bs (w : World) (l : List UInt8) (t : TypeId) : Bs (w.alloc (.cells (bv l).toArray t)) (w.heap.size + 1) (some ⟨w.heap.size, 0, none⟩) l :=
  (Row.new w t (bv l)).bs (by omega)

theorem below_still {B : Nat} {a w w' : World} (h : Below B a w) (hs : Still w w') : Below B a w' := by
  obtain ⟨n, rfl⟩ := hs
  exact ⟨h.os, h.tape, h.output, h.size, h.block⟩
end Go.Proofs.Ytnojkoefdigcnaa.Oct
