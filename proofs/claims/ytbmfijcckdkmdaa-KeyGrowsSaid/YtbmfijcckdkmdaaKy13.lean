/-
  Keys: Part, and that the layer does anything.
-/
import Derived.Test.YtbmfijcckdkmdaaKy12
import Derived.Test.YtbmfijcckdkmdaaKySo
import Derived.Sort.OwnSortedInts
import Derived.Test.YtbmfijcckdkmdaaWi2
import Derived.LoopTactic
import Derived.Deep.RegionHeld
import Derived.Deep.Cut
import Derived.WalkLawsBesides
namespace Go.Proofs.Ytbmfijcckdkmdaa.Ky
set_option maxRecDepth 100000
open Go.RowKit Go.Proofs.Ytbmfijcckdkmdaa.Wd Go.Proofs.Ytbmfijcckdkmdaa.Wi Go.Proofs.Ytbmfijcckdkmdaa.Lift


open Go.Sort Go.Shelf
/-- in their order -/
def sortN (l : List Nat) : List Nat := l.mergeSort fun x y => decide (x ≤ y)
theorem sortN_len (l : List Nat) : (sortN l).length = l.length := List.length_mergeSort l
theorem sort_any {base : Nat} {v : Value} {L : List Nat} (w : World) (h : w.ownsRow base 3 1 v L.length (iv L)) (h0 : 0 < L.length) (h1 : L.length ≤ 1000) :
    Calls Try.prog 35 #[v] w fun e w' => e = .returned (.tuple #[]) ∧ w'.ownsRow base 3 1 v (sortN L).length (iv (sortN L)) ∧ w.grownBy w' v.ownBlock := by
  rcases h.2 with ⟨rfl, h2⟩ | ⟨g, cap, cur, rfl, hb, hg, hn, hm, hs, ht⟩
  · omega
  · have e1 : (L.map fun (x : Nat) => (x : Int)).length = L.length := by simp
    have e2 : cur.toList.take (L.map fun (x : Nat) => (x : Int)).length = (L.map fun (x : Nat) => (x : Int)).map (Value.int .i64) := by
      rw [e1]
      rw [Nat.mul_one] at ht
      rw [ht]
      simp [iv]
    have hH := holds_of_blockI hg e2
    have hc := Any.slices_Sort_int sorts189 g 0 cap _ w hH (Array.getElem?_eq_some_iff.1 hg).1 (by rw [e1]; omega)
    rw [e1] at hc
    refine hc.mono ?_
    rintro e w' ⟨rfl, n, os, rfl⟩
    have e3 : ((L.map fun (x : Nat) => (x : Int)).mergeSort fun x y => decide (x ≤ y)) = (sortN L).map fun (x : Nat) => (x : Int) := by
      unfold sortN
      rw [List.map_mergeSort]
      intro a _ b _
      simp
    rw [e3]
    refine ⟨rfl, ?_, grownBy_sortedI _⟩
    have h5 := ownsRow_sortedI (n := n) (os := os) (cap := cap) (ts := (sortN L).map fun (x : Nat) => (x : Int)) (ss := L.map fun (x : Nat) => (x : Int)) (by simp [sortN_len]) hb hg (by rw [e1]; exact hn) hm hs
    rw [e1, List.map_map] at h5
    rw [sortN_len]
    exact h5
theorem many_at {X : Type} {f : X → List Value} {z : Nat} {w w' : World} {A : Option Addr} {xs : List X} (h : Many f z w w.heap.size A xs) (hb : Below w.heap.size w w') : Many f z w' w'.heap.size A xs := (h.below hb).more hb.size

theorem own_lower {w : World} {base base' n : Nat} {e : TypeId} {v : Value} {xs : List Value} (h : w.ownsRow base e 1 v n xs) (hb : base' ≤ base) : w.ownsRow base' e 1 v n xs := by
  refine ⟨h.1, ?_⟩
  rcases h.2 with hn | ⟨g, cap, cur, rfl, hb', rest⟩
  · exact .inl hn
  · exact .inr ⟨g, cap, cur, rfl, Nat.le_trans hb hb', rest⟩
set_option maxHeartbeats 4000000 in
theorem Part_short (ks : List Kb) (A : Option Addr) (n c : Nat) (w : World) (hn : ks.length = n) (hm : n ≤ 1000) (_hM : Many Kb.cells 4 w w.heap.size A ks) (h2 : n < 2) :
    Calls Try.prog 22 #[.slice A n c] w fun e w' => e = .returned (.tuple #[.slice none 0 0, .slice none 0 0, .int .i64 2]) ∧ Below w.heap.size w w' := by
  have h2' : (n : Int) < 2 := by omega
  go_enter Try.func22, Try.ntmps22
  go_wp2
  exact bodyPost_ret (v := .tuple #[.slice none 0 0, .slice none 0 0, .int .i64 2]) (by simp [results, Try.results22, go_sem]) rfl ⟨rfl, Below.refl _ _⟩

set_option maxHeartbeats 4000000 in
theorem Part_bad (ks : List Kb) (A : Option Addr) (n c : Nat) (w : World) (hn : ks.length = n) (hm : n ≤ 1000) (hM : Many Kb.cells 4 w w.heap.size A ks) (h2 : 2 ≤ n) (hk : ks.all Kb.ok = false) :
    Calls Try.prog 22 #[.slice A n c] w fun e w' => e = .returned (.tuple #[.slice none 0 0, .slice none 0 0, .int .i64 2]) ∧ Below w.heap.size w w' := by
  have h2' : ¬ (n : Int) < 2 := by omega
  have HB := Lib.hid (fun w' (hb : Below w.heap.size w w') => boxes_any ks A n c w' hn (by omega) (many_at hM hb))
  rw [hk] at HB
  clear hM hk
  go_enter Try.func22, Try.ntmps22
  go_wp2_with fail
  refine (HB.out _ (Below.refl _ _)).mono ?_
  rintro e w1 ⟨rfl, hb⟩
  have B := Lib.hid hb
  clear hb
  go_wp2
  exact bodyPost_ret (v := .tuple #[.slice none 0 0, .slice none 0 0, .int .i64 2]) (by simp [results, Try.results22, go_sem]) rfl ⟨rfl, B.out⟩

set_option maxHeartbeats 4000000 in
theorem Part_long (ks : List Kb) (A : Option Addr) (n c : Nat) (w : World) (hn : ks.length = n) (hm : n ≤ 1000) (hM : Many Kb.cells 4 w w.heap.size A ks) (h2 : 64 < n) (hk : ks.all Kb.ok = true) :
    Calls Try.prog 22 #[.slice A n c] w fun e w' => e = .returned (.tuple #[.slice none 0 0, .slice none 0 0, .int .i64 3]) ∧ Below w.heap.size w w' := by
  have h2' : ¬ (n : Int) < 2 := by omega
  have h3' : 64 < (n : Int) := by omega
  have HB := Lib.hid (fun w' (hb : Below w.heap.size w w') => boxes_any ks A n c w' hn (by omega) (many_at hM hb))
  rw [hk] at HB
  clear hM hk
  go_enter Try.func22, Try.ntmps22
  go_wp2_with fail
  refine (HB.out _ (Below.refl _ _)).mono ?_
  rintro e w1 ⟨rfl, hb⟩
  have B := Lib.hid hb
  clear hb
  go_wp2
  exact bodyPost_ret (v := .tuple #[.slice none 0 0, .slice none 0 0, .int .i64 3]) (by simp [results, Try.results22, go_sem]) rfl ⟨rfl, B.out⟩

/-- what Part answers of a list that it parts -/
structure Parted (w w' : World) (v1 v2 : Value) (L R : List Nat) : Prop where
  o1 : w'.ownsRow w.heap.size 3 1 v1 (sortN L).length (iv (sortN L))
  o2 : w'.ownsRow w.heap.size 3 1 v2 (sortN R).length (iv (sortN R))
  hb : Below w.heap.size w w'

set_option maxHeartbeats 4000000 in
theorem Part_good (ks : List Kb) (A : Option Addr) (n c : Nat) (w : World) (hn : ks.length = n) (hm : n ≤ 1000) (hM : Many Kb.cells 4 w w.heap.size A ks) (h2 : 2 ≤ n) (h3 : n ≤ 64) (hk : KsOk ks) (s : PS) (hs : partP ks (max 1 (2 * n / 5)) (seedsS ks n).l (seedsS ks n).r n = s) (hL : 0 < s.L.length) (hR : 0 < s.R.length) (hLR : s.L.length + s.R.length ≤ 1000) :
    Calls Try.prog 22 #[.slice A n c] w fun e w' => ∃ v1 v2, e = .returned (.tuple #[v1, v2, .int .i64 0]) ∧ Parted w w' v1 v2 s.L s.R := by
  have hka : ks.all Kb.ok = true := List.all_eq_true.2 hk.ok
  have h2' : ¬ (n : Int) < 2 := by omega
  have h3' : ¬ 64 < (n : Int) := by omega
  have HB := Lib.hid (fun w' (hb : Below w.heap.size w w') => boxes_any ks A n c w' hn (by omega) (many_at hM hb))
  have HP := Lib.hid (fun w' (hb : Below w.heap.size w w') => parted_any ks A n c w' hn h2 hm (many_at hM hb) hk s hs)
  rw [hka] at HB
  clear hM hk hka hs
  obtain ⟨L, R, u, v⟩ := s
  dsimp only at HP hL hR hLR ⊢
  go_enter Try.func22, Try.ntmps22
  go_wp2_with fail
  refine (HB.out _ (Below.refl _ _)).mono ?_
  rintro e w1 ⟨rfl, hb⟩
  have B := Lib.hid hb
  clear hb
  go_wp2_with fail
  refine (HP.out _ B.out).mono ?_
  rintro e w2 ⟨v1, v2, rfl, ho1, ho2, hne, hb⟩
  obtain ⟨A1, c1, rfl⟩ := own_slice ho1
  obtain ⟨A2, c2, rfl⟩ := own_slice ho2
  have hw1 := B.out.size
  have B2 := Lib.hid (B.out.trans (hb.mono B.out.size))
  have O1 := Lib.hid (own_lower ho1 hw1)
  have O2 := Lib.hid (own_lower ho2 hw1)
  have HNE := Lib.hid hne
  clear ho1 ho2 hne hb
  go_wp2_with fail
  refine (sort_any _ O1.out hL (by omega)).mono ?_
  rintro e w3 ⟨rfl, ho3, hg3⟩
  have O3 := Lib.hid ho3
  have O4 := Lib.hid (own_kept O2.out fun k hk he => hg3.block k hk (fun e => HNE.out (by rw [he, ← e])))
  have B3 := Lib.hid (B2.out.grown hg3 B2.out.size (fun k hk => own_base O1.out hk))
  clear ho3 hg3
  go_wp2_with fail
  refine (sort_any _ O4.out hR (by omega)).mono ?_
  rintro e w4 ⟨rfl, ho5, hg5⟩
  have O6 := Lib.hid ho5
  have O5 := Lib.hid (own_kept O3.out fun k hk he => hg5.block k hk (fun e => HNE.out (by rw [he, ← e])))
  have B4 := Lib.hid (B3.out.grown hg5 B3.out.size (fun k hk => own_base O4.out hk))
  clear ho5 hg5
  go_wp2
  exact bodyPost_ret (v := .tuple #[.slice A1 L.length c1, .slice A2 R.length c2, .int .i64 0]) (by simp [results, Try.results22, go_sem]) rfl ⟨_, _, rfl, O5.out, O6.out, B4.out⟩

def ks4 : List Kb := [⟨0, 0, 0, 0⟩, ⟨1, 1, 0, 0⟩, ⟨9, 9, 9, 9⟩, ⟨8, 8, 9, 9⟩]
theorem ks4_ok : KsOk ks4 := by
  refine ⟨fun k hk => ?_, fun k hk => ?_⟩
  · simp only [ks4, List.mem_cons, List.not_mem_nil, or_false] at hk
    rcases hk with rfl | rfl | rfl | rfl <;> decide
  · simp only [ks4, List.mem_cons, List.not_mem_nil, or_false] at hk
    rcases hk with rfl | rfl | rfl | rfl <;> constructor <;> decide
theorem ks4_L : (partP ks4 (max 1 (2 * 4 / 5)) (seedsS ks4 4).l (seedsS ks4 4).r 4).L = [0, 1] := by decide +kernel
theorem ks4_R : (partP ks4 (max 1 (2 * 4 / 5)) (seedsS ks4 4).l (seedsS ks4 4).r 4).R = [2, 3] := by decide +kernel
theorem sort01 : sortN [0, 1] = [0, 1] := List.mergeSort_of_pairwise (by decide)
theorem sort23 : sortN [2, 3] = [2, 3] := List.mergeSort_of_pairwise (by decide)
theorem own_cell {w : World} {base n c : Nat} {e : TypeId} {A : Option Addr} {l : List Nat} (h : w.ownsRow base e 1 (.slice A n c) l.length (iv l)) (hp : 0 < l.length) : ∃ g, A = some ⟨g, 0, none⟩ ∧ base ≤ g ∧ g < w.heap.size ∧ n = l.length ∧ ∀ i, (hi : i < l.length) → w.cell? ⟨g, i, none⟩ = some (.int .i64 (l[i] : Int)) := by
  rcases h.2 with ⟨h1, h2⟩ | ⟨g, cap, cur, hv, hb, hg, hn, hm, hs, ht⟩
  · omega
  · injection hv with e1 e2 e3
    refine ⟨g, e1, hb, (Array.getElem?_eq_some_iff.1 hg).1, e2, fun i hi => ?_⟩
    rw [cell_of_row w g i cur e (0, 0) hg]
    have h4 : (iv l)[i]? = some (.int .i64 (l[i] : Int)) := by simp [iv, hi]
    rw [← ht, List.getElem?_take, if_pos (by omega)] at h4
    rw [← h4]; simp

set_option maxHeartbeats 4000000 in
theorem wakes_any (w : World) : Calls Try.prog 8 #[] w fun e w' => e = .returned (.bool true) ∧ Below w.heap.size w w' := by
  have HP := Lib.hid (fun (w : World) => Part_good ks4 (some ⟨w.heap.size, 0, none⟩) 4 4 (w.alloc (.cells #[.int .i64 0, .int .i64 0, .int .i64 0, .int .i64 0, .int .i64 1, .int .i64 1, .int .i64 0, .int .i64 0, .int .i64 9, .int .i64 9, .int .i64 9, .int .i64 9, .int .i64 8, .int .i64 8, .int .i64 9, .int .i64 9] 23)) rfl (by omega) (many_row ks4 (Row.new w _ _) (fun _ => by simp)) (by omega) (by omega) ks4_ok _ rfl (by rw [ks4_L]; decide) (by rw [ks4_R]; decide) (by rw [ks4_L, ks4_R]; decide))
  rw [ks4_L, ks4_R] at HP
  have HM := Lib.hid (fun w => Meets_any 0 2 0 2 2 3 2 3 w)
  rw [show meetB 0 2 0 2 2 3 2 3 = true from by decide] at HM
  go_enter Try.func8, Try.ntmps8
  go_wp2_with fail
  refine (HP.out _).mono ?_
  rintro e w1 ⟨v1, v2, rfl, hp⟩
  have O1 := hp.o1
  have O2 := hp.o2
  rw [sort01] at O1
  rw [sort23] at O2
  obtain ⟨A1, c1, rfl⟩ := own_slice O1
  obtain ⟨A2, c2, rfl⟩ := own_slice O2
  obtain ⟨g1, rfl, _, _, _, hc1⟩ := own_cell O1 (by decide)
  obtain ⟨g2, rfl, _, _, _, hc2⟩ := own_cell O2 (by decide)
  have k1 : w1.cell? ⟨g1, 1, none⟩ = some (.int .i64 1) := hc1 1 (by decide)
  have k2 : w1.cell? ⟨g2, 0, none⟩ = some (.int .i64 2) := hc2 0 (by decide)
  have B := Lib.hid (((Below.refl w.heap.size w).alloc (Nat.le_refl _) _).trans (hp.hb.mono (by simp)))
  clear hp O1 O2 hc1 hc2
  go_wp2_with fail
  refine (HM.out _).mono ?_
  rintro e w2 ⟨rfl, hb⟩
  have B2 := Lib.hid (B.out.trans (hb.mono B.out.size))
  clear hb
  go_wp2
  go_ret
  exact ⟨rfl, B2.out⟩
end Go.Proofs.Ytbmfijcckdkmdaa.Ky
