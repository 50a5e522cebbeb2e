/-
  KeyFair: a list is parted so that each place is told once, rising, and each side has two fifths at least. No condition.
-/
import Derived.Test.YtbmfijcckdkmdaaKy16
import Derived.Test.YtbmfijcckdkmdaaWiO
import Derived.Deep.RegionHeld
import Derived.Deep.Cut
import Derived.WalkLawsBesides
namespace Go.Proofs.Ytbmfijcckdkmdaa.KeyFair
set_option maxRecDepth 100000
open Go.ChangeShapes Go.WideShapes Go.ChangeAt Go.RowKit Go.Proofs.Ytbmfijcckdkmdaa.Wd Go.Proofs.Ytbmfijcckdkmdaa.Wi Go.Proofs.Ytbmfijcckdkmdaa.Ky

theorem own : ownKnob Try.prog.godebug = none := by kernel_rfl
theorem laidOut : laidOutB Try.prog = true := by kernel_rfl

open Go.Proofs.Ytbmfijcckdkmdaa.Lift
/-- which places were seen -/
def seenC (n : Nat) (pre : List Nat) : List Value := (List.range n).map fun m => .bool (decide (m ∈ pre))
theorem seen_nil (n : Nat) : seenC n [] = List.replicate n (.bool false) := by
  simp [seenC, List.map_const']
theorem seen_get {n x : Nat} {pre : List Nat} (hx : x < n) (hp : x ∉ pre) : (seenC n pre)[x]? = some (.bool false) := by
  simp [seenC, hx, hp]
theorem seen_set {n x : Nat} {pre : List Nat} (hx : x < n) : (seenC n pre).set x (.bool true) = seenC n (pre ++ [x]) := by
  apply List.ext_getElem?
  intro m
  rw [List.getElem?_set]
  by_cases h : x = m
  · subst h
    simp [seenC, hx]
  · rw [if_neg h]
    have h2 : ¬ m = x := fun e => h e.symm
    by_cases hm : m < n
    · simp [seenC, hm, h2]
    · simp [seenC, hm]
/-- what the rounds hold -/
structure FI (w wr : World) (gs gl g1 g2 n na nb c1 c2 : Nat) (a b pre : List Nat) : Prop where
  rs : Row wr gs 4 (seenC n pre)
  rl : Row wr gl 39 [.slice (some ⟨g1, 0, none⟩) na c1, .slice (some ⟨g2, 0, none⟩) nb c2]
  ca : ∀ i (h : i < a.length), wr.cell? ⟨g1, i, none⟩ = some (.int .i64 (a[i] : Int))
  cb : ∀ i (h : i < b.length), wr.cell? ⟨g2, i, none⟩ = some (.int .i64 (b[i] : Int))
  hb : Below w.heap.size w wr
theorem FI.set {w wr : World} {gs gl g1 g2 n na nb c1 c2 x : Nat} {a b pre : List Nat} (h : FI w wr gs gl g1 g2 n na nb c1 c2 a b pre) (hx : x < n) (h0 : w.heap.size ≤ gs) (h1 : gl ≠ gs) (h2 : g1 ≠ gs) (h3 : g2 ≠ gs) : FI w (wr.setCell ⟨gs, x, none⟩ (.bool true)) gs gl g1 g2 n na nb c1 c2 a b (pre ++ [x]) :=
  ⟨by rw [← seen_set hx]; exact h.rs.store x _, h.rl.far (p := ⟨gs, x, none⟩) h1 _, fun i hi => (World.cell?_of_block (Below.heap_setCell wr ⟨gs, x, none⟩ _ g1 h2)).trans (h.ca i hi), fun i hi => (World.cell?_of_block (Below.heap_setCell wr ⟨gs, x, none⟩ _ g2 h3)).trans (h.cb i hi), h.hb.setCell (p := ⟨gs, x, none⟩) h0 _⟩
set_option maxHeartbeats 4000000 in
theorem walk_no (A : Option Addr) (n c : Nat) (w : World) (E : Int) (hE : ¬ E = 0) (hn : n ≤ 200) (HP : ∀ w', Below w.heap.size w w' → Calls Try.prog 22 #[.slice A n c] w' fun e w'' => e = .returned (.tuple #[.slice none 0 0, .slice none 0 0, .int .i64 E]) ∧ Below w'.heap.size w' w'') :
    Calls Try.prog 7 #[.slice A n c] w fun e w' => e = .returned (.bool true) ∧ Below w.heap.size w w' := by
  have HP := Lib.hid HP
  have HW := Lib.hid wakes_any
  have hn' : ¬ 200 < (n : Int) := by omega
  go_enter Try.func7, Try.ntmps7
  go_wp2_with fail
  refine (HW.out _).mono ?_
  rintro e w1 ⟨rfl, hb⟩
  have B := Lib.hid hb
  clear hb
  go_wp2_with fail
  refine (HP.out _ B.out).mono ?_
  rintro e w2 ⟨rfl, hb⟩
  have B2 := Lib.hid (B.out.trans (hb.mono B.out.size))
  clear hb
  go_wp2
  go_ret
  exact ⟨rfl, B2.out⟩
theorem walk_big (A : Option Addr) (n c : Nat) (w : World) (hn : 200 < n) (hm : n ≤ maxLen) :
    Calls Try.prog 7 #[.slice A n c] w fun e w' => e = .returned (.bool true) ∧ Below w.heap.size w w' := by
  have HW := Lib.hid wakes_any
  have hn' : 200 < (n : Int) := by omega
  unfold maxLen at hm
  go_enter Try.func7, Try.ntmps7
  go_wp2_with fail
  refine (HW.out _).mono ?_
  rintro e w1 ⟨rfl, hb⟩
  have B := Lib.hid hb
  clear hb
  go_wp2
  go_ret
  exact ⟨rfl, B.out⟩
theorem info_bool : (Try.prog.info? 4).map (fun i => (i.zero, i.size, i.bytes)) = some (some (.bool false), 1, 1) := by kernel_rfl
theorem make_bool (n : Nat) (hn : n ≤ 200) (u : World) : (Instr.makeSlice 42 (.int .i64 (n : Int)) (.int .i64 (n : Int))).run Try.prog u =
    .ok (.slice (some ⟨u.heap.size, 0, none⟩) n n) (u.alloc (.cells (madeCells #[.bool false] n) 4)) := by
  obtain ⟨i0, hi, hz0, hz1, hz2⟩ := info_parts info_bool
  have h := run_make (P := Try.prog) u 42 4 i0 (.bool false) Try.underlying42 hi hz0 .i64 .i64 (n : Int) (n : Int) (by omega) (by omega) (by rw [hz2]; omega) (by omega)
  rw [hz1] at h
  rw [show (Value.bool false).cells = #[.bool false] from rfl] at h
  simpa using h

set_option maxHeartbeats 8000000 in
theorem walk_good (A : Option Addr) (n c least : Nat) (w : World) (L R : List Nat) (h2 : 2 ≤ n) (hn : n ≤ 64) (hle : least = max 1 (2 * n / 5)) (hp : Parts n least L R)
    (HP : ∀ w', Below w.heap.size w w' → Calls Try.prog 22 #[.slice A n c] w' fun e w'' => ∃ v1 v2, e = .returned (.tuple #[v1, v2, .int .i64 0]) ∧ Parted w' w'' v1 v2 L R) :
    Calls Try.prog 7 #[.slice A n c] w fun e w' => e = .returned (.bool true) ∧ Below w.heap.size w w' := by
  have HP := Lib.hid HP
  have HW := Lib.hid wakes_any
  have hn' : ¬ 200 < (n : Int) := by omega
  obtain ⟨hq, hpa, hpb⟩ := hp.sorted
  obtain ⟨a, ha⟩ : ∃ a, sortN L = a := ⟨_, rfl⟩
  obtain ⟨b, hb⟩ : ∃ b, sortN R = b := ⟨_, rfl⟩
  rw [ha, hb] at hq
  rw [ha] at hpa
  rw [hb] at hpb
  have HA := Lib.hid ha
  have HB := Lib.hid hb
  have HQ := Lib.hid hq
  have HPA := Lib.hid hpa
  have HPB := Lib.hid hpb
  obtain ⟨na, hna⟩ : ∃ na, na = a.length := ⟨_, rfl⟩
  obtain ⟨nb, hnb⟩ : ∃ nb, nb = b.length := ⟨_, rfl⟩
  have HNA := Lib.hid hna
  have HNB := Lib.hid hnb
  have hs1 : (na : Int) + (nb : Int) = (n : Int) := by have := hq.sum; omega
  have hs2 : ¬ (na : Int) < (least : Int) := by have := hq.l1; omega
  have hs3 : ¬ (nb : Int) < (least : Int) := by have := hq.l2; omega
  have hs4 : 0 < na := by have := hq.l1; omega
  have hs5 : 0 < nb := by have := hq.l2; omega
  obtain ⟨q, hq0⟩ : ∃ q : Nat, q = 2 * n / 5 := ⟨_, rfl⟩
  have hq1 : ((2 * (n : Int)).tdiv 5) = (q : Int) := by rw [Int.tdiv_eq_ediv_of_nonneg (by omega), hq0]; omega
  have hq2 : (if (q : Int) < 1 then (1 : Int) else (q : Int)) = (least : Int) := by rw [hle, ← hq0]; split <;> omega
  have hq3 : wrap64 (q : Int) = (q : Int) := by unfold wrap64; omega
  clear ha hb hq hpa hpb hna hnb hle hq0 hp
  go_enter Try.func7, Try.ntmps7
  go_wp2_with fail
  refine (HW.out _).mono ?_
  rintro e w1 ⟨rfl, hb⟩
  have B := Lib.hid hb
  clear hb
  go_wp2_with fail
  refine (HP.out _ B.out).mono ?_
  rintro e w2 ⟨v1, v2, rfl, hpt⟩
  have O1 := hpt.o1
  have O2 := hpt.o2
  rw [HA.out] at O1
  rw [HB.out] at O2
  obtain ⟨A1, c1, rfl⟩ := own_slice O1
  obtain ⟨A2, c2, rfl⟩ := own_slice O2
  obtain ⟨g1, rfl, hg1, hl1, _, hc1⟩ := own_cell O1 (by rw [← HNA.out]; exact hs4)
  obtain ⟨g2, rfl, hg2, hl2, _, hc2⟩ := own_cell O2 (by rw [← HNB.out]; exact hs5)
  rw [← HNA.out, ← HNB.out]
  have B2 := Lib.hid (B.out.trans (hpt.hb.mono B.out.size))
  have HC1 := Lib.hid hc1
  have HC2 := Lib.hid hc2
  clear hpt O1 O2 hc1 hc2
  have hmk := make_bool n (by omega) w2
  go_upto_region 12 with fail
  clear hmk
  have HI0 : Hid (FI w ((w2.alloc (.cells (madeCells #[.bool false] n) 4)).alloc (.cells #[.slice (some ⟨g1, 0, none⟩) na c1, .slice (some ⟨g2, 0, none⟩) nb c2] 39)) w2.heap.size (w2.heap.size + 1) g1 g2 n na nb c1 c2 a b []) := Lib.hid ⟨by rw [seen_nil]; exact (Row.made w2 _ _ n).alloc _, by have := Row.new (w2.alloc (.cells (madeCells #[.bool false] n) 4)) 39 [.slice (some ⟨g1, 0, none⟩) na c1, .slice (some ⟨g2, 0, none⟩) nb c2]; rw [World.size_alloc] at this; exact this,
    fun i hi => by rw [← HC1.out i hi]; exact World.cell?_of_block (((Below.heap_alloc _ _ g1 (by simp; omega)).trans (Below.heap_alloc _ _ g1 hl1))), fun i hi => by rw [← HC2.out i hi]; exact World.cell?_of_block (((Below.heap_alloc _ _ g2 (by simp; omega)).trans (Below.heap_alloc _ _ g2 hl2))), (B2.out.alloc B2.out.size _).alloc (by have := B2.out.size; simp; omega) _⟩
  have hsz := B2.out.size
  go_wp2_with fail
  obtain ⟨gs, hgs⟩ : ∃ g, g = w2.heap.size := ⟨_, rfl⟩
  rw [← hgs] at HI0 hsz hl1 hl2 ⊢
  generalize (w2.alloc (.cells (madeCells #[.bool false] n) 4)).alloc (.cells #[.slice (some ⟨g1, 0, none⟩) na c1, .slice (some ⟨g2, 0, none⟩) nb c2] 39) = w3 at HI0 ⊢
  clear hgs HC1 HC2 B2 B
  go_loopw [63] (fun t wr => ∃ z : Nat, z ≤ 2 ∧ t = .int .i64 (z : Int) ∧ Hid (FI w wr gs (gs + 1) g1 g2 n na nb c1 c2 a b (if z = 0 then [] else if z = 1 then a else a ++ b))) (fun t _ => 2 - (intOf t).toNat)
  case atStart => exact ⟨0, by omega, rfl, by rw [if_pos rfl]; exact HI0⟩
  case round =>
    clear HI0
    obtain ⟨z, hz, rfl, HI⟩ := hrel
    have hz3 : z = 0 ∨ z = 1 ∨ z = 2 := by omega
    rcases hz3 with rfl | rfl | rfl
    · have HJ0 : Hid (FI w wr gs (gs + 1) g1 g2 n na nb c1 c2 a b ([] ++ a.take 0)) := Lib.hid (by have := HI.out; simpa using this)
      have k0 := HI.out.rl.cell 0
      simp only [List.getElem?_cons_zero] at k0
      clear HI
      go_wp2_with fail
      clear k0
      go_loopw [69] (fun t wr => ∃ y : Nat, y ≤ na ∧ t = .int .i64 (y : Int) ∧ Hid (FI w wr gs (gs + 1) g1 g2 n na nb c1 c2 a b ([] ++ a.take y))) (fun t _ => na - (intOf t).toNat)
      case atStart => exact ⟨0, by omega, rfl, HJ0⟩
      case round =>
        clear HJ0
        obtain ⟨y, hy, rfl, HJ⟩ := hrel
        by_cases hlt2 : y < na
        case neg =>
          have h1 : ¬ (y : Int) < (na : Int) := by omega
          have hyn : na = y := by omega
          subst hyn
          have HI2 : Hid (FI w wr gs (gs + 1) g1 g2 n na nb c1 c2 a b (if 0 + 1 = 0 then [] else if 0 + 1 = 1 then a else a ++ b)) := Lib.hid (by
            have h := HJ.out
            rw [List.take_of_length_le (by rw [← HNA.out]; exact Nat.le_refl _)] at h
            simpa using h)
          go_wp2_with fail
          go_roundw
          case rel => exact ⟨0 + 1, by omega, by go_num, HI2⟩
          case measure => simp [intOf]
        have h1 : (y : Int) < (na : Int) := by omega
        have hyl : y < a.length := by rw [← HNA.out]; exact hlt2
        obtain ⟨x, hx⟩ : ∃ x, a[y] = x := ⟨_, rfl⟩
        have hxm : x ∈ a := by rw [← hx]; exact List.getElem_mem hyl
        have hxn : x < n := HQ.out.lt x (List.mem_append.2 (.inl hxm))
        have hni : x ∉ [] ++ a.take y := by
          have hd := HQ.out.nodup
          have hsp : a ++ b = ([] ++ a.take y) ++ (a.drop y ++ b) := by
            rw [List.nil_append, ← List.append_assoc, List.take_append_drop]
          rw [hsp] at hd
          intro hm
          exact (List.nodup_append.1 hd).2.2 x hm x (by rw [List.drop_eq_getElem_cons hyl, hx]; simp) rfl
        have hts : ([] ++ a.take y) ++ [x] = [] ++ a.take (y + 1) := by
          rw [List.append_assoc, List.take_succ_eq_append_getElem hyl, hx]
        have k1 : wr.cell? ⟨g1, y, none⟩ = some (.int .i64 (x : Int)) := by rw [HJ.out.ca y hyl, hx]
        have k2 : wr.cell? ⟨gs, x, none⟩ = some (.bool false) := by rw [HJ.out.rs.cell x]; exact seen_get hxn hni
        have k3 : wr.frozen? ⟨gs, x, none⟩ = false := HJ.out.rs.frozen x
        have hx0 : ¬ (x : Int) < 0 := by omega
        have hx1 : ¬ (n : Int) ≤ (x : Int) := by omega
        have hx2 : (x : Int) < (n : Int) := by omega
        have HJ1 : Hid (FI w (wr.setCell ⟨gs, x, none⟩ (.bool true)) gs (gs + 1) g1 g2 n na nb c1 c2 a b ([] ++ a.take (y + 1))) := Lib.hid (by rw [← hts]; exact HJ.out.set hxn (by omega) (by omega) (by omega) (by omega))
        by_cases hy0 : y = 0
        · subst hy0
          clear hts hni hxm hx HJ
          go_wp2_with fail
          go_roundw
          case rel => exact ⟨0 + 1, by omega, by go_num, HJ1⟩
          case measure => simp [intOf]; omega
        · obtain ⟨y', rfl⟩ : ∃ y', y = y' + 1 := ⟨y - 1, by omega⟩
          have hyl' : y' < a.length := by omega
          obtain ⟨x', hx'⟩ : ∃ x', a[y'] = x' := ⟨_, rfl⟩
          have k4 : wr.cell? ⟨g1, y', none⟩ = some (.int .i64 (x' : Int)) := by rw [HJ.out.ca y' hyl', hx']
          have hlt3 : x' < x := by
            have := List.pairwise_iff_getElem.1 HPA.out y' (y' + 1) hyl' hyl (by omega)
            rw [hx', hx] at this
            exact this
          have hx3 : ¬ (x : Int) ≤ (x' : Int) := by omega
          have hp0 : 0 < ((y' + 1 : Nat) : Int) := by omega
          have hsb : ((y' + 1 : Nat) : Int) - 1 = (y' : Int) := by omega
          clear hts hni hxm hx hx' HJ hy0
          go_wp2_with fail
          go_roundw
          case rel => exact ⟨y' + 1 + 1, by omega, by go_num, HJ1⟩
          case measure => simp [intOf]; omega
    · have HJ0 : Hid (FI w wr gs (gs + 1) g1 g2 n na nb c1 c2 a b (a ++ b.take 0)) := Lib.hid (by have := HI.out; simpa using this)
      have k0 := HI.out.rl.cell 1
      simp only [List.getElem?_cons_zero, List.getElem?_cons_succ] at k0
      clear HI
      go_wp2_with fail
      clear k0
      go_loopw [69] (fun t wr => ∃ y : Nat, y ≤ nb ∧ t = .int .i64 (y : Int) ∧ Hid (FI w wr gs (gs + 1) g1 g2 n na nb c1 c2 a b (a ++ b.take y))) (fun t _ => nb - (intOf t).toNat)
      case atStart => exact ⟨0, by omega, rfl, HJ0⟩
      case round =>
        clear HJ0
        obtain ⟨y, hy, rfl, HJ⟩ := hrel
        by_cases hlt2 : y < nb
        case neg =>
          have h1 : ¬ (y : Int) < (nb : Int) := by omega
          have hyn : nb = y := by omega
          subst hyn
          have HI2 : Hid (FI w wr gs (gs + 1) g1 g2 n na nb c1 c2 a b (if 1 + 1 = 0 then [] else if 1 + 1 = 1 then a else a ++ b)) := Lib.hid (by
            have h := HJ.out
            rw [List.take_of_length_le (by rw [← HNB.out]; exact Nat.le_refl _)] at h
            simpa using h)
          go_wp2_with fail
          go_roundw
          case rel => exact ⟨1 + 1, by omega, by go_num, HI2⟩
          case measure => simp [intOf]
        have h1 : (y : Int) < (nb : Int) := by omega
        have hyl : y < b.length := by rw [← HNB.out]; exact hlt2
        obtain ⟨x, hx⟩ : ∃ x, b[y] = x := ⟨_, rfl⟩
        have hxm : x ∈ b := by rw [← hx]; exact List.getElem_mem hyl
        have hxn : x < n := HQ.out.lt x (List.mem_append.2 (.inr hxm))
        have hni : x ∉ a ++ b.take y := by
          have hd := HQ.out.nodup
          have hsp : a ++ b = (a ++ b.take y) ++ (b.drop y) := by
            rw [List.append_assoc, List.take_append_drop]
          rw [hsp] at hd
          intro hm
          exact (List.nodup_append.1 hd).2.2 x hm x (by rw [List.drop_eq_getElem_cons hyl, hx]; simp) rfl
        have hts : (a ++ b.take y) ++ [x] = a ++ b.take (y + 1) := by
          rw [List.append_assoc, List.take_succ_eq_append_getElem hyl, hx]
        have k1 : wr.cell? ⟨g2, y, none⟩ = some (.int .i64 (x : Int)) := by rw [HJ.out.cb y hyl, hx]
        have k2 : wr.cell? ⟨gs, x, none⟩ = some (.bool false) := by rw [HJ.out.rs.cell x]; exact seen_get hxn hni
        have k3 : wr.frozen? ⟨gs, x, none⟩ = false := HJ.out.rs.frozen x
        have hx0 : ¬ (x : Int) < 0 := by omega
        have hx1 : ¬ (n : Int) ≤ (x : Int) := by omega
        have hx2 : (x : Int) < (n : Int) := by omega
        have HJ1 : Hid (FI w (wr.setCell ⟨gs, x, none⟩ (.bool true)) gs (gs + 1) g1 g2 n na nb c1 c2 a b (a ++ b.take (y + 1))) := Lib.hid (by rw [← hts]; exact HJ.out.set hxn (by omega) (by omega) (by omega) (by omega))
        by_cases hy0 : y = 0
        · subst hy0
          clear hts hni hxm hx HJ
          go_wp2_with fail
          go_roundw
          case rel => exact ⟨0 + 1, by omega, by go_num, HJ1⟩
          case measure => simp [intOf]; omega
        · obtain ⟨y', rfl⟩ : ∃ y', y = y' + 1 := ⟨y - 1, by omega⟩
          have hyl' : y' < b.length := by omega
          obtain ⟨x', hx'⟩ : ∃ x', b[y'] = x' := ⟨_, rfl⟩
          have k4 : wr.cell? ⟨g2, y', none⟩ = some (.int .i64 (x' : Int)) := by rw [HJ.out.cb y' hyl', hx']
          have hlt3 : x' < x := by
            have := List.pairwise_iff_getElem.1 HPB.out y' (y' + 1) hyl' hyl (by omega)
            rw [hx', hx] at this
            exact this
          have hx3 : ¬ (x : Int) ≤ (x' : Int) := by omega
          have hp0 : 0 < ((y' + 1 : Nat) : Int) := by omega
          have hsb : ((y' + 1 : Nat) : Int) - 1 = (y' : Int) := by omega
          clear hts hni hxm hx hx' HJ hy0
          go_wp2_with fail
          go_roundw
          case rel => exact ⟨y' + 1 + 1, by omega, by go_num, HJ1⟩
          case measure => simp [intOf]; omega
    · have B := Lib.hid HI.out.hb
      go_wp2
      go_ret
      exact ⟨rfl, B.out⟩

theorem step_lr {ks : List Kb} {n i k : Nat} {s : SS} (h : s.l < s.r ∧ s.r < n) (hk : i < k ∧ k < n) : (stepS ks i s k).l < (stepS ks i s k).r ∧ (stepS ks i s k).r < n := by
  unfold stepS
  split
  · exact hk
  · exact h
theorem row_lr {ks : List Kb} {n i : Nat} {s : SS} (h : s.l < s.r ∧ s.r < n) : ∀ m, i + 1 + m ≤ n → (rowS ks s i m).l < (rowS ks s i m).r ∧ (rowS ks s i m).r < n
  | 0, _ => h
  | m + 1, hm => by rw [rowS_succ]; exact step_lr (row_lr h m (by omega)) (by omega)
theorem seeds_lr {ks : List Kb} {n : Nat} (hn : ks.length = n) (h2 : 2 ≤ n) : ∀ j, j ≤ n → (seedsS ks j).l < (seedsS ks j).r ∧ (seedsS ks j).r < n
  | 0, _ => by rw [seedsS_zero]; show 0 < 1 ∧ 1 < n; omega
  | j + 1, hj => by rw [seedsS_succ]; exact row_lr (seeds_lr hn h2 j (by omega)) _ (by omega)
theorem walk (ks : List Kb) (A : Option Addr) (n c : Nat) (w : World) (hn : ks.length = n) (hm : n ≤ maxLen) (hM : Many Kb.cells 4 w w.heap.size A ks) (hK : ∀ k ∈ ks, KOk k.x0 k.x1 k.y0 k.y1) :
    Calls Try.prog 7 #[.slice A n c] w fun e w' => e = .returned (.bool true) ∧ Below w.heap.size w w' := by
  by_cases hb : 200 < n
  · exact walk_big A n c w hb hm
  by_cases h2 : n < 2
  · exact walk_no A n c w 2 (by decide) (by omega) (fun w' hw => Part_short ks A n c w' hn (by omega) (many_at hM hw) h2)
  cases hk : ks.all Kb.ok
  · exact walk_no A n c w 2 (by decide) (by omega) (fun w' hw => Part_bad ks A n c w' hn (by omega) (many_at hM hw) (by omega) hk)
  by_cases h3 : 64 < n
  · exact walk_no A n c w 3 (by decide) (by omega) (fun w' hw => Part_long ks A n c w' hn (by omega) (many_at hM hw) h3 hk)
  have hko : KsOk ks := ⟨fun k hk' => List.all_eq_true.1 hk k hk', hK⟩
  obtain ⟨hlr, hr⟩ := seeds_lr hn (by omega) n (Nat.le_refl _)
  have hp := parts_all (least := max 1 (2 * n / 5)) hko hn (by omega) hr (by omega) (by omega) (Nat.ne_of_lt hlr)
  refine walk_good A n c _ w _ _ (by omega) (by omega) rfl hp (fun w' hw => Part_good ks A n c w' hn (by omega) (many_at hM hw) (by omega) (by omega) hko _ rfl ?_ ?_ ?_)
  · have := hp.l1; omega
  · have := hp.l2; omega
  · have := hp.sum; omega

section
variable {H : Type} {enc : TypeId × Value → H} {W : World}
theorem open_keyc {fuel : Nat} {cs : List Value} {x : DataW H × List MemPlace} (hf : DataW.trod enc Try.prog W 0 (fun _ => true) true fuel 23 cs = some x) : ∃ k : Kb, cs = k.cells ∧ KOk k.x0 k.x1 k.y0 k.y1 := by
  obtain ⟨f0, f1, f2, f3, hu, t0, t1, t2, t3, o0, o1, o2, o3⟩ := key_fields
  obtain ⟨xs, n, _, hx, hl, hlen, hf⟩ := DataW.trod_struct hu hf
  rw [cells_key] at hl
  match xs, hlen, cs, hl with
  | [z0, z1, z2, z3], _, [v0, v1, v2, v3], _ =>
    have g0 := hf 0 f0 rfl
    have g1 := hf 1 f1 rfl
    have g2 := hf 2 f2 rfl
    have g3 := hf 3 f3 rfl
    simp [t0, t1, t2, t3, o0, o1, o2, o3, cells_i64] at g0 g1 g2 g3
    obtain ⟨a, e0, _, w0⟩ := DataW.trod_int Try.underlying2 g0
    obtain ⟨b, e1, _, w1⟩ := DataW.trod_int Try.underlying2 g1
    obtain ⟨c, e2, _, w2⟩ := DataW.trod_int Try.underlying2 g2
    obtain ⟨d, e3, _, w3⟩ := DataW.trod_int Try.underlying2 g3
    simp [Lit.wf, IntKind.min, IntKind.max, IntKind.signed, IntKind.bits] at w0 w1 w2 w3
    simp at e0 e1 e2 e3
    exact ⟨⟨a, b, c, d⟩, by rw [e0, e1, e2, e3]; rfl, ⟨w0.1, w0.2, w1.1, w1.2, w2.1, w2.2, w3.1, w3.2⟩⟩
theorem open_keys {v : Value} {d : DataW H} {ps : List MemPlace} {base : Nat} (hval : Value.okWide Try.prog W .any base 38 v) (h : DataW.Trod enc Try.prog W 0 (fun _ => true) true 38 v d ps) (hw : (d.weights Try.prog 38).all (· ≤ reachBytes) = true) :
    ∃ A n c os, v = .slice A n c ∧ os.length = n ∧ n ≤ c ∧ (A = none → c = 0) ∧ c ≤ maxLen ∧ Lift.Many Kb.cells 4 W W.heap.size A os ∧ ∀ o ∈ os, KOk o.x0 o.x1 o.y0 o.y1 :=
  Lift.open_many Kb.cells (fun k => KOk k.x0 k.x1 k.y0 k.y1) 4 (by omega) (fun _ => rfl) Try.underlying38 cells_key (fun h1 _ => open_keyc h1) hval h hw
end

theorem resT_KeyFair : Try.f7.resultTypes = #[4] := by kernel_rfl
set_option maxRecDepth 100000 in
theorem lifted_KeyFair (os : Os) (started : os.Started) (H : Type) (enc : TypeId × Value → H) :
    ReturnsInHanded {} Try.checked os 7 .any (Rows.keyFairSpec.pre6 enc Try.prog Try.f7 Rows.keyFairRow.domain false) (Rows.keyFairSpec.post enc Try.prog Try.f7 false true false false) := by
  refine Lift.law_lift (C := Try.checked) (s := Rows.keyFairSpec) (tb := 4) own laidOut started (by kernel_rfl) Try.func7
    (ChangeSpec.witness6 (enc := enc) (C := Try.checked) false ⟨#[], #[.slice none 0 0], []⟩ 8 (by kernel_rfl) (by kernel_rfl) (by kernel_rfl) (by kernel_rfl))
    rfl resT_KeyFair Try.underlying4 (by
      have hr : ∀ t ∈ ([38] : List TypeId), Try.prog.readableRec t = true ∧ t < Try.prog.types.size := by
        intro t ht
        simp only [List.mem_cons, List.not_mem_nil, or_false] at ht
        rcases ht with rfl <;> exact ⟨by kernel_rfl, of_decide_eq_true (by kernel_rfl)⟩
      intro t ht
      exact hr t (by
        have ht' : t ∈ Try.f7.params.toList := ht
        rw [Try.params7] at ht'
        exact ht')) ?_
  intro W base args ds p hval0 hA0 hsz0
  have hval : ∀ (j : Nat) t v, Try.f7.params[j]? = some t → args[j]? = some v → Value.okWide Try.prog W .any base t v := hval0
  have hA : DataW.TrodAll enc Try.prog W 0 (fun _ => true) true Try.f7.params.toList args.toList ds p := hA0
  have hsz : (DataW.weightsEach Try.prog Try.f7.params.toList ds).all (· ≤ reachBytes) = true := hsz0
  clear hval0 hA0 hsz0
  rw [Try.params7] at hA hval hsz
  obtain ⟨v0, vs0, d0, ds0, p0, q0, hargs, rfl, rfl, h0, r0⟩ := trodAll_cons hA
  obtain ⟨rfl, rfl, rfl⟩ := trodAll_nil r0
  obtain rfl : args = #[v0] := by cases args; simp_all
  obtain ⟨A0, n0, c0, os0, rfl, hl0, hlc0, hn0, hm0, ho0, hk0⟩ := open_keys (hval 0 38 v0 rfl rfl) h0 (by rw [List.all_eq_true] at hsz ⊢; intro z hz; exact hsz z (DataW.weights_mem_each (j := 0) (t := 38) (d := d0) rfl rfl z hz))
  exact ⟨rfl, walk os0 A0 n0 c0 W hl0 (Nat.le_trans hlc0 hm0) ho0 hk0⟩

theorem proved_KeyFair : Rows.KeyFairSaid :=
  OpenClaim.holds_of_wide 7 Try.f7 rfl rfl rfl rfl rfl rfl rfl ⟨rfl, rfl, rfl, rfl, rfl⟩ rfl rfl rfl rfl rfl (by kernel_rfl) Try.func7 (by kernel_rfl)
    (of_decide_eq_true (by kernel_rfl)) (by unfold Func.isWrapper; first | (rw [if_pos (by decide +kernel)]; kernel_rfl) | (rw [if_neg (by decide +kernel)]; exact ⟨rfl, rfl⟩))
    (fun os started H enc _ => lifted_KeyFair os started H enc)
end Go.Proofs.Ytbmfijcckdkmdaa.KeyFair
