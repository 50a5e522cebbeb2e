/-
  Pages as numbers and bytes; slices of bytes of one's own; pages in memory.
-/
import Derived.Test.YtnojkoefdigcnaaRecW
import Derived.Test.YtnojkoefdigcnaaOct6
import Derived.Laws.OwnMore
import Derived.Deep.Onto
import Derived.Deep.Cut
import Derived.Deep.CutRange
namespace Go.Proofs.Ytnojkoefdigcnaa.Pg
set_option maxRecDepth 100000
open Go.RowKit Go.Proofs.Ytnojkoefdigcnaa.Wd Go.Proofs.Ytnojkoefdigcnaa.Oct Go.Proofs.Ytnojkoefdigcnaa.Dsk Go.Proofs.Ytnojkoefdigcnaa.Rec

/-- a page -/
structure PM where
  num : Int
  lsn : Nat
  sl : Nat → List UInt8
/-- where its slots lie -/
structure PS where
  A : Nat → Option Addr
  n : Nat → Nat
  c : Nat → Nat
def scs (s : PS) : List Value := [.slice (s.A 0) (s.n 0) (s.c 0), .slice (s.A 1) (s.n 1) (s.c 1), .slice (s.A 2) (s.n 2) (s.c 2), .slice (s.A 3) (s.n 3) (s.c 3)]
def pcs (num : Int) (lsn : Nat) (s : PS) : List Value := [.int .i64 num, .int .u64 (lsn : Int), .slice (s.A 0) (s.n 0) (s.c 0), .slice (s.A 1) (s.n 1) (s.c 1), .slice (s.A 2) (s.n 2) (s.c 2), .slice (s.A 3) (s.n 3) (s.c 3)]
theorem pcs_one {num : Int} {lsn : Nat} {s : PS} : ∀ v ∈ pcs num lsn s, v.oneCell' = true := by
  intro v hv
  simp only [pcs, List.mem_cons, List.not_mem_nil, or_false] at hv
  rcases hv with rfl | rfl | rfl | rfl | rfl | rfl <;> rfl
theorem scs_one {s : PS} : ∀ v ∈ scs s, v.oneCell' = true := by
  intro v hv
  simp only [scs, List.mem_cons, List.not_mem_nil, or_false] at hv
  rcases hv with rfl | rfl | rfl | rfl <;> rfl
theorem pcs_no8 {num : Int} {lsn : Nat} {s : PS} : ∀ v ∈ pcs num lsn s, ∀ z, v ≠ .int .u8 z := by
  intro v hv z e
  simp only [pcs, List.mem_cons, List.not_mem_nil, or_false] at hv
  rcases hv with h | h | h | h | h | h <;> (rw [h] at e; cases e)
theorem page_info : (Try.prog.info? 73).map (·.size) = some 6 := by kernel_rfl
theorem arr_info : (Try.prog.info? 71).map (·.size) = some 4 := by kernel_rfl
theorem pcs_cell {num : Int} {lsn : Nat} {s : PS} {w : World} {g : Nat} {t : TypeId} (h : Row w g t (pcs num lsn s)) (k : Nat) (hk : k < 4) : w.cell? ⟨g, 2 + k, none⟩ = some (.slice (s.A k) (s.n k) (s.c k)) := by
  rw [h.cell]
  match k, hk with
  | 0, _ => rfl
  | 1, _ => rfl
  | 2, _ => rfl
  | 3, _ => rfl
theorem scs_range {num : Int} {lsn : Nat} {s : PS} {w : World} {g : Nat} {t : TypeId} (h : Row w g t (pcs num lsn s)) : w.rangeAt g 2 (scs s) := Row.range h fun j v hj => by
  match j, hj with
  | 0, hj => exact hj
  | 1, hj => exact hj
  | 2, hj => exact hj
  | 3, hj => exact hj
/-- the slots of a page lie below block B -/
def PgAt (w : World) (B : Nat) (sl : Nat → List UInt8) (s : PS) : Prop := ∀ k, k < 4 → Sl w B (s.A k) (s.n k) (s.c k) (sl k)
section
variable {w w' : World} {B B' : Nat} {sl : Nat → List UInt8} {s : PS}
theorem PgAt.below (h : PgAt w B sl s) (hb : Below B w w') : PgAt w' B sl s := fun k hk => (h k hk).below hb
theorem PgAt.more (h : PgAt w B sl s) (hb : B ≤ B') : PgAt w B' sl s := fun k hk => (h k hk).more hb
theorem PgAt.lens (h : PgAt w B sl s) (k : Nat) (hk : k < 4) : (sl k).length = s.n k := (h k hk).len
end
/-- may a page be? -/
def okN (num : Int) (n : Nat → Nat) : Bool := decide (0 ≤ num ∧ num < 32) && decide (n 0 ≤ 52 ∧ n 1 ≤ 52 ∧ n 2 ≤ 52 ∧ n 3 ≤ 52)
theorem okN_iff {num : Int} {n : Nat → Nat} : okN num n = true ↔ (0 ≤ num ∧ num < 32) ∧ ∀ k, k < 4 → n k ≤ 52 := by
  unfold okN
  rw [Bool.and_eq_true, decide_eq_true_eq, decide_eq_true_eq]
  refine and_congr Iff.rfl ⟨fun h k hk => ?_, fun h => ⟨h 0 (by omega), h 1 (by omega), h 2 (by omega), h 3 (by omega)⟩⟩
  match k, hk with
  | 0, _ => exact h.1
  | 1, _ => exact h.2.1
  | 2, _ => exact h.2.2.1
  | 3, _ => exact h.2.2.2
/-- the byte of a number -/
def ub (n : Nat) : UInt8 := UInt8.ofNat n
def slotB (l : List UInt8) : List UInt8 := ub l.length :: (l ++ List.replicate (52 - l.length) 0)
def slotsB (sl : Nat → List UInt8) : Nat → List UInt8
  | 0 => []
  | k + 1 => slotsB sl k ++ slotB (sl k)
def headB (num : Int) (lsn : Nat) : List UInt8 := hi 2 num.toNat ++ hi 8 lsn
theorem slotB_len {l : List UInt8} (h : l.length ≤ 52) : (slotB l).length = 53 := by simp [slotB]; omega
theorem slotsB_len {sl : Nat → List UInt8} (h : ∀ k, k < 4 → (sl k).length ≤ 52) : ∀ k, k ≤ 4 → (slotsB sl k).length = 53 * k
  | 0, _ => rfl
  | k + 1, hk => by
    have := slotsB_len h k (by omega)
    simp only [slotsB, List.length_append, slotB_len (h k (by omega)), this]
    omega
/-- what is summed -/
def bodyB (num : Int) (lsn : Nat) (sl : Nat → List UInt8) : List UInt8 := headB num lsn ++ slotsB sl 4 ++ List.replicate 30 0
theorem bodyB_len {num : Int} {lsn : Nat} {sl : Nat → List UInt8} (h : ∀ k, k < 4 → (sl k).length ≤ 52) : (bodyB num lsn sl).length = 252 := by
  simp only [bodyB, headB, List.length_append, slotsB_len h 4 (Nat.le_refl _), hi_length, List.length_replicate]

/-- a slice of bytes of one's own, of blocks from base on -/
def Own (w : World) (base : Nat) (v : Value) (l : List UInt8) : Prop := w.ownsRow base 5 1 v l.length (bv l)
theorem Own.of_row {w : World} {base g n : Nat} {l : List UInt8} (h : Row w g 5 (bv l)) (hb : base ≤ g) (hn : l.length = n) (hm : n ≤ maxLen) : Own w base (.slice (some ⟨g, 0, none⟩) n n) l := by
  subst hn
  exact Row.own h hb (bv_length l) hm
theorem Own.alloc {w : World} {base : Nat} {v : Value} {l : List UInt8} (h : Own w base v l) (o : Obj) : Own (w.alloc o) base v l := World.ownsRow.alloc h o
theorem Own.mono {w : World} {base base' : Nat} {v : Value} {l : List UInt8} (h : Own w base v l) (hb : base' ≤ base) : Own w base' v l := World.ownsRow.mono h hb
theorem Own.open {w : World} {base : Nat} {v : Value} {l : List UInt8} (h : Own w base v l) : ∃ A n c, v = .slice A n c ∧ l.length = n ∧ n ≤ c ∧ c ≤ maxLen ∧ (A = none → c = 0) ∧ Bs w w.heap.size A l := by
  obtain ⟨A, c, rfl, h1, h2, h3, h4, h5, _⟩ := own_bs h
  exact ⟨A, _, c, rfl, h1, h2, h3, h4, h5⟩
theorem Own.sl {w : World} {base : Nat} {v : Value} {l : List UInt8} (h : Own w base v l) : ∃ A n c, v = .slice A n c ∧ Sl w w.heap.size A n c l := by
  obtain ⟨A, n, c, e, h1, h2, h3, h4, h5⟩ := h.open
  exact ⟨A, n, c, e, ⟨h1, h2, h3, h4, h5⟩⟩
/-- what a call leaves that lengthens bytes of one's own -/
def Grew (w : World) (base : Nat) (l : List UInt8) (e : Ending) (w' : World) : Prop := ∃ v, e = .returned v ∧ Own w' base v l ∧ Below base w w'
theorem grew_made {w : World} {base : Nat} {l : List UInt8} (hb : base ≤ w.heap.size) (hm : l.length ≤ maxLen) {e : Ending} {w' : World} (h : Made w l e w') : Grew w base l e w' := by
  obtain ⟨g, n, rfl, hn, hg, hr, hbel⟩ := h
  exact ⟨_, rfl, Own.of_row hr (by omega) hn.out (by rw [← hn.out]; exact hm), hbel.mono hb⟩
theorem below_own {base : Nat} {w w' : World} {v : Value} (hg : w.grownBy w' v.ownBlock) (h : ∀ k, v.ownBlock = some k → base ≤ k) (hs : base ≤ w.heap.size) : Below base w w' :=
  (Below.refl _ _).grown hg hs h
/-- a page in a box of its own -/
structure Bx (w : World) (num : Int) (lsn : Nat) (s : PS) (w' : World) : Prop where
  row : Row w' w.heap.size 73 (pcs num lsn s)
  hb : Below w.heap.size w w'
  sz : w.heap.size + 1 ≤ w'.heap.size
theorem boxed (w : World) (num : Int) (lsn : Nat) (s : PS) : Bx w num lsn s (w.alloc (.cells (pcs num lsn s).toArray 73)) := ⟨Row.new w _ _, (Below.refl _ _).alloc (Nat.le_refl _) _, by simp⟩
theorem Bx.then {w w1 w2 : World} {num : Int} {lsn : Nat} {s : PS} (h : Bx w num lsn s w1) (hb : Below w1.heap.size w1 w2) : Bx w num lsn s w2 :=
  ⟨h.row.below hb (by have := h.sz; omega), h.hb.trans (hb.mono h.hb.size), Nat.le_trans h.sz hb.size⟩
theorem Bx.still {w w1 w2 : World} {num : Int} {lsn : Nat} {s : PS} (h : Bx w num lsn s w1) (hb : Still w1 w2) : Bx w num lsn s w2 := h.then (below_still (Below.refl _ _) hb)

theorem below_any (x m : Int) (w : World) : Calls Try.prog 58 #[.int .i64 x, .int .i64 m] w fun e w' => e = .returned (.bool (decide (0 ≤ x ∧ x < m))) ∧ w = w' := by
  go_enter Try.func58, Try.ntmps58
  by_cases h1 : 0 ≤ x
  · by_cases h2 : x < m
    · go_wp2
      go_ret
      exact ⟨ret_bool (by simp [h1, h2]), rfl⟩
    · go_wp2
      go_ret
      exact ⟨ret_bool (by simp [h1, h2]), rfl⟩
  · go_wp2
    go_ret
    exact ⟨ret_bool (by simp; omega), rfl⟩
theorem wrong_any (A : Option Addr) (n c : Nat) (w : World) : Calls Try.prog 60 #[.slice A n c] w fun e w' => e = .returned (.bool (decide (52 < n))) ∧ w = w' := by
  go_enter Try.func60, Try.ntmps60
  by_cases h1 : 52 < n
  · go_wp2
    go_ret
    exact ⟨ret_bool (by simp; omega), rfl⟩
  · go_wp2
    go_ret
    exact ⟨ret_bool (by simp; omega), rfl⟩
def errP (K : Bool) : Int := if K = true then 0 else 160
/-- what IndexFunc answers -/
def Ix (w w' : World) (n : Nat → Nat) (e : Ending) : Prop := (∃ v : Int, e = .returned (.int .i64 v) ∧ (0 ≤ v ↔ ∃ k, k < 4 ∧ 52 < n k)) ∧ w = w'
set_option maxHeartbeats 1000000 in
theorem index_any (g : Nat) (t : TypeId) (num : Int) (lsn : Nat) (s : PS) (w : World) (hr : Row w g t (pcs num lsn s)) :
    Calls Try.prog 63 #[.slice (some ⟨g, 2, none⟩) 4 4, .func (.func 60) #[] #[]] w fun e w' => Ix w w' s.n e := by
  have HC := Lib.hid (fun k (hk : k < 4) => pcs_cell hr k hk)
  clear hr
  go_enter Try.func63, Try.ntmps63
  go_wp2_with fail
  go_loopw [4, 8] (fun r i wr => ∃ k : Nat, k ≤ 4 ∧ i = .int .i64 (k : Int) ∧ r = .int .i64 0 ∧ Hid ((∀ j, j < k → s.n j ≤ 52) ∧ w = wr)) (fun _ i _ => 4 - (intOf i).toNat)
  case atStart => exact ⟨0, by omega, rfl, rfl, ⟨fun j h => by omega, rfl⟩⟩
  case round =>
    obtain ⟨k, hk, rfl, rfl, HI⟩ := hrel
    obtain rfl := HI.out.2
    have HJ := Lib.hid HI.out.1
    clear HI
    by_cases hlt : k < 4
    · have h1 : (k : Int) < 4 := by omega
      have hc := HC.out k hlt
      go_wp2_with fail
      refine (wrong_any _ _ _ _).mono ?_
      rintro e w2 ⟨rfl, rfl⟩
      by_cases hz : 52 < s.n k
      · have HZ := Lib.hid hz
        rw [show decide (52 < s.n k) = true by simp [hz]]
        clear hz
        go_wp2
        go_ret
        exact ⟨⟨_, rfl, ⟨fun _ => ⟨k, hlt, HZ.out⟩, fun _ => by omega⟩⟩, rfl⟩
      · have HZ : Hid ((∀ j, j < k + 1 → s.n j ≤ 52) ∧ w = w) := Lib.hid ⟨fun j hj => by
          rcases Nat.lt_succ_iff_lt_or_eq.1 hj with h | h
          · exact HJ.out j h
          · rw [h]; omega, rfl⟩
        rw [show decide (52 < s.n k) = false by simp [hz]]
        clear hz hc
        go_wp2
        go_roundw
        case rel => exact ⟨k + 1, by omega, by go_num, rfl, HZ⟩
        case measure => simp [intOf]; omega
    · have h1 : ¬ (k : Int) < 4 := by omega
      go_wp2
      go_ret
      refine ⟨⟨_, rfl, ⟨fun h => absurd h (by decide), fun ⟨j, hj, hz⟩ => ?_⟩⟩, rfl⟩
      have := HJ.out j (by omega)
      omega
theorem contains_any (g : Nat) (t : TypeId) (num : Int) (lsn : Nat) (s : PS) (w : World) (hr : Row w g t (pcs num lsn s)) :
    Calls Try.prog 61 #[.slice (some ⟨g, 2, none⟩) 4 4, .func (.func 60) #[] #[]] w fun e w' => (∃ r, e = .returned (.bool r) ∧ (r = true ↔ ∃ k, k < 4 ∧ 52 < s.n k)) ∧ w = w' := by
  have HX := Lib.hid (index_any g t num lsn s w hr)
  go_enter Try.func61, Try.ntmps61
  go_wp2_with fail
  refine HX.out.mono ?_
  rintro e w2 ⟨⟨v, rfl, hv⟩, rfl⟩
  have HV := Lib.hid hv
  clear hv
  go_wp2
  go_ret
  exact ⟨⟨decide (0 ≤ v), ret_bool (by simp), by rw [decide_eq_true_eq]; exact HV.out⟩, rfl⟩
set_option maxHeartbeats 1000000 in
theorem check_any (num : Int) (lsn : Nat) (s : PS) (w : World) : Calls Try.prog 55 #[.agg (pcs num lsn s).toArray] w fun e w' => e = .returned (.int .i64 (errP (okN num s.n))) ∧ Below w.heap.size w w' := by
  have HOK := Lib.hid (okN_iff (num := num) (n := s.n))
  generalize okN num s.n = K at HOK ⊢
  unfold pcs
  go_enter Try.func55, Try.ntmps55
  go_upto_region 1 with fail
  have HB := Lib.hid (boxed w num lsn s)
  unfold pcs at HB
  generalize w.alloc (.cells #[.int .i64 num, .int .u64 (lsn : Int), .slice (s.A 0) (s.n 0) (s.c 0), .slice (s.A 1) (s.n 1) (s.c 1), .slice (s.A 2) (s.n 2) (s.c 2), .slice (s.A 3) (s.n 3) (s.c 3)] 73) = w1 at HB ⊢
  have hc0 : w1.cell? ⟨w.heap.size, 0, none⟩ = some (.int .i64 num) := HB.out.row.cell 0
  have HCF := Lib.hid (contains_any _ _ num lsn s w1 HB.out.row)
  go_wp2_with fail
  refine (below_any _ _ _).mono ?_
  rintro e w2 ⟨rfl, rfl⟩
  by_cases hn : 0 ≤ num ∧ num < 32
  · rw [show decide (0 ≤ num ∧ num < 32) = true by simp [hn]]
    have HN := Lib.hid hn
    clear hn
    go_wp2_with fail
    refine HCF.out.mono ?_
    rintro e w2 ⟨⟨r, rfl, hr⟩, rfl⟩
    have HR := Lib.hid hr
    clear hr
    cases r
    · go_wp2
      go_ret
      refine ⟨ret_int ?_, HB.out.hb⟩
      unfold errP
      rw [if_pos (HOK.out.2 ⟨HN.out, fun k hk => ?_⟩)]
      exact Nat.le_of_not_lt fun h => by have := HR.out.2 ⟨k, hk, h⟩; cases this
    · go_wp2
      go_ret
      refine ⟨ret_int ?_, HB.out.hb⟩
      obtain ⟨k, hk, h⟩ := HR.out.1 (by trivial)
      unfold errP
      rw [if_neg (fun hh => by have := (HOK.out.1 hh).2 k hk; omega)]
  · rw [show decide (0 ≤ num ∧ num < 32) = false by simp; omega]
    have HN := Lib.hid hn
    clear hn
    go_wp2
    go_ret
    exact ⟨ret_int (by unfold errP; rw [if_neg (fun hh => HN.out (HOK.out.1 hh).1)]), HB.out.hb⟩
end Go.Proofs.Ytnojkoefdigcnaa.Pg
