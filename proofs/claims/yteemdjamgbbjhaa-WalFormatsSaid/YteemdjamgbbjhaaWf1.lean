/-
  Part 1 of the contracts that the law rests on.
-/
import Derived.WalkKit
import Derived.Lib.Hide
import Derived.Deep.OwnRows
import Derived.Deep.Draws
import Derived.Laws.CopyOwn
import Derived.Test.YteemdjamgbbjhaaRows
import Derived.Deep.MidRow
import Derived.Deep.AppendLies
import Derived.Laws.Tables
import Derived.OrdersHeld
import Derived.Great.BuildSlice
import Derived.Deep.RegionHeldLaw
/-
  Words of our own for byte slices and worlds; lemmas on them. Nothing here speaks of the program.
-/
namespace Go.Proofs.Yteemdjamgbbjhaa.Wd
open Go.RowKit

/-- a byte's value -/
def bv (l : List UInt8) : List Value := l.map fun b => .int .u8 (b.toNat : Int)

/-- The address A, with as many bytes as l has, reads l; it lies below block B. -/
def Bs (w : World) (B : Nat) (A : Option Addr) (l : List UInt8) : Prop :=
  0 < l.length → ∃ b o, A = some ⟨b, o, none⟩ ∧ b < B ∧ ∀ i, i < l.length → w.cell? ⟨b, o + i, none⟩ = some (.int .u8 ((l.getD i 0).toNat : Int))

section
variable {w w' : World} {B B' n : Nat} {A : Option Addr} {l : List UInt8}
theorem Bs.keep (h : Bs w B A l) (hk : ∀ b o, b < B → w'.cell? ⟨b, o, none⟩ = w.cell? ⟨b, o, none⟩) : Bs w' B A l := fun hp => by
  obtain ⟨b, o, e, hb, hc⟩ := h hp
  exact ⟨b, o, e, hb, fun i hi => (hk b _ hb).trans (hc i hi)⟩
theorem Bs.keep2 (h : Bs w B A l) (hk : ∀ b o, A = some ⟨b, o, none⟩ → b < B → w'.heap[b]? = w.heap[b]?) : Bs w' B A l := fun hp => by
  obtain ⟨b, o, e, hb, hc⟩ := h hp
  exact ⟨b, o, e, hb, fun i hi => (World.cell?_of_block (w := w) (hk b o e hb)).trans (hc i hi)⟩
theorem Bs.more (h : Bs w B A l) (hB : B ≤ B') : Bs w B' A l := fun hp => by
  obtain ⟨b, o, e, hb, hc⟩ := h hp
  exact ⟨b, o, e, by omega, hc⟩
theorem Bs.below (h : Bs w B A l) (hb : Below B w w') : Bs w' B A l := h.keep fun b o hlt => hb.cell (p := ⟨b, o, none⟩) hlt
theorem Bs.drew (h : Bs w B A l) : Bs w.drew B A l := h
theorem Bs.drewN (h : Bs w B A l) (k : Nat) : Bs (w.drewN k) B A l := h
theorem Bs.nil (w : World) (B : Nat) (A : Option Addr) : Bs w B A [] := fun h => absurd h (by simp)
theorem Bs.alloc (h : Bs w B A l) (hB : B ≤ w.heap.size) (o : Obj) : Bs (w.alloc o) B A l := h.keep fun b q hlt => World.cell?_alloc_lt w o ⟨b, q, none⟩ (by simp; omega)
end

theorem Bs.cut {w : World} {B : Nat} {A : Option Addr} {l : List UInt8} (h : Bs w B A l) (k n : Nat) (hk : k + n ≤ l.length) : Bs w B (A.map (·.add k)) ((l.drop k).take n) := fun hp => by
  simp only [List.length_take, List.length_drop] at hp
  obtain ⟨b, o, rfl, hb, hc⟩ := h (by omega)
  refine ⟨b, o + k, by simp [Addr.add_lit], hb, fun i hi => ?_⟩
  simp only [List.length_take, List.length_drop] at hi
  rw [Nat.add_assoc, hc (k + i) (by omega)]
  have e : ((l.drop k).take n).getD i 0 = l.getD (k + i) 0 := by
    simp only [List.getD_eq_getElem?_getD, List.getElem?_take, List.getElem?_drop]
    rw [if_pos (by omega)]
  rw [e]

/-- block g is a row of just these cells, none frozen -/
def Row (w : World) (g : Nat) (t : TypeId) (cs : List Value) : Prop := w.heap[g]? = some (.cells cs.toArray t (0, 0))
section
variable {w w' : World} {g : Nat} {t : TypeId} {cs : List Value}
theorem Row.lt (h : Row w g t cs) : g < w.heap.size := (Array.getElem?_eq_some_iff.1 h).1
theorem Row.cell (h : Row w g t cs) (i : Nat) : w.cell? ⟨g, i, none⟩ = cs[i]? := by
  rw [cell_of_row w g i cs.toArray t (0, 0) h]; simp
theorem Row.frozen (h : Row w g t cs) (i : Nat) : w.frozen? ⟨g, i, none⟩ = false := by
  unfold Row at h; simp [World.frozen?, h]
theorem Row.new (w : World) (t : TypeId) (cs : List Value) : Row (w.alloc (.cells cs.toArray t)) w.heap.size t cs := heap_alloc_new w _
theorem Row.made (w : World) (t : TypeId) (z : Value) (n : Nat) : Row (w.alloc (.cells (madeCells #[z] n) t)) w.heap.size t (List.replicate n z) := by
  rw [show madeCells #[z] n = (List.replicate n z).toArray from by rw [← toList_madeCells_one]]
  exact Row.new w t _
theorem Row.drew (h : Row w g t cs) : Row w.drew g t cs := h
theorem Row.drewN (h : Row w g t cs) (n : Nat) : Row (w.drewN n) g t cs := h
theorem Row.alloc (h : Row w g t cs) (o : Obj) : Row (w.alloc o) g t cs := (Below.heap_alloc w o g h.lt).trans h
theorem Row.store (h : Row w g t cs) (i : Nat) (u : Value) : Row (w.setCell ⟨g, i, none⟩ u) g t (cs.set i u) := by
  unfold Row at h ⊢
  simp [World.setCell, Array.getElem?_modify, h]
theorem Row.far (h : Row w g t cs) {p : Addr} (hp : g ≠ p.block) (u : Value) : Row (w.setCell p u) g t cs := (Below.heap_setCell w p u g hp).trans h
theorem Row.below {B : Nat} (h : Row w g t cs) (hb : Below B w w') (hg : g < B) : Row w' g t cs := (hb.block g hg).trans h
theorem Row.grown {row : Option Nat} (h : Row w g t cs) (hb : w.grownBy w' row) (hg : some g ≠ row) : Row w' g t cs := (hb.block g h.lt hg).trans h
theorem Row.bs {l : List UInt8} (h : Row w g t (bv l)) {B : Nat} (hB : g < B) : Bs w B (some ⟨g, 0, none⟩) l := fun _ =>
  ⟨g, 0, rfl, hB, fun i hi => by rw [Nat.zero_add, h.cell]; simp [bv, hi]⟩
end

theorem bv_append (a b : List UInt8) : bv (a ++ b) = bv a ++ bv b := by simp [bv]
theorem Row.of_own {w : World} {base g n : Nat} {t : TypeId} {xs : List Value} (h : w.ownsRow base t 1 (.slice (some ⟨g, 0, none⟩) n n) n xs) : Row w g t xs := by
  rcases h.2 with ⟨h', _⟩ | ⟨g', cap, cur, h', _, hg, _, _, hs, ht⟩
  · simp at h'
  · simp only [Value.slice.injEq, Option.some.injEq, Addr.mk.injEq, and_true, true_and] at h'
    obtain ⟨rfl, rfl⟩ := h'
    have e : cur.toList = xs := by
      rw [← ht, List.take_of_length_le (by rw [Array.length_toList, hs]; omega)]
    unfold Row
    rw [hg, ← e]
theorem Row.own {w : World} {base g n : Nat} {t : TypeId} {xs : List Value} (h : Row w g t xs) (hb : base ≤ g) (hn : xs.length = n) (hm : n ≤ maxLen) : w.ownsRow base t 1 (.slice (some ⟨g, 0, none⟩) n n) n xs :=
  ⟨by omega, .inr ⟨g, n, xs.toArray, rfl, hb, h, Nat.le_refl _, hm, by simp [hn], by simp [List.take_of_length_le, hn]⟩⟩
theorem bv_take (l : List UInt8) (k : Nat) (h : k < l.length) : bv (l.take k) ++ [.int .u8 ((l.getD k 0).toNat : Int)] = bv (l.take (k + 1)) := by
  rw [List.take_succ_eq_append_getElem h, bv_append]; simp [bv, h]

/-- the lowest n bytes of a number, the highest first -/
def hi : Nat → Nat → List UInt8
  | 0, _ => []
  | n + 1, x => UInt8.ofNat (x / 256 ^ n) :: hi n x
theorem hi_length (n x : Nat) : (hi n x).length = n := by induction n <;> simp [hi, *]
theorem bv_length (a : List UInt8) : (bv a).length = a.length := by simp [bv]
theorem bv_zero (n : Nat) : List.replicate n (Value.int .u8 0) = bv (List.replicate n 0) := by simp [bv]
theorem bv_one {b : List UInt8} : ∀ u ∈ bv b, u.oneCell' = true := by
  intro u hu
  obtain ⟨_, _, rfl⟩ := List.mem_map.1 hu
  rfl
def InU64 (n : Nat) : Prop := n < 18446744073709551616
theorem u64_wrap {n : Int} (h0 : 0 ≤ n) (h : n < 18446744073709551616) : IntKind.u64.wrap n = n := by
  rw [IntKind.wrap_u64]; omega
theorem bv_set (l : List UInt8) (i : Nat) (y : Nat) : (bv l).set i (.int .u8 ((y : Int) % 256)) = bv (l.set i (UInt8.ofNat y)) := by
  simp [bv, List.map_set]
theorem set_mid (l z : List UInt8) (m : Nat) (b : UInt8) : (l ++ List.replicate (m + 1) 0 ++ z).set (l.length + m) b = l ++ List.replicate m 0 ++ b :: z := by
  rw [List.append_assoc, List.set_append_right _ _ (by omega), Nat.add_sub_cancel_left, List.replicate_succ', List.append_assoc, List.set_append_right _ _ (by simp)]
  simp
theorem grown_setRow (w : World) (g : Nat) (cs : Array Value) : w.grownBy (w.setRow g cs) (some g) :=
  ⟨rfl, rfl, rfl, by simp [World.setRow], fun k _ hne => setRow_other w g k cs (fun e => hne (by rw [e]))⟩
/-- copy of bytes into a row that is known whole, all of them -/
theorem wpList_copy_bs {P : Program} {w : World} {ops : Array Oper} {rest : List Oper} {o : Oper} {a : Act} {Q : Exit → Act → World → Prop} (hgd : o.guard = none) (d s : Operand) (dT sT : TypeId)
    (ho : o.op = .call { callee := .builtin .copy, args := #[d, s], argTypes := #[dT, sT] }) (elem : TypeId) (hu : P.underlying dT = some (.slice elem)) (hsz : (P.info? elem).map (·.size) = some 1)
    (g off dLen dCap : Nat) (A : Option Addr) (l : List UInt8) (n c : Nat) (hd : a.eval d = .slice (some ⟨g, off, none⟩) dLen dCap) (hs : a.eval s = .slice A n c) (hn : l.length = n)
    (cur : List Value) (t : TypeId) (hg : Row w g t cur) (B : Nat) (hr : Bs w B A l) (hle : n ≤ dLen) (hfit : off + n ≤ cur.length)
    (h : ∀ w', Row w' g t (splice cur off (bv l)) → w.grownBy w' (some g) → wpList P ops Q rest (a.put o.dst (goInt n)) w') : wpList P ops Q (o :: rest) a w := by
  subst hn
  by_cases h0 : l.length = 0
  · obtain rfl : l = [] := List.eq_nil_of_length_eq_zero h0
    refine wpList_copy_nothing hgd d s dT sT ho elem hu hsz _ _ _ _ _ _ hd hs (by simp) (h w ?_ (World.grownBy.refl _ _))
    simpa [splice, bv] using hg
  · obtain ⟨b1, o1, rfl, hb1, hc1⟩ := hr (by omega)
    refine wpList_copy_own hgd d s dT sT ho elem hu hsz g off dLen dCap _ _ _ hd hs cur.toArray t hg (bv l) (by rw [bv_length]; exact (Nat.min_eq_left hle).symm) (fun j v hv => ?_) (by simpa [bv_length] using hfit) bv_one ?_
    · rw [Addr.add_lit]
      have hj : j < l.length := by simpa [bv_length] using (List.getElem?_eq_some_iff.1 hv).1
      rw [hc1 j hj, ← hv]
      simp [bv, hj]
    · rw [bv_length]
      refine h _ ?_ (grown_setRow _ _ _)
      show _ = _
      simpa [splice, bv_length] using setRow_heap w g _ _ t _ hg
theorem u8_or_v (a b : UInt8) : bits .or .u8 (a.toNat : Int) (b.toNat : Int) = ((a ||| b).toNat : Int) := by
  rw [u8_or_nat _ _ a.toNat_lt b.toNat_lt]; simp
theorem u8_xor_v (a b : UInt8) : bits .xor .u8 (a.toNat : Int) (b.toNat : Int) = ((a ^^^ b).toNat : Int) := by
  rw [u8_xor_nat _ _ a.toNat_lt b.toNat_lt]; simp
theorem u8_or_eq0 (a b : UInt8) : a ||| b = 0 ↔ a = 0 ∧ b = 0 := by
  simp [← UInt8.toNat_inj]
theorem u8_xor_eq0 (a b : UInt8) : a ^^^ b = 0 ↔ a = b := by
  constructor
  · intro h
    have : (a ^^^ b) ^^^ b = 0 ^^^ b := by rw [h]
    simpa [UInt8.xor_assoc] using this
  · rintro rfl; simp
theorem u8_beq0 (a : UInt8) : ((a.toNat : Int) == 0) = decide (a = 0) := by
  rw [Bool.eq_iff_iff]; simp [← UInt8.toNat_inj]
theorem take_succ_eq {l1 l2 : List UInt8} {k : Nat} (h1 : k < l1.length) (h2 : k < l2.length) : l1.take (k + 1) = l2.take (k + 1) ↔ l1.take k = l2.take k ∧ l1.getD k 0 = l2.getD k 0 := by
  rw [List.take_succ_eq_append_getElem h1, List.take_succ_eq_append_getElem h2]
  simp only [List.getD_eq_getElem?_getD, List.getElem?_eq_getElem h1, List.getElem?_eq_getElem h2, Option.getD_some]
  constructor
  · intro h
    have := List.append_inj h (by simp; omega)
    exact ⟨this.1, by simpa using this.2⟩
  · rintro ⟨a, b⟩; rw [a, b]
/-- only draws lie between the two worlds -/
def Still (w w' : World) : Prop := ∃ n, w' = w.drewN n
theorem Still.refl (w : World) : Still w w := ⟨0, rfl⟩
theorem Still.drewN {a w : World} (h : Still a w) (k : Nat) : Still a (w.drewN k) := by
  obtain ⟨n, rfl⟩ := h
  exact ⟨n + k, by rw [World.drewN_drewN]⟩
theorem Still.drew {a w : World} (h : Still a w) : Still a w.drew := h.drewN 1
theorem ret_bool {a b : Bool} (h : a = b) : Ending.returned (.bool a) = .returned (.bool b) := by rw [h]
theorem ret_int {k : IntKind} {a b : Int} (h : a = b) : Ending.returned (.int k a) = .returned (.int k b) := by rw [h]
theorem cells_one (w : World) (t : TypeId) (v : Value) : ∀ j u, [v][j]? = some u → (w.alloc (.cells #[v] t)).cell? ((⟨w.heap.size, 0, none⟩ : Addr).add j) = some u := by
  intro j u hu
  cases j with
  | zero => rw [Addr.add_lit, World.cell?_alloc_at _ _ _ _ rfl]; simpa using hu
  | succ j => simp at hu
theorem one_cell {k : IntKind} (x : Int) : ∀ u ∈ [Value.int k x], u.oneCell' = true := by
  intro u hu
  obtain rfl := List.mem_singleton.1 hu
  rfl
theorem wpList_wanted {P : Program} {w : World} {ops : Array Oper} {rest : List Oper} {o : Oper} {a : Act} {Q : Exit → Act → World → Prop} (hw : Region.wanted o (yielded ops a.tmps) = true)
    (h : ∀ K : Act → World → Prop, (∀ a w, wpList P ops Q rest a w → K a w) → o.wp P a w K Q) : wpList P ops Q (o :: rest) a w :=
  wpList_step fun K hK => by rw [if_pos hw]; exact h K hK
/-- append of bytes, nil or not, to a row of the call's own (nil too) -/
theorem wpList_append_bs {P : Program} {w : World} {ops : Array Oper} {rest : List Oper} {o : Oper} {a : Act} {Q : Exit → Act → World → Prop} (hgd : Region.wanted o (yielded ops a.tmps) = true) (s x : Operand) (t : TypeId)
    (ho : o.op = .call { callee := .builtin .append, args := #[s, x], argTypes := #[t, t] })
    (base : Nat) (e : TypeId) (i : TypeInfo) (z : Value) (ht : P.underlying t = some (.slice e)) (hi : P.info? e = some i) (hz : i.zero = some z) (hsize : i.size = 1) (hby : i.bytes = 1) (hzs : z.cells.size = 1)
    (v : Value) (n : Nat) (xs : List Value) (hs : a.eval s = v) (hown : w.ownsRow base e 1 v n xs)
    (A : Option Addr) (m c : Nat) (l : List UInt8) (hx : a.eval x = .slice A m c) (hl : l.length = m) (B : Nat) (hr : Bs w B A l) (hA : A = none → c = 0)
    (h63 : n + m ≤ 140737488355328) (hbase : base ≤ w.heap.size)
    (h : ∀ v' w', w'.ownsRow base e 1 v' (n + m) (xs ++ bv l) → w.grownBy w' v.ownBlock → wpList P ops Q rest (a.put o.dst v') w') : wpList P ops Q (o :: rest) a w := by
  cases A with
  | none =>
    have h0 : m = 0 := by
      rcases Nat.eq_zero_or_pos m with h0 | h0
      · exact h0
      · obtain ⟨b, o, e, _⟩ := hr (by omega)
        cases e
    subst h0
    obtain rfl := hA rfl
    obtain rfl : l = [] := List.eq_nil_of_length_eq_zero hl
    refine wpList_wanted hgd fun K hK' => ?_
    have hrun := run_append_owned_none (P := P) w base t o.type e i 1 ht hi v n xs hown
    unfold Oper.wp
    simp [execOp, ho, resolve, invoke, builtin, hs, hx, hrun, Result.andThen]
    exact hK' _ _ (h v w (by simpa [bv] using hown) (World.grownBy.refl _ _))
  | some ad =>
    refine wpList_wanted hgd fun K hK' => wp_append_own w s x t ho base e i z 1 1 ht hi hz hsize hby hzs (by omega) v n xs hs hown ad m c (bv l) hx (by rw [bv_length]; omega) (fun j u hu => ?_) bv_one (by unfold maxLen; omega) (by omega) hbase fun v' w' h2 h3 _ => hK' _ _ (h v' w' h2 h3)
    have hj : j < l.length := by simpa [bv_length] using (List.getElem?_eq_some_iff.1 hu).1
    obtain ⟨b, o, e, _, hc⟩ := hr (by omega)
    obtain rfl := Option.some.inj e
    rw [Addr.add_lit, hc j hj, ← hu]
    simp [bv, hj]
/-- what a row of the call's own reads -/
theorem own_bs {w : World} {base n : Nat} {t : TypeId} {v : Value} {l : List UInt8} (h : w.ownsRow base t 1 v n (bv l)) : ∃ A c, v = .slice A n c ∧ l.length = n ∧ n ≤ c ∧ c ≤ maxLen ∧ (A = none → c = 0) ∧ Bs w w.heap.size A l ∧ (∀ k, v.ownBlock = some k → base ≤ k) := by
  have hn : l.length = n := by have := h.1; rw [bv_length] at this; omega
  rcases h.2 with ⟨rfl, rfl⟩ | ⟨g, cap, cur, rfl, hb, hg, hnc, hcm, hs, ht⟩
  · obtain rfl : l = [] := List.eq_nil_of_length_eq_zero hn
    exact ⟨none, 0, rfl, rfl, Nat.le_refl _, Nat.zero_le _, fun _ => rfl, Bs.nil _ _ _, fun k hk => by cases hk⟩
  · refine ⟨_, cap, rfl, hn, hnc, hcm, (fun hh => by cases hh), (fun hp => ⟨g, 0, rfl, (Array.getElem?_eq_some_iff.1 hg).1, fun i hi => ?_⟩), fun k hk => by simp [Value.ownBlock] at hk; omega⟩
    rw [Nat.zero_add, cell_of_row w g i cur t (0, 0) hg]
    have h1 : (bv l)[i]? = some (.int .u8 ((l.getD i 0).toNat : Int)) := by simp [bv, hi]
    rw [← ht, List.getElem?_take] at h1
    split at h1
    · simpa using h1
    · cases h1
/-- the number of bytes, the highest first -/
def num (l : List UInt8) : Nat := l.foldl (fun x b => x * 256 + b.toNat) 0
theorem num_snoc (l : List UInt8) (b : UInt8) : num (l ++ [b]) = num l * 256 + b.toNat := by simp [num]
theorem num_from (l : List UInt8) : ∀ a : Nat, l.foldl (fun x b => x * 256 + b.toNat) a = a * 256 ^ l.length + num l := by
  induction l with
  | nil => intro a; simp [num]
  | cons b l ih =>
    intro a
    have h0 := ih b.toNat
    have h1 := ih (a * 256 + b.toNat)
    simp only [List.foldl_cons, num, List.length_cons, Nat.zero_mul, Nat.zero_add] at *
    rw [h1, h0, Nat.pow_succ, Nat.add_mul, Nat.mul_assoc, Nat.mul_comm 256, Nat.add_assoc]
theorem num_cons (b : UInt8) (l : List UInt8) : num (b :: l) = b.toNat * 256 ^ l.length + num l := by
  have := num_from l b.toNat
  simpa [num] using this
theorem num_lt (l : List UInt8) : num l < 256 ^ l.length := by
  induction l with
  | nil => simp [num]
  | cons b l ih =>
    rw [num_cons, List.length_cons, Nat.pow_succ]
    have hb := b.toNat_lt
    have : (b.toNat + 1) * 256 ^ l.length ≤ 256 * 256 ^ l.length := Nat.mul_le_mul_right _ (by omega)
    rw [Nat.add_mul] at this
    omega
theorem num_hi (n x : Nat) : num (hi n x) = x % 256 ^ n := by
  induction n with
  | zero => simp [hi, num, Nat.mod_one]
  | succ n ih =>
    rw [hi, num_cons, hi_length, ih, Nat.pow_succ, Nat.mod_mul]
    simp
    rw [Nat.mul_comm, Nat.add_comm]
theorem or_low (x b : Nat) (hb : b < 256) : (x * 256) ||| b = x * 256 + b := by
  have := Nat.two_pow_add_eq_or_of_lt (i := 8) (b := b) (by simpa using hb) x
  rw [Nat.mul_comm]
  simpa using this.symm
theorem u64_or_low (x : Nat) (b : UInt8) (hx : x * 256 + b.toNat < 18446744073709551616) : bits .or .u64 ((x : Int) * 256) (b.toNat : Int) = ((x * 256 + b.toNat : Nat) : Int) := by
  have hb : b.toNat < 256 := b.toNat_lt
  have h1 : x * 256 < 18446744073709551616 := Nat.lt_of_le_of_lt (Nat.le_add_right _ _) hx
  have h2 : b.toNat < 18446744073709551616 := Nat.lt_of_lt_of_le hb (by decide)
  have h3 := u64_or_nat (x * 256) b.toNat h1 h2
  rw [or_low _ _ hb] at h3
  rw [← h3]
  congr 1
theorem u64_shl_or (y : Nat) (b : UInt8) (k : Nat) (hy : y < 256 ^ k) (hk : k ≤ 7) : bits .or .u64 (IntKind.u64.wrap ((y : Int) * 256)) (IntKind.u64.wrap (b.toNat : Int)) = ((y * 256 + b.toNat : Nat) : Int) := by
  have hb : b.toNat < 256 := b.toNat_lt
  have h7 : y < 256 ^ 7 := Nat.lt_of_lt_of_le hy (Nat.pow_le_pow_right (by omega) hk)
  have h7' : y < 72057594037927936 := h7
  have h8 : y * 256 + b.toNat < 18446744073709551616 := by
    have h9 : (y + 1) * 256 ≤ 72057594037927936 * 256 := Nat.mul_le_mul_right _ h7'
    have h10 : (72057594037927936 * 256 : Nat) = 18446744073709551616 := by decide
    rw [h10, Nat.add_mul] at h9
    exact Nat.lt_of_lt_of_le (Nat.add_lt_add_left hb _) h9
  have h11 : y * 256 < 18446744073709551616 := Nat.lt_of_le_of_lt (Nat.le_add_right _ _) h8
  have h12 : b.toNat < 18446744073709551616 := Nat.lt_of_le_of_lt (Nat.le_add_left _ _) h8
  have e1 : IntKind.u64.wrap ((y : Int) * 256) = (y : Int) * 256 := by
    have := u64_wrap (n := ((y * 256 : Nat) : Int)) (Int.natCast_nonneg _) (Int.ofNat_lt.2 h11)
    simpa using this
  rw [e1, u64_wrap (Int.natCast_nonneg _) (Int.ofNat_lt.2 h12), u64_or_low _ _ h8]
theorem hi_mod (n : Nat) : ∀ (m x : Nat), n ≤ m → hi n (x % 256 ^ m) = hi n x := by
  induction n with
  | zero => intros; rfl
  | succ n ih =>
    intro m x h
    rw [hi, hi, ih m x (by omega)]
    congr 1
    apply UInt8.toNat_inj.1
    simp only [UInt8.toNat_ofNat']
    obtain ⟨k, rfl⟩ : ∃ k, m = n + (k + 1) := ⟨m - n - 1, by omega⟩
    rw [Nat.pow_add, Nat.mod_mul_right_div_self, Nat.pow_succ, Nat.mul_comm (256 ^ k)]
    exact Nat.mod_mul_right_mod _ _ _
theorem u64_mul_add (y : Nat) (b : UInt8) (k : Nat) (hy : y < 256 ^ k) (hk : k ≤ 7) : IntKind.u64.wrap (IntKind.u64.wrap ((y : Int) * 256) + IntKind.u64.wrap (b.toNat : Int)) = ((y * 256 + b.toNat : Nat) : Int) := by
  have hb : b.toNat < 256 := b.toNat_lt
  have h7 : y < 256 ^ 7 := Nat.lt_of_lt_of_le hy (Nat.pow_le_pow_right (by omega) hk)
  have h7' : y < 72057594037927936 := h7
  have h8 : y * 256 + b.toNat < 18446744073709551616 := by
    have h9 : (y + 1) * 256 ≤ 72057594037927936 * 256 := Nat.mul_le_mul_right _ h7'
    have h10 : (72057594037927936 * 256 : Nat) = 18446744073709551616 := by decide
    rw [h10, Nat.add_mul] at h9
    exact Nat.lt_of_lt_of_le (Nat.add_lt_add_left hb _) h9
  have h11 : y * 256 < 18446744073709551616 := Nat.lt_of_le_of_lt (Nat.le_add_right _ _) h8
  have h12 : b.toNat < 18446744073709551616 := Nat.lt_of_le_of_lt (Nat.le_add_left _ _) h8
  have e1 : IntKind.u64.wrap ((y : Int) * 256) = (y : Int) * 256 := by
    have := u64_wrap (n := ((y * 256 : Nat) : Int)) (Int.natCast_nonneg _) (Int.ofNat_lt.2 h11)
    simpa using this
  have e3 := u64_wrap (n := ((y * 256 + b.toNat : Nat) : Int)) (Int.natCast_nonneg _) (Int.ofNat_lt.2 h8)
  rw [e1, u64_wrap (Int.natCast_nonneg _) (Int.ofNat_lt.2 h12)]
  simpa using e3
/-- The address A, with as many numbers of 64 bits as xs has, reads xs; it lies below block B. -/
def Us (w : World) (B : Nat) (A : Option Addr) (xs : List Nat) : Prop :=
  0 < xs.length → ∃ b o, A = some ⟨b, o, none⟩ ∧ b < B ∧ ∀ i, i < xs.length → w.cell? ⟨b, o + i, none⟩ = some (.int .u64 (((xs.getD i 0 : Nat)) : Int))
theorem Us.keep {w w' : World} {B : Nat} {A : Option Addr} {xs : List Nat} (h : Us w B A xs) (hk : ∀ b o, b < B → w'.cell? ⟨b, o, none⟩ = w.cell? ⟨b, o, none⟩) : Us w' B A xs := fun hp => by
  obtain ⟨b, o, e, hb, hc⟩ := h hp
  exact ⟨b, o, e, hb, fun i hi => (hk b _ hb).trans (hc i hi)⟩
theorem Us.below {w w' : World} {B : Nat} {A : Option Addr} {xs : List Nat} (h : Us w B A xs) (hb : Below B w w') : Us w' B A xs := h.keep fun b o hlt => hb.cell (p := ⟨b, o, none⟩) hlt
end Go.Proofs.Yteemdjamgbbjhaa.Wd

/-
  The contracts of the reference's disk: asked and done; of the statements' kind.
-/
namespace Go.Proofs.Yteemdjamgbbjhaa.Dsk
set_option maxRecDepth 100000
open Go.RowKit Go.Proofs.Yteemdjamgbbjhaa.Wd

/-- what asking of an operation comes to: behind how many operations one fails, and the error -/
def askedM (dead : Bool) (n : Nat) (fails i : Int) : Int × Int :=
  if dead = true then (fails, 9) else if i < 0 ∨ (n : Int) ≤ i then (fails, 2) else if fails = 0 then (-1, 8) else if 0 < fails then (fails - 1, 0) else (fails, 0)

/-- what a write or a sync comes to: whether the power is gone, how many are left, how many were done, whether this one is -/
def doneM (dead : Bool) (left ops : Int) : Bool × Int × Int × Bool :=
  if left = 0 then (true, left, ops, false) else if 0 < left then (dead, left - 1, ops + 1, true) else (dead, left, ops + 1, true)

end Go.Proofs.Yteemdjamgbbjhaa.Dsk

/-
  The contract of the statements' block; blocks as values.
-/
namespace Go.Proofs.Yteemdjamgbbjhaa.Dsk
set_option maxRecDepth 100000
open Go.RowKit Go.Proofs.Yteemdjamgbbjhaa.Wd

/-- a block's value -/
def blk (l : List UInt8) : Value := .agg (bv l).toArray
/-- the block of a byte -/
def blockM (x : UInt8) : List UInt8 := (List.range 64).map fun i => x ^^^ UInt8.ofNat i
theorem blockM_len (x : UInt8) : (blockM x).length = 64 := by simp [blockM]
/-- the block of noughts -/
def nought : List UInt8 := List.replicate 64 0
theorem size39 : (Try.prog.info? 89).map (·.size) = some 64 := by kernel_rfl

/-- what lies in a row from place o on -/
theorem Row.range {w : World} {g o : Nat} {t : TypeId} {cs vs : List Value} (h : Row w g t cs) (hv : ∀ j v, vs[j]? = some v → cs[o + j]? = some v) : w.rangeAt g o vs := fun j v hj => by
  rw [h.cell]; exact hv j v hj
theorem Row.there {w : World} {g o n : Nat} {t : TypeId} {cs : List Value} (h : Row w g t cs) (hn : o + n ≤ cs.length) : w.there g o n := fun j hj => by
  refine ⟨?_, h.frozen _⟩
  rw [h.cell, List.getElem?_eq_getElem (by omega)]; rfl
theorem Row.setCells {g : Nat} {t : TypeId} : ∀ (vs : List Value) (o : Nat) (cs : List Value) (w : World), Row w g t cs → o + vs.length ≤ cs.length → Row (w.setCells g o vs) g t (splice cs o vs)
  | [], o, cs, w, h, _ => by
    have : splice cs o [] = cs := by simp [splice]
    rw [this]; exact h
  | v :: vs, o, cs, w, h, hl => by
    have h1 := Row.setCells vs (o + 1) (cs.set o v) (w.setCell ⟨g, o, none⟩ v) (h.store o v) (by simp at hl ⊢; omega)
    have e : splice (cs.set o v) (o + 1) vs = splice cs o (v :: vs) := by
      simp only [List.length_cons] at hl
      have hlt : o < cs.length := by omega
      have ho : (cs.take o).length = o := by rw [List.length_take]; omega
      have e1 : cs.set o v = cs.take o ++ v :: cs.drop (o + 1) := by rw [List.set_eq_take_append_cons_drop, if_pos hlt]
      have e2 : (cs.take o ++ v :: cs.drop (o + 1)).take (o + 1) = cs.take o ++ [v] := by
        have := List.take_length_add_append (l₁ := cs.take o) (l₂ := v :: cs.drop (o + 1)) 1
        rw [ho] at this
        rw [this]; simp
      have e3 : (cs.take o ++ v :: cs.drop (o + 1)).drop (o + 1 + vs.length) = cs.drop (o + (v :: vs).length) := by
        have := List.drop_length_add_append (l₁ := cs.take o) (l₂ := v :: cs.drop (o + 1)) (1 + vs.length)
        rw [ho] at this
        rw [Nat.add_assoc, this, Nat.add_comm 1, List.drop_succ_cons, List.drop_drop, List.length_cons]
        congr 1; omega
      unfold splice
      rw [e1, e2, e3]
      simp
    rw [← e]
    exact h1

theorem below_setCells {B : Nat} {a : World} {g : Nat} : ∀ {w : World}, Below B a w → B ≤ g → ∀ (vs : List Value) (o : Nat), Below B a (w.setCells g o vs)
  | _, h, _, [], _ => h
  | _, h, hg, v :: vs, o => below_setCells (h.setCell (p := ⟨g, o, none⟩) hg v) hg vs (o + 1)
theorem results_cell {P : Program} {fn : Func} {p : Tmp} {ty : TypeId} (h : fn.results = #[.cell p ty]) (tmps : Array Value) (w : World) (a : Addr) (v : Value) (hp : tmps.getD p undef = .pointer (some a)) (hl : (loadVar ty a).run P w = .ok v w) :
    (results fn tmps).run P w = .ok v w := by
  have e : (results fn tmps).run P w = ((asAddr (tmps.getD p undef)).run P w).andThen fun a w₁ => (loadVar ty a).run P w₁ := by
    simp only [results, h]
    simp [Sem.run_bind, Result.andThen]
  rw [e, hp]
  have e2 : (asAddr (.pointer (some a))).run P w = .ok a w := rfl
  rw [e2, Result.andThen_ok, hl]
section
variable {P : Program}
theorem wpList_load_blk {ops : Array Oper} {rest : List Oper} {op : Oper} {a : Act} {w : World} {Q : Exit → Act → World → Prop} (hgd : op.guard = none) (ty : TypeId) (x : Operand) (ho : op.op = .load ty x)
    (b o : Nat) (hx : a.eval x = .pointer (some ⟨b, o, none⟩)) (l : List UInt8) (d : TypeDesc) (hc : w.rangeAt b o (bv l)) (hu : P.underlying ty = some d) (hd : d.isRow = true) (hi : (P.info? ty).map (·.size) = some l.length)
    (h : wpList P ops Q rest (a.put op.dst (blk l)) w) : wpList P ops Q (op :: rest) a w :=
  wpList_load_mid hgd ty x ho b o hx (bv l) d hc hu hd (by rw [bv_length]; exact hi) h
theorem wpList_store_blk {ops : Array Oper} {rest : List Oper} {op : Oper} {a : Act} {w : World} {Q : Exit → Act → World → Prop} (hgd : op.guard = none) (ty : TypeId) (x y : Operand) (ho : op.op = .store ty x y)
    (b o : Nat) (l : List UInt8) (hx : a.eval x = .pointer (some ⟨b, o, none⟩)) (hy : a.eval y = blk l) (ht : w.there b o l.length) (hi : (P.info? ty).map (·.size) = some l.length)
    (h : wpList P ops Q rest (a.put op.dst undef) (w.setCells b o (bv l))) : wpList P ops Q (op :: rest) a w :=
  wpList_store_mid hgd ty x y ho b o (bv l).toArray hx hy (by rw [List.size_toArray, bv_length]; exact ht) (by rw [List.size_toArray, bv_length]; exact hi) (all_oneCell_toArray bv_one) h
theorem grown_setCells (g : Nat) : ∀ (vs : List Value) (o : Nat) (w : World), w.grownBy (w.setCells g o vs) (some g)
  | [], _, w => World.grownBy.refl w _
  | v :: vs, o, w => by
    have h1 := grown_setCells g vs (o + 1) (w.setCell ⟨g, o, none⟩ v)
    exact ⟨h1.os, h1.tape, h1.output, Nat.le_trans (by simp [World.setCell]) h1.size, fun k hk hne => (h1.block k (by simpa [World.setCell] using hk) hne).trans (Below.heap_setCell w _ v k (fun e => hne (by rw [e])))⟩
/-- a store of many cells into a row that is known whole: the world behind it is a letter -/
theorem wpList_store_in {ops : Array Oper} {rest : List Oper} {op : Oper} {a : Act} {w : World} {Q : Exit → Act → World → Prop} (hgd : op.guard = none) (ty : TypeId) (x y : Operand) (ho : op.op = .store ty x y)
    (g o : Nat) (vs : List Value) (hx : a.eval x = .pointer (some ⟨g, o, none⟩)) (hy : a.eval y = .agg vs.toArray) (t : TypeId) (cs : List Value) (hr : Row w g t cs) (hfit : o + vs.length ≤ cs.length) (h1 : ∀ v ∈ vs, v.oneCell' = true) (hi : (P.info? ty).map (·.size) = some vs.length)
    (h : ∀ w', Row w' g t (splice cs o vs) → w.grownBy w' (some g) → wpList P ops Q rest (a.put op.dst undef) w') : wpList P ops Q (op :: rest) a w :=
  wpList_store_mid hgd ty x y ho g o vs.toArray hx hy (by rw [List.size_toArray]; exact Row.there hr hfit) (by rw [List.size_toArray]; exact hi) (all_oneCell_toArray h1) (h _ (Row.setCells vs o cs w hr hfit) (grown_setCells g vs o w))
/-- a block's result, out of its variable -/
theorem run_load_blk (w : World) (b o : Nat) (ty : TypeId) (l : List UInt8) (d : TypeDesc) (hc : w.rangeAt b o (bv l)) (hu : P.underlying ty = some d) (hd : d.isRow = true) (hi : (P.info? ty).map (·.size) = some l.length) :
    (loadVar ty ⟨b, o, none⟩).run P w = .ok (blk l) w := run_loadVar_mid w b o ty (bv l) d hc hu hd (by rw [bv_length]; exact hi)
end

end Go.Proofs.Yteemdjamgbbjhaa.Dsk

/-
  Words for the developers' disk, and the contracts of its small calls.
-/
namespace Go.Proofs.Yteemdjamgbbjhaa.Dsk
set_option maxRecDepth 100000
open Go.RowKit Go.Proofs.Yteemdjamgbbjhaa.Wd

/-- a disk as numbers and lists -/
structure DM where
  sec : List (List UInt8)
  pend : List (Int × List UInt8 × List UInt8)
  dead : Bool
  ps : Bool
  pl : Int
  fs : Bool
  fl : Int
  ops : Int
/-- the cells of a pending write -/
def pcs (p : Int × List UInt8 × List UInt8) : List Value := .int .i64 p.1 :: (bv p.2.1 ++ bv p.2.2)
structure Good (d : DM) : Prop where
  pos : 0 < d.sec.length
  most : d.sec.length ≤ 2048
  sec : ∀ b ∈ d.sec, b.length = 64
  pend : ∀ p ∈ d.pend, 0 ≤ p.1 ∧ p.1 < (d.sec.length : Int) ∧ p.2.1.length = 64 ∧ p.2.2.length = 64
  left : 0 ≤ d.pl ∧ d.pl < 9223372036854775808 ∧ 0 ≤ d.fl ∧ d.fl < 9223372036854775808
/-- a disk's own cells -/
def dcs (gs : Nat) (A : Option Addr) (c : Nat) (d : DM) : List Value :=
  [.slice (some ⟨gs, 0, none⟩) d.sec.length d.sec.length, .slice A d.pend.length c, .bool d.dead, .bool d.ps, .int .i64 d.pl, .bool d.fs, .int .i64 d.fl, .int .i64 d.ops]
/-- block g is a disk's, sectors and writes beside it, all of it in F -/
structure DskAt (w : World) (F : Nat → Prop) (g gs : Nat) (A : Option Addr) (c : Nat) (d : DM) : Prop where
  fg : F g
  fs : F gs
  ne : g ≠ gs
  own : ∀ k, (Value.slice A d.pend.length c).ownBlock = some k → F k ∧ k ≠ g ∧ k ≠ gs
  row : Row w g 77 (dcs gs A c d)
  secs : Row w gs 89 (bv d.sec.flatten)
  pend : w.ownsRow 0 121 129 (.slice A d.pend.length c) d.pend.length (d.pend.flatMap pcs)
  good : Good d
def Dsk (w : World) (F : Nat → Prop) (g : Nat) (d : DM) : Prop := ∃ gs A c, DskAt w F g gs A c d

/-- outside of F nothing has turned -/
structure Off (F : Nat → Prop) (w w' : World) : Prop where
  os : w'.os = w.os
  tape : w'.tape = w.tape
  output : w'.output = w.output
  size : w.heap.size ≤ w'.heap.size
  block : ∀ k, k < w.heap.size → ¬ F k → w'.heap[k]? = w.heap[k]?
/-- F' is F and blocks made between -/
def Ext (F F' : Nat → Prop) (w w' : World) : Prop := ∀ k, F' k → F k ∨ (w.heap.size ≤ k ∧ k < w'.heap.size)
section
variable {F F' F'' : Nat → Prop} {w w' w'' : World}
theorem Off.refl (F : Nat → Prop) (w : World) : Off F w w := ⟨rfl, rfl, rfl, Nat.le_refl _, fun _ _ _ => rfl⟩
theorem Off.trans (h : Off F w w') (e : Ext F F' w w') (k : Off F' w' w'') : Off F w w'' :=
  ⟨k.os.trans h.os, k.tape.trans h.tape, k.output.trans h.output, Nat.le_trans h.size k.size, fun i hi hn => (k.block i (Nat.lt_of_lt_of_le hi h.size) (fun hf => by rcases e i hf with hf | hf; exact hn hf; omega)).trans (h.block i hi hn)⟩
theorem Ext.refl (F : Nat → Prop) (w w' : World) : Ext F F w w' := fun _ h => .inl h
theorem Ext.trans (h : Ext F F' w w') (h0 : w.heap.size ≤ w'.heap.size) (h1 : w'.heap.size ≤ w''.heap.size) (k : Ext F' F'' w' w'') : Ext F F'' w w'' := fun i hi => by
  rcases k i hi with hi | hi
  · rcases h i hi with hi | hi
    · exact .inl hi
    · exact .inr ⟨hi.1, by omega⟩
  · exact .inr ⟨by omega, hi.2⟩
theorem Off.of_below (h : Below w.heap.size w w') : Off F w w' := ⟨h.os, h.tape, h.output, h.size, fun k hk _ => h.block k hk⟩
theorem Off.of_grown {row : Option Nat} (h : w.grownBy w' row) (hr : ∀ k, row = some k → F k) : Off F w w' := ⟨h.os, h.tape, h.output, h.size, fun k hk hn => h.block k hk (fun e => hn (hr k e.symm))⟩
theorem Off.setCell (h : Off F w w') {p : Addr} (hp : F p.block ∨ w.heap.size ≤ p.block) (v : Value) : Off F w (w'.setCell p v) :=
  ⟨h.os, h.tape, h.output, by simpa [World.setCell] using h.size, fun k hk hn => (Below.heap_setCell w' p v k (fun e => by subst e; rcases hp with hp | hp; exact hn hp; omega)).trans (h.block k hk hn)⟩
theorem Off.alloc (h : Off F w w') (o : Obj) : Off F w (w'.alloc o) :=
  ⟨h.os, h.tape, h.output, Nat.le_trans h.size (by simp), fun k hk hn => (Below.heap_alloc w' o k (Nat.lt_of_lt_of_le hk h.size)).trans (h.block k hk hn)⟩
theorem Off.drewN (h : Off F w w') (n : Nat) : Off F w (w'.drewN n) := ⟨h.os, h.tape, h.output, h.size, h.block⟩
theorem Off.below {B : Nat} (h : Off F w w') (hF : ∀ k, F k → B ≤ k) (hB : B ≤ w.heap.size) : Below B w w' := ⟨h.os, h.tape, h.output, h.size, fun k hk => h.block k (by omega) (fun hf => by have := hF k hf; omega)⟩
theorem Off.grown {row : Option Nat} (h : Off F w w') (hg : w'.grownBy w'' row) (hr : ∀ k, row = some k → F k ∨ w.heap.size ≤ k) : Off F w w'' :=
  ⟨hg.os.trans h.os, hg.tape.trans h.tape, hg.output.trans h.output, Nat.le_trans h.size hg.size, fun k hk hn => (hg.block k (Nat.lt_of_lt_of_le hk h.size) (fun e => by rcases hr k e.symm with hf | hf; exact hn hf; omega)).trans (h.block k hk hn)⟩
theorem DskAt.off {g gs c : Nat} {A : Option Addr} {d : DM} (h : DskAt w F g gs A c d) (hn : ∀ k, F k → ¬ F' k) (ho : Off F' w w') : DskAt w' F g gs A c d := by
  refine ⟨h.fg, h.fs, h.ne, h.own, (ho.block g h.row.lt (hn g h.fg)).trans h.row, (ho.block gs h.secs.lt (hn gs h.fs)).trans h.secs, ?_, h.good⟩
  rcases h.pend with ⟨hl, hv | ⟨gp, cap, cur, hv, hb, hg, hr⟩⟩
  · exact ⟨hl, .inl hv⟩
  · have hk := h.own gp (by rw [hv]; rfl)
    exact ⟨hl, .inr ⟨gp, cap, cur, hv, hb, (ho.block gp (Array.getElem?_eq_some_iff.1 hg).1 (hn gp hk.1)).trans hg, hr⟩⟩
theorem Dsk.off {g : Nat} {d : DM} (h : Dsk w F g d) (hn : ∀ k, F k → ¬ F' k) (ho : Off F' w w') : Dsk w' F g d := by
  obtain ⟨gs, A, c, h⟩ := h
  exact ⟨gs, A, c, h.off hn ho⟩
theorem Dsk.more {g : Nat} {d : DM} (h : Dsk w F g d) (hF : ∀ k, F k → F' k) : Dsk w F' g d := by
  obtain ⟨gs, A, c, h⟩ := h
  exact ⟨gs, A, c, hF _ h.fg, hF _ h.fs, h.ne, fun k hk => ⟨hF _ (h.own k hk).1, (h.own k hk).2⟩, h.row, h.secs, h.pend, h.good⟩
/-- blocks made or turned outside of F leave a disk as it is -/
theorem DskAt.below {g gs c : Nat} {A : Option Addr} {d : DM} (h : DskAt w F g gs A c d) (hb : Below w.heap.size w w') : DskAt w' F g gs A c d := h.off (F' := fun _ => False) (fun _ _ hf => hf) (Off.of_below hb)
theorem Dsk.below {g : Nat} {d : DM} (h : Dsk w F g d) (hb : Below w.heap.size w w') : Dsk w' F g d := h.off (F' := fun _ => False) (fun _ _ hf => hf) (Off.of_below hb)
theorem DskAt.drewN {g gs c : Nat} {A : Option Addr} {d : DM} (h : DskAt w F g gs A c d) (n : Nat) : DskAt (w.drewN n) F g gs A c d := ⟨h.fg, h.fs, h.ne, h.own, h.row, h.secs, h.pend, h.good⟩
/-- the disk's own cells turn -/
theorem DskAt.turn {g gs c : Nat} {A : Option Addr} {d d' : DM} (h : DskAt w F g gs A c d) (hr : Row w' g 77 (dcs gs A c d')) (he : d'.pend = d.pend) (hs : d'.sec = d.sec) (hgd : Good d') (hg : ∀ k, k < w.heap.size → k ≠ g → w'.heap[k]? = w.heap[k]?) : DskAt w' F g gs A c d' := by
  refine ⟨h.fg, h.fs, h.ne, by rw [he]; exact h.own, hr, by rw [hs]; exact (hg gs h.secs.lt h.ne.symm).trans h.secs, ?_, hgd⟩
  rw [he]
  rcases h.pend with ⟨hl, hv | ⟨gp, cap, cur, hv, hb, hgp, hr⟩⟩
  · exact ⟨hl, .inl hv⟩
  · have hk := h.own gp (by rw [hv]; rfl)
    exact ⟨hl, .inr ⟨gp, cap, cur, hv, hb, (hg gp (Array.getElem?_eq_some_iff.1 hgp).1 hk.2.1).trans hgp, hr⟩⟩
end

theorem off_nil (w : World) : Calls Try.prog 41 #[.pointer none] w fun e w' => e = .returned (.int .i64 1) ∧ w' = w := by
  go_enter Try.func41, Try.ntmps41
  go_wp2
  go_ret
  exact ⟨rfl, rfl⟩
theorem off_any (g : Nat) (b : Bool) (w : World) (h : w.cell? ⟨g, 2, none⟩ = some (.bool b)) : Calls Try.prog 41 #[.pointer (some ⟨g, 0, none⟩)] w fun e w' => e = .returned (.int .i64 (if b then 9 else 0)) ∧ w' = w := by
  cases b with
  | true =>
    go_enter Try.func41, Try.ntmps41
    go_wp2
    go_ret
    exact ⟨rfl, rfl⟩
  | false =>
    go_enter Try.func41, Try.ntmps41
    go_wp2
    go_ret
    exact ⟨rfl, rfl⟩
theorem over_off (g o : Nat) (w : World) (h0 : w.cell? ⟨g, o, none⟩ = some (.bool false)) : Calls Try.prog 100 #[.pointer (some ⟨g, o, none⟩)] w fun e w' => e = .returned (.bool false) ∧ w' = w := by
  go_enter Try.func100, Try.ntmps100
  go_wp2
  go_ret
  exact ⟨rfl, rfl⟩
theorem over_zero (g o : Nat) (w : World) (h0 : w.cell? ⟨g, o, none⟩ = some (.bool true)) (h1 : w.cell? ⟨g, o + 1, none⟩ = some (.int .i64 0)) : Calls Try.prog 100 #[.pointer (some ⟨g, o, none⟩)] w fun e w' => e = .returned (.bool true) ∧ w' = w := by
  go_enter Try.func100, Try.ntmps100
  go_wp2
  go_ret
  exact ⟨rfl, rfl⟩
theorem over_on (g o : Nat) (l : Int) (w : World) (h0 : w.cell? ⟨g, o, none⟩ = some (.bool true)) (h1 : w.cell? ⟨g, o + 1, none⟩ = some (.int .i64 l)) (hf : w.frozen? ⟨g, o + 1, none⟩ = false) (hl : 0 < l) (hm : l < 9223372036854775808) : Calls Try.prog 100 #[.pointer (some ⟨g, o, none⟩)] w fun e w' => e = .returned (.bool false) ∧ w' = w.setCell ⟨g, o + 1, none⟩ (.int .i64 (l - 1)) := by
  have h3 : ¬ l = 0 := by omega
  have h4 : wrap64 (l - 1) = l - 1 := by unfold wrap64; omega
  go_enter Try.func100, Try.ntmps100
  go_wp2
  go_ret
  exact ⟨rfl, rfl⟩
theorem len_nil (w : World) : Calls Try.prog 43 #[.pointer none] w fun e w' => e = .returned (.int .i64 0) ∧ w' = w := by
  go_enter Try.func43, Try.ntmps43
  go_wp2
  go_ret
  exact ⟨rfl, rfl⟩
theorem len_any (g : Nat) (d : DM) (F : Nat → Prop) (w : World) (h : Dsk w F g d) : Calls Try.prog 43 #[.pointer (some ⟨g, 0, none⟩)] w fun e w' => e = .returned (.int .i64 d.sec.length) ∧ w' = w := by
  obtain ⟨gs, A, c, h⟩ := h
  have c0 : w.cell? ⟨g, 0, none⟩ = some (.slice (some ⟨gs, 0, none⟩) d.sec.length d.sec.length) := h.row.cell 0
  go_enter Try.func43, Try.ntmps43
  go_wp2
  go_ret
  exact ⟨rfl, rfl⟩
theorem dead_nil (w : World) : Calls Try.prog 40 #[.pointer none] w fun e w' => e = .returned (.bool false) ∧ w' = w := by
  go_enter Try.func40, Try.ntmps40
  go_wp2
  go_ret
  exact ⟨rfl, rfl⟩
theorem dead_any (g : Nat) (d : DM) (F : Nat → Prop) (w : World) (h : Dsk w F g d) : Calls Try.prog 40 #[.pointer (some ⟨g, 0, none⟩)] w fun e w' => e = .returned (.bool d.dead) ∧ w' = w := by
  obtain ⟨gs, A, c, h⟩ := h
  have c2 : w.cell? ⟨g, 2, none⟩ = some (.bool d.dead) := h.row.cell 2
  go_enter Try.func40, Try.ntmps40
  go_wp2
  go_ret
  exact ⟨rfl, rfl⟩
theorem ops_nil (w : World) : Calls Try.prog 53 #[.pointer none] w fun e w' => e = .returned (.int .i64 0) ∧ w' = w := by
  go_enter Try.func53, Try.ntmps53
  go_wp2
  go_ret
  exact ⟨rfl, rfl⟩
theorem ops_any (g : Nat) (d : DM) (F : Nat → Prop) (w : World) (h : Dsk w F g d) : Calls Try.prog 53 #[.pointer (some ⟨g, 0, none⟩)] w fun e w' => e = .returned (.int .i64 d.ops) ∧ w' = w := by
  obtain ⟨gs, A, c, h⟩ := h
  have c7 : w.cell? ⟨g, 7, none⟩ = some (.int .i64 d.ops) := h.row.cell 7
  go_enter Try.func53, Try.ntmps53
  go_wp2
  go_ret
  exact ⟨rfl, rfl⟩
theorem from_any (n : Int) (w : World) : Calls Try.prog 42 #[.int .i64 n] w fun e w' => e = .returned (if n < 0 then .agg #[.bool false, .int .i64 0] else .agg #[.bool true, .int .i64 n]) ∧ Below w.heap.size w w' := by
  by_cases hn : n < 0
  · rw [if_pos hn]
    go_enter Try.func42, Try.ntmps42
    go_wp2
    exact bodyPost_ret (v := .agg #[.bool false, .int .i64 0]) (by simp [results, Try.results42, go_sem]) rfl ⟨rfl, (Below.refl _ _).alloc (Nat.le_refl _) _⟩
  · rw [if_neg hn]
    go_enter Try.func42, Try.ntmps42
    go_wp2
    exact bodyPost_ret (v := .agg #[.bool true, .int .i64 n]) (by simp [results, Try.results42, go_sem]) rfl ⟨rfl, (Below.refl _ _).alloc (Nat.le_refl _) _⟩
end Go.Proofs.Yteemdjamgbbjhaa.Dsk

/-
  The contract of operate, over whatever step.
-/
namespace Go.Proofs.Yteemdjamgbbjhaa.Dsk
set_option maxRecDepth 100000
open Go.RowKit Go.Proofs.Yteemdjamgbbjhaa.Wd

/-- ahead of an operation on sector i: what is left of the disk, and why it is not done (0: it is) -/
def DM.pre (d : DM) (i : Int) (ch : Bool) : DM × Int :=
  if d.dead then (d, 9) else if i < 0 then (d, 2) else if (d.sec.length : Int) ≤ i then (d, 2)
  else if d.fs = true ∧ d.fl = 0 then ({ d with fs := false, fl := 0 }, 8)
  else
    let d1 : DM := { d with fl := if d.fs = true then d.fl - 1 else d.fl }
    if ch = true ∧ d1.ps = true ∧ d1.pl = 0 then ({ d1 with dead := true }, 9)
    else ({ d1 with pl := if ch = true ∧ d1.ps = true then d1.pl - 1 else d1.pl }, 0)
def DM.tally (d : DM) : DM := { d with ops := wrap64 (d.ops + 1) }
section
variable {w w' : World} {F : Nat → Prop} {g gs c : Nat} {A : Option Addr} {d : DM}
theorem DskAt.store {i : Nat} {v : Value} {d' : DM} (h : DskAt w F g gs A c d) (hr : (dcs gs A c d).set i v = dcs gs A c d') (he : d'.pend = d.pend) (hs : d'.sec = d.sec) (hgd : Good d') : DskAt (w.setCell ⟨g, i, none⟩ v) F g gs A c d' :=
  h.turn (by have := h.row.store i v; rwa [hr] at this) he hs hgd (fun k _ hne => Below.heap_setCell w _ v k hne)
theorem DskAt.tally (h : DskAt w F g gs A c d) : DskAt (w.setCell ⟨g, 7, none⟩ (.int .i64 (wrap64 (d.ops + 1)))) F g gs A c d.tally :=
  h.store rfl rfl rfl ⟨h.good.pos, h.good.most, h.good.sec, h.good.pend, h.good.left⟩
end
theorem operate_nil (i : Int) (ch : Bool) (fv : Value) (w : World) : Calls Try.prog 88 #[.pointer none, .int .i64 i, .bool ch, fv] w fun e w' => e = .returned (.int .i64 1) ∧ w' = w := by
  go_enter Try.func88, Try.ntmps88
  go_wp2_with fail
  refine (off_nil _).mono ?_
  rintro e w' ⟨rfl, rfl⟩
  go_wp2
  go_ret
  exact ⟨rfl, rfl⟩

set_option maxHeartbeats 1000000 in
theorem operate_any (g gs c : Nat) (A : Option Addr) (d : DM) (F : Nat → Prop) (i : Int) (ch : Bool) (k : FuncId) (caps : Array Value) (w : World) (R : Ending → World → Prop) (h : DskAt w F g gs A c d) (hk : ∀ u, (callFunc k caps).run Try.prog u = .ok (.enter k caps) u)
    (hstop : (d.pre i ch).2 ≠ 0 → ∀ w', DskAt w' F g gs A c (d.pre i ch).1 → Off F w w' → w'.heap.size = w.heap.size → R (.returned (.int .i64 (d.pre i ch).2)) w')
    (hgo : (d.pre i ch).2 = 0 → 0 ≤ i → i < (d.sec.length : Int) → ∀ w1, DskAt w1 F g gs A c (d.pre i ch).1 → Off F w w1 → w1.heap.size = w.heap.size → Calls Try.prog k caps w1 fun e w2 => e = .returned (.tuple #[]) ∧
      ∃ o, w2.cell? ⟨g, 7, none⟩ = some (.int .i64 o) ∧ w2.frozen? ⟨g, 7, none⟩ = false ∧ R (.returned (.int .i64 0)) (w2.setCell ⟨g, 7, none⟩ (.int .i64 (wrap64 (o + 1))))) :
    Calls Try.prog 88 #[.pointer (some ⟨g, 0, none⟩), .int .i64 i, .bool ch, .func (.func k) #[] caps] w R := by
  have HS := Lib.hid hstop
  have HG := Lib.hid hgo
  have HK := Lib.hid hk
  clear hstop hgo hk
  have c2 : w.cell? ⟨g, 2, none⟩ = some (.bool d.dead) := h.row.cell 2
  cases hd : d.dead with
  | true =>
    have e : d.pre i ch = (d, 9) := by simp [DM.pre, hd]
    have hR := HS.out (by rw [e]; simp) w (by rw [e]; exact h) (Off.refl _ _) rfl
    rw [e] at hR
    rw [hd] at c2
    clear HS HG h
    go_enter Try.func88, Try.ntmps88
    go_wp2_with fail
    refine (off_any _ true _ c2).mono ?_
    rintro e w' ⟨rfl, rfl⟩
    go_wp2
    exact hR
  | false =>
    rw [hd] at c2
    have c0 : w.cell? ⟨g, 0, none⟩ = some (.slice (some ⟨gs, 0, none⟩) d.sec.length d.sec.length) := h.row.cell 0
    by_cases hi0 : i < 0
    · have e : d.pre i ch = (d, 2) := by simp [DM.pre, hd, hi0]
      have hR := HS.out (by rw [e]; simp) w (by rw [e]; exact h) (Off.refl _ _) rfl
      rw [e] at hR
      clear HS HG h
      go_enter Try.func88, Try.ntmps88
      go_wp2_with fail
      refine (off_any _ false _ c2).mono ?_
      rintro e w' ⟨rfl, rfl⟩
      go_wp2
      exact hR
    by_cases hi1 : (d.sec.length : Int) ≤ i
    · have e : d.pre i ch = (d, 2) := by simp [DM.pre, hd, hi0, hi1]
      have hR := HS.out (by rw [e]; simp) w (by rw [e]; exact h) (Off.refl _ _) rfl
      rw [e] at hR
      clear HS HG h
      go_enter Try.func88, Try.ntmps88
      go_wp2_with fail
      refine (off_any _ false _ c2).mono ?_
      rintro e w' ⟨rfl, rfl⟩
      go_wp2
      exact hR
    have hi2 : 0 ≤ i := by omega
    have hi3 : i < (d.sec.length : Int) := by omega
    have c5 : w.cell? ⟨g, 5, none⟩ = some (.bool d.fs) := h.row.cell 5
    have c6 : w.cell? ⟨g, 6, none⟩ = some (.int .i64 d.fl) := h.row.cell 6
    have f5 := h.row.frozen 5
    have f6 := h.row.frozen 6
    by_cases hf0 : d.fs = true ∧ d.fl = 0
    · have e : d.pre i ch = ({ d with fs := false, fl := 0 }, 8) := by simp [DM.pre, hd, hi0, hi1, hf0]
      have hdk : DskAt ((w.setCell ⟨g, 5, none⟩ (.bool false)).setCell ⟨g, 6, none⟩ (.int .i64 0)) F g gs A c { d with fs := false, fl := 0 } :=
        (h.store (i := 5) (v := .bool false) (d' := { d with fs := false }) rfl rfl rfl ⟨h.good.pos, h.good.most, h.good.sec, h.good.pend, h.good.left⟩).store (i := 6) (v := .int .i64 0) rfl rfl rfl
          ⟨h.good.pos, h.good.most, h.good.sec, h.good.pend, h.good.left.1, h.good.left.2.1, by simp, by simp⟩
      have hR := HS.out (by rw [e]; simp) _ (by rw [e]; exact hdk) (((Off.refl F w).setCell (.inl h.fg) _).setCell (.inl h.fg) _) (by simp [World.setCell])
      rw [e] at hR
      rw [hf0.1] at c5
      rw [hf0.2] at c6
      have HR := Lib.hid hR
      clear HS HG h hdk hR e hf0
      go_enter Try.func88, Try.ntmps88
      go_wp2_with fail
      refine (off_any _ false _ c2).mono ?_
      rintro e w' ⟨rfl, rfl⟩
      go_wp2_with fail
      refine (over_zero _ _ _ c5 c6).mono ?_
      rintro e w' ⟨rfl, rfl⟩
      go_wp2
      exact HR.out
    -- behind the failing one's count
    obtain ⟨d1, hd1⟩ : ∃ d1 : DM, d1 = { d with fl := if d.fs = true then d.fl - 1 else d.fl } := ⟨_, rfl⟩
    have hpre : d.pre i ch = if ch = true ∧ d1.ps = true ∧ d1.pl = 0 then ({ d1 with dead := true }, 9) else ({ d1 with pl := if ch = true ∧ d1.ps = true then d1.pl - 1 else d1.pl }, 0) := by
      unfold DM.pre
      rw [if_neg (by simp [hd]), if_neg hi0, if_neg hi1, if_neg hf0, hd1]
    have HP := Lib.hid hpre
    have hd1d : d1.dead = false := by rw [hd1]; exact hd
    have hstep : ∃ w1, DskAt w1 F g gs A c d1 ∧ Off F w w1 ∧ w1.heap.size = w.heap.size ∧ Calls Try.prog 100 #[.pointer (some ⟨g, 5, none⟩)] w fun e w' => e = .returned (.bool false) ∧ w' = w1 := by
      cases hfs : d.fs with
      | false =>
        have e1 : d1 = d := by rw [hd1, hfs]; cases d; simp_all
        exact ⟨w, by rw [e1]; exact h, Off.refl _ _, rfl, over_off g 5 w (by rw [c5, hfs])⟩
      | true =>
        have hl0 : ¬ d.fl = 0 := fun hz => hf0 ⟨hfs, hz⟩
        have hl := h.good.left
        have e1 : d1 = { d with fl := d.fl - 1 } := by rw [hd1, hfs]; simp
        refine ⟨w.setCell ⟨g, 6, none⟩ (.int .i64 (d.fl - 1)), ?_, (Off.refl F w).setCell (.inl h.fg) _, by simp [World.setCell], over_on g 5 d.fl w (by rw [c5, hfs]) c6 f6 (by omega) hl.2.2.2⟩
        rw [e1]
        exact h.store (i := 6) rfl rfl rfl ⟨h.good.pos, h.good.most, h.good.sec, h.good.pend, h.good.left.1, h.good.left.2.1, by show 0 ≤ d.fl - 1; omega, by show d.fl - 1 < _; omega⟩
    obtain ⟨w1, h1, ho1, hs1, hov⟩ := hstep
    have c3 : w1.cell? ⟨g, 3, none⟩ = some (.bool d1.ps) := h1.row.cell 3
    have c4 : w1.cell? ⟨g, 4, none⟩ = some (.int .i64 d1.pl) := h1.row.cell 4
    have c2' : w1.cell? ⟨g, 2, none⟩ = some (.bool d1.dead) := h1.row.cell 2
    have g4 := h1.row.frozen 4
    have g2 := h1.row.frozen 2
    have HOV := Lib.hid hov
    clear hov hpre hf0 f5 f6 c5 c6
    by_cases hp0 : ch = true ∧ d1.ps = true ∧ d1.pl = 0
    · have e : d.pre i ch = ({ d1 with dead := true }, 9) := by rw [HP.out, if_pos hp0]
      have hdk : DskAt (w1.setCell ⟨g, 2, none⟩ (.bool true)) F g gs A c { d1 with dead := true } := h1.store (i := 2) rfl rfl rfl ⟨h1.good.pos, h1.good.most, h1.good.sec, h1.good.pend, h1.good.left⟩
      have hR := HS.out (by rw [e]; simp) _ (by rw [e]; exact hdk) (ho1.setCell (.inl h1.fg) _) (by simp [World.setCell, hs1])
      rw [e] at hR
      rw [hp0.2.1] at c3
      rw [hp0.2.2] at c4
      obtain rfl := hp0.1
      have HR := Lib.hid hR
      clear HS HG h hdk hR e hp0 HP
      go_enter Try.func88, Try.ntmps88
      go_wp2_with fail
      refine (off_any _ false _ c2).mono ?_
      rintro e w' ⟨rfl, rfl⟩
      go_wp2_with fail
      refine HOV.out.mono ?_
      rintro e w' ⟨rfl, rfl⟩
      go_wp2_with fail
      refine (over_zero _ _ _ c3 c4).mono ?_
      rintro e w' ⟨rfl, rfl⟩
      go_wp2
      exact HR.out
    obtain ⟨d2, hd2⟩ : ∃ d2 : DM, d2 = { d1 with pl := if ch = true ∧ d1.ps = true then d1.pl - 1 else d1.pl } := ⟨_, rfl⟩
    have e : d.pre i ch = (d2, 0) := by rw [HP.out, if_neg hp0, hd2]
    -- behind the power's count
    have hgo2 : ∀ w2, DskAt w2 F g gs A c d2 → Off F w w2 → w2.heap.size = w.heap.size → Calls Try.prog k caps w2 fun e w2 => e = .returned (.tuple #[]) ∧
      ∃ o, w2.cell? ⟨g, 7, none⟩ = some (.int .i64 o) ∧ w2.frozen? ⟨g, 7, none⟩ = false ∧ R (.returned (.int .i64 0)) (w2.setCell ⟨g, 7, none⟩ (.int .i64 (wrap64 (o + 1)))) := fun w2 q1 q2 q3 => HG.out (by rw [e]) hi2 hi3 w2 (by rw [e]; exact q1) q2 q3
    have HG2 := Lib.hid hgo2
    clear HS HG HP hgo2 e
    cases ch with
    | false =>
      have e1 : d2 = d1 := by rw [hd2]; simp
      subst e1
      have hc := HG2.out _ h1 ho1 hs1
      have HC := Lib.hid hc
      clear HG2 hc hd2 hp0 hd1
      go_enter Try.func88, Try.ntmps88
      go_wp2_with fail
      refine (off_any _ false _ c2).mono ?_
      rintro e w' ⟨rfl, rfl⟩
      go_wp2_with fail
      refine HOV.out.mono ?_
      rintro e w' ⟨rfl, rfl⟩
      go_wp2_with fail
      rw [HK.out, Oper.upon_enter]
      refine HC.out.mono ?_
      rintro e w3 ⟨rfl, o, c7, f7, hR⟩
      have HR := Lib.hid hR
      clear HC hR
      go_wp2
      exact HR.out
    | true =>
      cases hps : d1.ps with
      | false =>
        have e1 : d2 = d1 := by rw [hd2, hps]; cases d1; simp_all
        subst e1
        have hc := HG2.out _ h1 ho1 hs1
        have HC := Lib.hid hc
        rw [hps] at c3
        clear HG2 hc hd2 hp0 hd1 hps
        go_enter Try.func88, Try.ntmps88
        go_wp2_with fail
        refine (off_any _ false _ c2).mono ?_
        rintro e w' ⟨rfl, rfl⟩
        go_wp2_with fail
        refine HOV.out.mono ?_
        rintro e w' ⟨rfl, rfl⟩
        go_wp2_with fail
        refine (over_off _ _ _ c3).mono ?_
        rintro e w' ⟨rfl, rfl⟩
        go_wp2_with fail
        rw [HK.out, Oper.upon_enter]
        refine HC.out.mono ?_
        rintro e w3 ⟨rfl, o, c7, f7, hR⟩
        have HR := Lib.hid hR
        clear HC hR
        go_wp2
        exact HR.out
      | true =>
        have hl := h1.good.left
        have hl0 : ¬ d1.pl = 0 := fun hz => hp0 ⟨rfl, hps, hz⟩
        have e1 : d2 = { d1 with pl := d1.pl - 1 } := by rw [hd2, hps]; simp
        have h2 : DskAt (w1.setCell ⟨g, 4, none⟩ (.int .i64 (d1.pl - 1))) F g gs A c d2 := by
          rw [e1]
          exact h1.store (i := 4) rfl rfl rfl ⟨h1.good.pos, h1.good.most, h1.good.sec, h1.good.pend, by show 0 ≤ d1.pl - 1; omega, by show d1.pl - 1 < _; omega, h1.good.left.2.2.1, h1.good.left.2.2.2⟩
        have hc := HG2.out _ h2 (ho1.setCell (.inl h1.fg) _) (by simp [World.setCell, hs1])
        have HC := Lib.hid hc
        rw [hps] at c3
        have hl1 : 0 < d1.pl := by omega
        have hl2 := hl.2.1
        clear HG2 hc hd2 hp0 hd1 hps e1 h2
        go_enter Try.func88, Try.ntmps88
        go_wp2_with fail
        refine (off_any _ false _ c2).mono ?_
        rintro e w' ⟨rfl, rfl⟩
        go_wp2_with fail
        refine HOV.out.mono ?_
        rintro e w' ⟨rfl, rfl⟩
        go_wp2_with fail
        refine (over_on _ _ _ _ c3 c4 g4 hl1 hl2).mono ?_
        rintro e w' ⟨rfl, rfl⟩
        go_wp2_with fail
        rw [HK.out, Oper.upon_enter]
        refine HC.out.mono ?_
        rintro e w3 ⟨rfl, o, c7, f7, hR⟩
        have HR := Lib.hid hR
        clear HC hR
        go_wp2
        exact HR.out
end Go.Proofs.Yteemdjamgbbjhaa.Dsk

/-
  The contract of the reference's holds.
-/
namespace Go.Proofs.Yteemdjamgbbjhaa.Dsk
set_option maxRecDepth 100000
open Go.RowKit Go.Proofs.Yteemdjamgbbjhaa.Wd

/-- the cells of a pending write -/
def wcs (p : Int × List UInt8) : List Value := .int .i64 p.1 :: bv p.2
/-- The address A, with as many sectors as ls has, reads ls; it lies below block B. -/
def Blks (w : World) (B : Nat) (A : Option Addr) (ls : List (List UInt8)) : Prop :=
  0 < ls.length → ∃ b o, A = some ⟨b, o, none⟩ ∧ b < B ∧ ∀ i, i < ls.length → (ls.getD i []).length = 64 ∧ w.rangeAt b (o + i * 64) (bv (ls.getD i []))
/-- The address A, with as many writes as ps has, reads ps; it lies below block B. -/
def Wrs (w : World) (B : Nat) (A : Option Addr) (ps : List (Int × List UInt8)) : Prop :=
  0 < ps.length → ∃ b o, A = some ⟨b, o, none⟩ ∧ b < B ∧ ∀ i, i < ps.length → (ps.getD i (0, [])).2.length = 64 ∧ w.rangeAt b (o + i * 65) (wcs (ps.getD i (0, [])))
theorem wcs_len (p : Int × List UInt8) (h : p.2.length = 64) : (wcs p).length = 65 := by simp [wcs, bv, h]
theorem wcs_one (p : Int × List UInt8) : ∀ v ∈ wcs p, v.oneCell' = true := by
  intro v hv
  rcases List.mem_cons.1 hv with rfl | hv
  · rfl
  · exact bv_one v hv
theorem splice_all {α : Type} (L cs : List α) (h : L.length = cs.length) : splice L 0 cs = cs := by simp [splice, ← h]
theorem range_below {w w' : World} {B b o : Nat} {cs : List Value} (h : w.rangeAt b o cs) (hb : Below B w w') (hlt : b < B) : w'.rangeAt b o cs := fun j v hj => (hb.cell (p := ⟨b, o + j, none⟩) hlt).trans (h j v hj)

/-- what a sector holds -/
def holdsM (safe : List (List UInt8)) (pend : List (Int × List UInt8)) (i : Nat) : List UInt8 :=
  pend.foldl (fun b p => if p.1 = (i : Int) then p.2 else b) (safe.getD i [])

end Go.Proofs.Yteemdjamgbbjhaa.Dsk

/-
  Words on structs that are built whole; nothing here speaks of the disk.
-/
namespace Go.Proofs.Yteemdjamgbbjhaa.Dsk
set_option maxRecDepth 100000
open Go.RowKit Go.Proofs.Yteemdjamgbbjhaa.Wd

theorem set_splice {α : Type} (v : α) (vs : List α) (o : Nat) (cs : List α) (hlt : o < cs.length) : splice (cs.set o v) (o + 1) vs = splice cs o (v :: vs) := by
  have ho : (cs.take o).length = o := by rw [List.length_take]; omega
  have e1 : cs.set o v = cs.take o ++ v :: cs.drop (o + 1) := by rw [List.set_eq_take_append_cons_drop, if_pos hlt]
  have e2 : (cs.take o ++ v :: cs.drop (o + 1)).take (o + 1) = cs.take o ++ [v] := by
    have := List.take_length_add_append (l₁ := cs.take o) (l₂ := v :: cs.drop (o + 1)) 1
    rw [ho] at this
    rw [this]; simp
  have e3 : (cs.take o ++ v :: cs.drop (o + 1)).drop (o + 1 + vs.length) = cs.drop (o + (v :: vs).length) := by
    have := List.drop_length_add_append (l₁ := cs.take o) (l₂ := v :: cs.drop (o + 1)) (1 + vs.length)
    rw [ho] at this
    rw [Nat.add_assoc, this, Nat.add_comm 1, List.drop_succ_cons, List.drop_drop, List.length_cons]
    congr 1; omega
  unfold splice
  rw [e1, e2, e3]
  simp
theorem splice_len {α : Type} (cs vs : List α) (o : Nat) (h : o + vs.length ≤ cs.length) : (splice cs o vs).length = cs.length := by
  unfold splice
  rw [List.length_append, List.length_append, List.length_take, List.length_drop]
  omega
theorem fold_zip (off : Nat) : ∀ (vs : List Value) (k : Nat) (cs : List Value), off + k + vs.length ≤ cs.length →
    (vs.zipIdx k).foldl (fun (cs : Array Value) (p : Value × Nat) => cs.setIfInBounds (off + p.2) p.1) cs.toArray = (splice cs (off + k) vs).toArray
  | [], k, cs, _ => by simp [splice]
  | v :: vs, k, cs, h => by
    simp only [List.length_cons] at h
    rw [List.zipIdx_cons, List.foldl_cons, List.setIfInBounds_toArray, fold_zip off vs (k + 1) (cs.set (off + k) v) (by rw [List.length_set]; omega), ← Nat.add_assoc, set_splice v vs (off + k) cs (by omega)]
/-- one part of a value that is built -/
theorem fill_part (place : Nat → Option (Nat × Nat)) (cs : List Value) (i : Nat) (v : Value) (vs : List Value) (rest : List (Nat × Value)) (off : Nat) (hv : v.cells = vs.toArray) (hp : place i = some (off, vs.length)) (hfit : off + vs.length ≤ cs.length) :
    Instr.fill place cs.toArray ((i, v) :: rest) = Instr.fill place (splice cs off vs).toArray rest := by
  rw [Instr.fill, hp]
  simp only [hv, List.size_toArray]
  rw [if_neg (by simp; omega)]
  congr 1
  rw [← Array.foldl_toList, Array.toList_zipIdx]
  exact fold_zip off vs 0 cs (by omega)
theorem yieldsIf_build {P : Program} {ops : Array Oper} {S : World → Prop} {op : Oper} {a : Act} (hw : Region.wanted op (yielded ops a.tmps) = true) (t : TypeId) (parts : Array (Nat × Operand)) (ho : op.op = .build t parts) (cells : Array Value)
    (hb : P.built t (parts.map fun (i, x) => (i, a.eval x)).toList = some cells) : YieldsIf P ops S op (.agg cells) a :=
  Or.inl ⟨hw, fun w _ => by
    unfold execOp
    simp only [ho, Sem.run_bind, run_build w t _ cells hb, Result.andThen_ok]
    rfl⟩
theorem wpList_build_to {P : Program} {ops : Array Oper} {rest : List Oper} {o : Oper} {a : Act} {w : World} {Q : Exit → Act → World → Prop} (hw : Region.wanted o (yielded ops a.tmps) = true) (t : TypeId) (parts : Array (Nat × Operand)) (ho : o.op = .build t parts) (cells : Array Value)
    (hb : P.built t (parts.map fun (i, x) => (i, a.eval x)).toList = some cells) (h : wpList P ops Q rest (a.put o.dst (.agg cells)) w) : wpList P ops Q (o :: rest) a w :=
  wpList_wanted hw fun K hK => wp_build t parts ho (by rw [hb]; rfl) (by rw [hb]; exact hK _ _ h)
theorem built_of (t : TypeId) (parts : List (Nat × Value)) {P : Program} (fields : Array Field) (places : List (Nat × Nat)) (zs : List Value) (hu : P.underlying t = some (.struct fields)) (hz : (P.info? t).bind (·.zero) = some (.agg zs.toArray))
    (hp : fields.toList.mapM (fun f => (P.info? f.type).map fun i => (f.offset, i.size)) = some places) : P.built t parts = Instr.fill (places.toArray[·]?) zs.toArray parts := by
  unfold Program.built
  cases hi : P.info? t with
  | none => rw [hi] at hz; cases hz
  | some it =>
    rw [hi] at hz
    have hz' : it.zero = some (.agg zs.toArray) := hz
    simp only [hu, hz', hp]
    rfl
/-- a region that draws: S told anew, more than it was -/
theorem wpAnyH_mono {P : Program} {ops : Array Oper} {Q : Exit → Act → World → Prop} {md : Region.Mode} {S S' : World → Prop} (hSS : ∀ w, S' w → S w) :
    ∀ (fuel : Nat) (listed : Array Bool) (a : Act) (w : World), wpAnyH P md ops Q S' fuel listed a w → wpAnyH P md ops Q S fuel listed a w
  | 0, _, _, _, h => h
  | fuel + 1, _, _, _, h => ⟨h.1, fun i hi => wpOp_mono (fun a' w' h' => ⟨hSS _ h'.1, wpAnyH_mono hSS fuel _ a' w' h'.2⟩) (h.2 i hi)⟩
/-- a slice literal of one element that is handed in -/
theorem wp_buildOne {P : Program} {o : Oper} {a : Act} {w : World} {K : Act → World → Prop} {Q : Exit → Act → World → Prop} (t e : TypeId) (x : Operand) (ho : o.op = .buildSlice t 1 #[(0, x)])
    (vs zs : List Value) (ie : TypeInfo) (hx : a.eval x = .agg vs.toArray) (hu : P.underlying t = some (.slice e)) (hie : P.info? e = some ie) (hz : ie.zero = some (.agg zs.toArray)) (hs : ie.size = zs.length) (hl : vs.length = zs.length) (hpos : 0 < zs.length) (hn : zs.length ≤ 1000)
    (h : K (a.put o.dst (.slice (some ⟨w.heap.size, 0, none⟩) 1 1)) (w.alloc (.cells vs.toArray e))) : o.wp P a w K Q := by
  refine wp_buildSlice t e 1 #[(0, x)] ho vs.toArray ie _ hu hie hz (by omega) (by omega) ?_ h
  have e1 : ((Array.range (1 * ie.size)).map fun x => (Value.agg zs.toArray).cells[x % (Value.agg zs.toArray).cells.size]!) = zs.toArray := by
    apply Array.ext
    · simp [hs]
    · intro j h1 h2
      simp at h1 h2
      simp [Value.cells, Nat.mod_eq_of_lt h2, h2]
  rw [e1]
  have e2 : (#[((0 : Nat), x)].map fun (p : Nat × Operand) => (p.1, a.eval p.2)).toList = [(0, .agg vs.toArray)] := by simp [hx]
  have e3 := fill_part (fun i => some (i * ie.size, ie.size)) zs 0 (.agg vs.toArray) vs [] 0 rfl (by simp [hs, hl]) (by omega)
  rw [splice_all _ _ hl.symm] at e3
  exact (congrArg _ e2).trans e3
end Go.Proofs.Yteemdjamgbbjhaa.Dsk

/-
  The steps of Read, Write and Sync, by contracts of their own.
-/
namespace Go.Proofs.Yteemdjamgbbjhaa.Dsk
set_option maxRecDepth 100000
open Go.RowKit Go.Proofs.Yteemdjamgbbjhaa.Wd

theorem flat_get : ∀ (ls : List (List UInt8)) (i j : Nat), (∀ b ∈ ls, b.length = 64) → i < ls.length → j < 64 → ls.flatten[i * 64 + j]? = (ls.getD i [])[j]?
  | [], i, j, _, hi, _ => by simp at hi
  | l :: ls, 0, j, h, _, hj => by
    have h0 := h l (by simp)
    simp [List.getElem?_append_left (by omega : j < l.length)]
  | l :: ls, i + 1, j, h, hi, hj => by
    have h0 := h l (by simp)
    have := flat_get ls i j (fun b hb => h b (by simp [hb])) (by simpa using hi) hj
    rw [List.flatten_cons, List.getElem?_append_right (by omega), h0, show (i + 1) * 64 + j - 64 = i * 64 + j by omega, this]
    simp
theorem flat_len (ls : List (List UInt8)) (h : ∀ b ∈ ls, b.length = 64) : ls.flatten.length = ls.length * 64 := by
  induction ls with
  | nil => rfl
  | cons l ls ih => rw [List.flatten_cons, List.length_append, h l (by simp), ih (fun b hb => h b (by simp [hb])), List.length_cons]; omega
theorem flat_set (ls : List (List UInt8)) (i : Nat) (b : List UInt8) (h : ∀ b ∈ ls, b.length = 64) (hb : b.length = 64) (hi : i < ls.length) : splice (bv ls.flatten) (i * 64) (bv b) = bv (ls.set i b).flatten := by
  have hs : ∀ x ∈ ls.set i b, x.length = 64 := fun x hx => by
    rcases List.mem_or_eq_of_mem_set hx with hx | rfl
    · exact h x hx
    · exact hb
  have e : splice (bv ls.flatten) (i * 64) (bv b) = bv (splice ls.flatten (i * 64) b) := by simp [splice, bv, List.map_take, List.map_drop]
  rw [e]
  congr 1
  have l0 := flat_len ls h
  have l1 := flat_len _ hs
  rw [List.length_set] at l1
  apply List.ext_getElem?
  intro n
  unfold splice
  have hile : i * 64 + 64 ≤ ls.length * 64 := by omega
  by_cases hn : n < ls.length * 64
  · have hk : n / 64 < ls.length := by omega
    have hj : n % 64 < 64 := Nat.mod_lt _ (by omega)
    have e2 := flat_get (ls.set i b) (n / 64) (n % 64) hs (by simpa using hk) hj
    have e3 := flat_get ls (n / 64) (n % 64) h hk hj
    have e4 : n / 64 * 64 + n % 64 = n := by omega
    rw [e4] at e2 e3
    rw [e2]
    by_cases h1 : n < i * 64
    · rw [List.getElem?_append_left (by rw [List.length_take]; omega), List.getElem?_take_of_lt h1, e3]
      have : n / 64 ≠ i := by omega
      simp [List.getD_eq_getElem?_getD, this.symm]
    by_cases h2 : n < i * 64 + 64
    · have : n / 64 = i := by omega
      rw [List.getElem?_append_right (by rw [List.length_take]; omega), List.getElem?_append_left (by rw [List.length_take, hb]; omega), List.length_take]
      rw [this, show n - min (i * 64) ls.flatten.length = n % 64 by omega]
      simp [List.getD_eq_getElem?_getD, hi]
    · rw [List.getElem?_append_right (by rw [List.length_take]; omega), List.getElem?_append_right (by rw [List.length_take, hb]; omega), List.getElem?_drop, List.length_take, hb]
      rw [show i * 64 + 64 + (n - min (i * 64) ls.flatten.length - 64) = n by omega, e3]
      have : n / 64 ≠ i := by omega
      simp [List.getD_eq_getElem?_getD, this.symm]
  · rw [List.getElem?_eq_none (by rw [List.length_append, List.length_append, List.length_take, List.length_drop, hb]; omega), List.getElem?_eq_none (by omega)]
theorem sec_len {d : DM} (h : Good d) {i : Nat} (hi : i < d.sec.length) : (d.sec.getD i []).length = 64 := by
  rw [List.getD_eq_getElem?_getD, List.getElem?_eq_getElem hi]
  exact h.sec _ (List.getElem_mem hi)
theorem DskAt.sec_range {w : World} {F : Nat → Prop} {g gs c : Nat} {A : Option Addr} {d : DM} (h : DskAt w F g gs A c d) {i : Nat} (hi : i < d.sec.length) : w.rangeAt gs (i * 64) (bv (d.sec.getD i [])) := by
  refine Row.range h.secs fun j v hj => ?_
  have hl := sec_len h.good hi
  have hj64 : j < 64 := by have := (List.getElem?_eq_some_iff.1 hj).1; rwa [bv_length, hl] at this
  have := flat_get d.sec i j h.good.sec hi hj64
  simp only [bv, List.getElem?_map] at hj ⊢
  rw [this]
  exact hj

set_option maxHeartbeats 1000000 in
theorem read1_any (g gs c : Nat) (A : Option Addr) (d : DM) (F : Nat → Prop) (i : Nat) (b0 b1 b2 : Nat) (w : World) (h : DskAt w F g gs A c d) (hi : i < d.sec.length)
    (h0 : w.cell? ⟨b0, 0, none⟩ = some (.pointer (some ⟨g, 0, none⟩))) (h1 : w.cell? ⟨b1, 0, none⟩ = some (.int .i64 (i : Int))) (h2 : Row w b2 89 (bv nought)) (hb0 : b0 ≠ b2) (hb1 : b1 ≠ b2) (hF : ¬ F b2) :
    Calls Try.prog 92 #[.pointer (some ⟨b0, 0, none⟩), .pointer (some ⟨b1, 0, none⟩), .pointer (some ⟨b2, 0, none⟩)] w fun e w' => e = .returned (.tuple #[]) ∧ Row w' b2 89 (bv (d.sec.getD i [])) ∧ w.grownBy w' (some b2) := by
  have hl := sec_len h.good hi
  have hrg := h.sec_range hi
  have c0 : w.cell? ⟨g, 0, none⟩ = some (.slice (some ⟨gs, 0, none⟩) d.sec.length d.sec.length) := h.row.cell 0
  have hgs : gs ≠ b2 := fun e => hF (e ▸ h.fs)
  have hg2' : g ≠ b2 := fun e => hF (e ▸ h.fg)
  have hsz : (Try.prog.info? 89).map (·.size) = some (bv (d.sec.getD i [])).length := by rw [bv_length, hl]; exact size39
  have hfit : 0 + (bv (d.sec.getD i [])).length ≤ (bv nought).length := by rw [bv_length, bv_length, hl]; exact Nat.le_refl _
  generalize d.sec.getD i [] = L at hl hrg hsz hfit ⊢
  have HSZ := Lib.hid hsz
  have HFT := Lib.hid hfit
  have HR2 := Lib.hid h2
  have hii : (i : Int) < (d.sec.length : Int) := by omega
  clear hsz hfit h2 h
  go_enter Try.func92, Try.ntmps92
  go_wp2_with fail
  refine wp_region_held_drew (S := fun w' : World => w'.cell? ⟨b0, 0, none⟩ = some (.pointer (some ⟨g, 0, none⟩)) ∧ w'.cell? ⟨b1, 0, none⟩ = some (.int .i64 (i : Int)) ∧ w'.cell? ⟨g, 0, none⟩ = some (.slice (some ⟨gs, 0, none⟩) d.sec.length d.sec.length) ∧ w'.rangeAt gs (i * 64) (bv L)) (by kernel_rfl) ⟨h0, h1, c0, hrg⟩ (fun hHeld => ?_)
  refine wpAnyH_take (i := 0) (oi := ⟨some 3, _, _, _, _, _⟩) (v := ?v0) rfl (by kernel_rfl) (by kernel_rfl) (by kernel_rfl) (fun _ _ _ h => h) (Or.inl ⟨by rfl, ?y0⟩) hHeld ?r0
  case y0 =>
    rintro w' ⟨q0, q1, q2, q3⟩
    go_simp
    try with_reducible rfl
  try simp only [Act.put, List.setIfInBounds_toArray, List.set_cons_zero, List.set_cons_succ]
  refine wpAnyH_take (i := 1) (oi := ⟨some 4, _, _, _, _, _⟩) (v := ?v1) rfl (by kernel_rfl) (by kernel_rfl) (by kernel_rfl) (fun _ _ _ h => h) (Or.inl ⟨by rfl, ?y1⟩) hHeld ?r1
  case y1 =>
    rintro w' ⟨q0, q1, q2, q3⟩
    go_simp
    try with_reducible rfl
  try simp only [Act.put, List.setIfInBounds_toArray, List.set_cons_zero, List.set_cons_succ]
  refine wpAnyH_take (i := 2) (oi := ⟨some 5, _, _, _, _, _⟩) (v := ?v2) rfl (by kernel_rfl) (by kernel_rfl) (by kernel_rfl) (fun _ _ _ h => h) (Or.inl ⟨by rfl, ?y2⟩) hHeld ?r2
  case y2 =>
    rintro w' ⟨q0, q1, q2, q3⟩
    go_simp
    try with_reducible rfl
  try simp only [Act.put, List.setIfInBounds_toArray, List.set_cons_zero, List.set_cons_succ]
  refine wpAnyH_take (i := 3) (oi := ⟨some 6, _, _, _, _, _⟩) (v := ?v3) rfl (by kernel_rfl) (by kernel_rfl) (by kernel_rfl) (fun _ _ _ h => h) (Or.inl ⟨by rfl, ?y3⟩) hHeld ?r3
  case y3 =>
    rintro w' ⟨q0, q1, q2, q3⟩
    go_simp
    try with_reducible rfl
  try simp only [Act.put, List.setIfInBounds_toArray, List.set_cons_zero, List.set_cons_succ]
  refine wpAnyH_take (i := 4) (oi := ⟨some 7, _, _, _, _, _⟩) (v := ?v4) rfl (by kernel_rfl) (by kernel_rfl) (by kernel_rfl) (fun _ _ _ h => h) (Or.inl ⟨by rfl, ?y4⟩) hHeld ?r4
  case y4 =>
    rintro w' ⟨q0, q1, q2, q3⟩
    go_simp
    try with_reducible rfl
  try simp only [Act.put, List.setIfInBounds_toArray, List.set_cons_zero, List.set_cons_succ]
  refine wpAnyH_take (i := 5) (oi := ⟨some 8, _, _, _, _, _⟩) (v := ?v5) rfl (by kernel_rfl) (by kernel_rfl) (by kernel_rfl) (fun _ _ _ h => h) (Or.inl ⟨by rfl, ?y5⟩) hHeld ?r5
  case y5 =>
    rintro w' ⟨q0, q1, q2, q3⟩
    go_simp
    try with_reducible rfl
  try simp only [Act.put, List.setIfInBounds_toArray, List.set_cons_zero, List.set_cons_succ]
  refine wpAnyH_take (i := 6) (oi := ⟨some 9, _, _, _, _, _⟩) rfl (by kernel_rfl) (by kernel_rfl) (by kernel_rfl) (fun _ _ _ h => h) (yieldsIf_load_mid (by rfl) 89 (.tmp 8) rfl gs (i * 64) ?x6 (bv L) _ (fun _ hS => hS.2.2.2) Try.underlying89 rfl HSZ.out) hHeld ?r6
  case x6 => first | rfl | (simp [Act.eval, go_sem]; done)
  try simp only [Act.put, List.setIfInBounds_toArray, List.set_cons_zero, List.set_cons_succ]
  refine wpAnyH_ready (rs := [7]) (by kernel_rfl) (by simp) ?_
  refine AllReadyH.cons rfl (fun K hK => ?_) AllReadyH.nil
  rw [if_pos (by rfl)]
  refine wp_store_mid 89 (.tmp 2) (.tmp 9) rfl b2 0 (bv L).toArray rfl rfl ?_ ?_ (all_oneCell_toArray bv_one) ?_
  · rw [List.size_toArray]; exact Row.there (HR2.out.drew) HFT.out
  · rw [List.size_toArray]; exact HSZ.out
  rw [List.toList_toArray]
  have hr2 : Row (w.drew.setCells b2 0 (bv L)) b2 89 (bv L) := by
    have := Row.setCells (bv L) 0 (bv nought) w.drew HR2.out.drew HFT.out
    rwa [splice_all _ _ (by rw [bv_length, bv_length, hl]; rfl)] at this
  have hg3 := grown_setCells b2 (bv L) 0 w.drew
  have hg2 : w.grownBy (w.drew.setCells b2 0 (bv L)) (some b2) := ⟨hg3.os, hg3.tape, hg3.output, hg3.size, hg3.block⟩
  clear hg3
  generalize w.drew.setCells b2 0 (bv L) = w2 at hr2 hg2 ⊢
  refine hK _ _ ⟨hg2.cell h0 (by simpa using hb0), hg2.cell h1 (by simpa using hb1), hg2.cell c0 (by simpa using hg2'), fun j v hj => hg2.cell (hrg j v hj) (by simpa using hgs)⟩ (fun _ => wpAnyH_done (by kernel_rfl) ?_ _)
  go_end0
  exact ⟨rfl, hr2, hg2⟩

theorem splice_mid {α : Type} (a m b vs : List α) (o : Nat) (h : m.length = vs.length) (ho : o = a.length) : splice (a ++ (m ++ b)) o vs = a ++ (vs ++ b) := by
  subst ho
  unfold splice
  have e1 : (a ++ (m ++ b)).drop (a.length + vs.length) = b := by
    rw [List.drop_length_add_append, ← h, List.drop_left]
  rw [e1]
  simp
theorem info81 : (Try.prog.info? 121).map (fun i => (i.zero, i.size, i.bytes)) = some (some (.agg (pcs (0, nought, nought)).toArray), 129, 136) := by kernel_rfl
theorem zero81 : (Try.prog.info? 121).bind (·.zero) = some (.agg (pcs (0, nought, nought)).toArray) := by kernel_rfl
theorem built81 (i : Int) (l b : List UInt8) (hl : l.length = 64) (hb : b.length = 64) : Try.prog.built 121 [(0, .int .i64 i), (1, .agg (bv l).toArray), (2, .agg (bv b).toArray)] = some (pcs (i, l, b)).toArray := by
  have h := built_of (P := Try.prog) 121 [(0, .int .i64 i), (1, .agg (bv l).toArray), (2, .agg (bv b).toArray)] _ [(0, 1), (1, 64), (65, 64)] (pcs (0, nought, nought)) Try.underlying121 zero81 (by kernel_rfl)
  rw [h]
  have hn : (bv nought).length = 64 := by rw [bv_length]; rfl
  have hl' : (bv l).length = 64 := by rw [bv_length, hl]
  have hb' : (bv b).length = 64 := by rw [bv_length, hb]
  rw [fill_part _ _ 0 (.int .i64 i) [.int .i64 i] _ 0 rfl rfl (by simp [pcs])]
  have e1 : splice (pcs (0, nought, nought)) 0 [.int .i64 i] = [.int .i64 i] ++ (bv nought ++ bv nought) := splice_mid [] [.int .i64 0] (bv nought ++ bv nought) [.int .i64 i] 0 rfl rfl
  rw [e1, fill_part _ _ 1 (.agg (bv l).toArray) (bv l) _ 1 rfl (by rw [hl']; rfl) (by simp [hn, hl'])]
  rw [splice_mid [.int .i64 i] (bv nought) (bv nought) (bv l) 1 (by rw [hn, hl']) rfl, fill_part _ _ 2 (.agg (bv b).toArray) (bv b) _ 65 rfl (by rw [hb']; rfl) (by simp [hn, hl', hb'])]
  have e2 := splice_mid ([.int .i64 i] ++ bv l) (bv nought) [] (bv b) 65 (by rw [hn, hb']) (by simp [hl'])
  simp only [List.append_nil, List.append_assoc] at e2
  rw [e2]
  simp [Instr.fill, pcs]
theorem pcs_len (p : Int × List UInt8 × List UInt8) (h1 : p.2.1.length = 64) (h2 : p.2.2.length = 64) : (pcs p).length = 129 := by simp [pcs, bv_length, h1, h2]
theorem pcs_one (p : Int × List UInt8 × List UInt8) : ∀ v ∈ pcs p, v.oneCell' = true := by
  intro v hv
  rcases List.mem_cons.1 hv with rfl | hv
  · rfl
  · rcases List.mem_append.1 hv with hv | hv <;> exact bv_one v hv
/-- a write that is done: the sector, the pending ones -/
def DM.put (d : DM) (i : Nat) (b : List UInt8) : DM := { d with sec := d.sec.set i b, pend := d.pend ++ [((i : Int), d.sec.getD i [], b)] }
theorem Good.put {d : DM} (h : Good d) {i : Nat} {b : List UInt8} (hi : i < d.sec.length) (hb : b.length = 64) : Good (d.put i b) := by
  refine ⟨by simpa [DM.put] using h.pos, by simpa [DM.put] using h.most, fun x hx => ?_, fun p hp => ?_, h.left⟩
  · rcases List.mem_or_eq_of_mem_set hx with hx | rfl
    · exact h.sec x hx
    · exact hb
  · have e : ((d.put i b).sec.length : Int) = d.sec.length := by simp [DM.put]
    rw [e]
    rcases List.mem_append.1 hp with hp | hp
    · exact h.pend p hp
    · obtain rfl := List.mem_singleton.1 hp
      exact ⟨by simp, by simpa using hi, sec_len h hi, hb⟩

theorem Off.drew {F : Nat → Prop} {w w' : World} (h : Off F w w') : Off F w w'.drew := ⟨h.os, h.tape, h.output, h.size, h.block⟩
theorem Off.cell {F : Nat → Prop} {w w' : World} {a : Addr} {v : Value} (h : Off F w w') (hn : ¬ F a.block) (hc : w.cell? a = some v) : w'.cell? a = some v := (World.cell?_of_block (h.block a.block (World.block_lt_of_cell? w a hc) hn)).trans hc
theorem Off.range {F : Nat → Prop} {w w' : World} {b o : Nat} {cs : List Value} (h : Off F w w') (hn : ¬ F b) (hc : w.rangeAt b o cs) : w'.rangeAt b o cs := fun j v hj => h.cell hn (hc j v hj)
/-- the pending writes, one more -/
theorem pend_more {w w1 : World} {F : Nat → Prop} {g gs c gp cap : Nat} {A : Option Addr} {d : DM} {p : Int × List UInt8 × List UInt8} (h : DskAt w F g gs A c d) (hp : 0 ≤ p.1 ∧ p.1 < (d.sec.length : Int) ∧ p.2.1.length = 64 ∧ p.2.2.length = 64)
    (hgrow : (w.drew.alloc (.cells (pcs p).toArray 121)).grownBy w1 (Value.slice A d.pend.length c).ownBlock) (hown : w1.ownsRow 0 121 129 (.slice (some ⟨gp, 0, none⟩) (d.pend.length + 1) cap) (d.pend.length + 1) (d.pend.flatMap pcs ++ pcs p))
    (hat : (Value.slice A d.pend.length c).ownBlock = some gp ∨ gp = w.heap.size + 1) (hlt : gp < w1.heap.size) :
    DskAt (w1.setCell ⟨g, 1, none⟩ (.slice (some ⟨gp, 0, none⟩) (d.pend.length + 1) cap)) (fun k => F k ∨ k = gp) g gs (some ⟨gp, 0, none⟩) cap { d with pend := d.pend ++ [p] } ∧ Ext F (fun k => F k ∨ k = gp) w (w1.setCell ⟨g, 1, none⟩ (.slice (some ⟨gp, 0, none⟩) (d.pend.length + 1) cap)) ∧ Off F w (w1.setCell ⟨g, 1, none⟩ (.slice (some ⟨gp, 0, none⟩) (d.pend.length + 1) cap)) := by
  have ho1 : Off F w w1 := ((Off.refl F w).drew.alloc _).grown hgrow (fun k e => .inl (h.own k e).1)
  have hgp : gp ≠ g ∧ gp ≠ gs := by
    rcases hat with hat | hat
    · exact (h.own gp hat).2
    · have := h.row.lt
      have := h.secs.lt
      constructor <;> omega
  have hrow : Row w1 g 77 (dcs gs A c d) := ((show Row w.drew g _ _ from h.row).alloc _).grown hgrow (fun e => (h.own g e.symm).2.1 rfl)
  have hsecs : Row w1 gs 89 (bv d.sec.flatten) := ((show Row w.drew gs _ _ from h.secs).alloc _).grown hgrow (fun e => (h.own gs e.symm).2.2 rfl)
  refine ⟨⟨.inl h.fg, .inl h.fs, h.ne, ?_, ?_, hsecs.far h.ne.symm _, ?_, ⟨h.good.pos, h.good.most, h.good.sec, ?_, h.good.left⟩⟩, ?_, ho1.setCell (.inl h.fg) _⟩
  · intro k hk
    have hk' : k = gp := by simpa [Value.ownBlock] using hk.symm
    subst hk'
    exact ⟨.inr rfl, hgp⟩
  · have := hrow.store 1 (.slice (some ⟨gp, 0, none⟩) (d.pend.length + 1) cap)
    have e : (dcs gs A c d).set 1 (.slice (some ⟨gp, 0, none⟩) (d.pend.length + 1) cap) = dcs gs (some ⟨gp, 0, none⟩) cap { d with pend := d.pend ++ [p] } := by simp [dcs]
    rwa [e] at this
  · have e1 : (d.pend ++ [p]).length = d.pend.length + 1 := by simp
    have e2 : (d.pend ++ [p]).flatMap pcs = d.pend.flatMap pcs ++ pcs p := by simp
    show World.ownsRow _ _ _ _ (.slice _ (d.pend ++ [p]).length _) (d.pend ++ [p]).length ((d.pend ++ [p]).flatMap pcs)
    rw [e1, e2]
    refine World.ownsRow.kept hown ⟨rfl, rfl, rfl, by simp [World.setCell], fun k hk hne => Below.heap_setCell w1 _ _ k (fun e => hne (by rw [e]))⟩ (row := some g) (.inr ?_)
    simpa [Value.ownBlock] using hgp.1
  · intro q hq
    rcases List.mem_append.1 hq with hq | hq
    · exact h.good.pend q hq
    · obtain rfl := List.mem_singleton.1 hq
      exact hp
  · intro k hk
    rcases hk with hk | rfl
    · exact .inl hk
    · rcases hat with hat | hat
      · exact .inl (h.own _ hat).1
      · exact .inr ⟨by omega, by simpa [World.setCell] using hlt⟩
/-- a sector is set -/
theorem sec_set {w : World} {F : Nat → Prop} {g gs c i : Nat} {A : Option Addr} {d : DM} {b : List UInt8} (h : DskAt w F g gs A c d) (hi : i < d.sec.length) (hb : b.length = 64) :
    DskAt (w.drew.setCells gs (i * 64) (bv b)) F g gs A c { d with sec := d.sec.set i b } ∧ Off F w (w.drew.setCells gs (i * 64) (bv b)) := by
  have hfit : i * 64 + (bv b).length ≤ (bv d.sec.flatten).length := by
    rw [bv_length, bv_length, hb, flat_len _ h.good.sec]
    omega
  have h1 := Row.setCells (bv b) (i * 64) (bv d.sec.flatten) w.drew h.secs hfit
  rw [flat_set d.sec i b h.good.sec hb hi] at h1
  have hg := grown_setCells gs (bv b) (i * 64) w.drew
  have hl : (d.sec.set i b).length = d.sec.length := by simp
  refine ⟨⟨h.fg, h.fs, h.ne, h.own, ?_, h1, World.ownsRow.kept (w := w.drew) h.pend hg ?_, ?_⟩, (Off.refl F w).drew.grown hg (fun k e => .inl (by obtain rfl := Option.some.inj e; exact h.fs))⟩
  · have e : dcs gs A c { d with sec := d.sec.set i b } = dcs gs A c d := by simp [dcs]
    rw [e]
    exact Row.grown (w := w.drew) h.row hg (fun e => h.ne (Option.some.inj e))
  · cases hA : (Value.slice A d.pend.length c).ownBlock with
    | none => exact .inl rfl
    | some k => exact .inr (fun e => (h.own k hA).2.2 (Option.some.inj e))
  · refine ⟨by simpa using h.good.pos, by simpa using h.good.most, fun x hx => ?_, fun p hp => ?_, h.good.left⟩
    · rcases List.mem_or_eq_of_mem_set hx with hx | rfl
      · exact h.good.sec x hx
      · exact hb
    · have := h.good.pend p hp
      rw [hl]; exact this
theorem cell_past {w : World} {a : Addr} {v : Value} (o : Obj) (h : w.cell? a = some v) : (w.drew.alloc o).cell? a = some v := (World.cell?_alloc_lt w.drew o a (World.block_lt_of_cell? w a h)).trans h
set_option maxRecDepth 100000 in
set_option maxHeartbeats 4000000 in
theorem write1_any (g gs c : Nat) (A : Option Addr) (d : DM) (F : Nat → Prop) (i : Nat) (b : List UInt8) (b0 b1 b2 : Nat) (w : World) (h : DskAt w F g gs A c d) (hi : i < d.sec.length) (hb : b.length = 64) (hp : d.pend.length ≤ 1000000)
    (h0 : w.cell? ⟨b0, 0, none⟩ = some (.pointer (some ⟨g, 0, none⟩))) (h1 : w.cell? ⟨b1, 0, none⟩ = some (.int .i64 (i : Int))) (h2 : w.rangeAt b2 0 (bv b)) (hF0 : ¬ F b0) (hF1 : ¬ F b1) (hF2 : ¬ F b2) :
    Calls Try.prog 89 #[.pointer (some ⟨b0, 0, none⟩), .pointer (some ⟨b1, 0, none⟩), .pointer (some ⟨b2, 0, none⟩)] w fun e w' => e = .returned (.tuple #[]) ∧ ∃ F' A' c', DskAt w' F' g gs A' c' (d.put i b) ∧ Ext F F' w w' ∧ Off F w w' := by
  have hl := sec_len h.good hi
  have hrg := h.sec_range hi
  have c0 : w.cell? ⟨g, 0, none⟩ = some (.slice (some ⟨gs, 0, none⟩) d.sec.length d.sec.length) := h.row.cell 0
  have c1 : w.cell? ⟨g, 1, none⟩ = some (.slice A d.pend.length c) := h.row.cell 1
  have z1 := h.row.frozen 1
  obtain ⟨L, hL⟩ : ∃ L, L = d.sec.getD i [] := ⟨_, rfl⟩
  rw [← hL] at hl hrg
  have hsz : (Try.prog.info? 89).map (·.size) = some (bv L).length := by rw [bv_length, hl]; exact size39
  have hszb : (Try.prog.info? 89).map (·.size) = some (bv b).length := by rw [bv_length, hb]; exact size39
  have hbu := built81 (i : Int) L b hl hb
  obtain ⟨ie, hie, hz0, hz1, hz2⟩ := info_parts info81
  have HIE := Lib.hid hie
  have HZ0 := Lib.hid hz0
  have HZ1 := Lib.hid hz1
  have HZ2 := Lib.hid hz2
  have HBU := Lib.hid hbu
  have HL := Lib.hid hL
  have HSZ := Lib.hid hsz
  have HSB := Lib.hid hszb
  have hii : (i : Int) < (d.sec.length : Int) := by omega
  clear hsz hszb hie hz0 hz1 hz2 hbu hL
  go_enter Try.func89, Try.ntmps89
  go_wp2_with fail
  refine wp_region_held_drew (S := fun w' : World => w'.cell? ⟨b0, 0, none⟩ = some (.pointer (some ⟨g, 0, none⟩)) ∧ w'.cell? ⟨b1, 0, none⟩ = some (.int .i64 (i : Int)) ∧ w'.cell? ⟨g, 0, none⟩ = some (.slice (some ⟨gs, 0, none⟩) d.sec.length d.sec.length) ∧ w'.rangeAt gs (i * 64) (bv L) ∧ w'.rangeAt b2 0 (bv b)) (by kernel_rfl) ⟨h0, h1, c0, hrg, h2⟩ (fun hHeld => ?_)
  refine wpAnyH_take (i := 0) (oi := ⟨some 3, _, _, _, _, _⟩) (v := ?v0) rfl (by kernel_rfl) (by kernel_rfl) (by kernel_rfl) (fun _ _ _ h => h) (Or.inl ⟨by rfl, ?y0⟩) hHeld ?r0
  case y0 =>
    rintro w' ⟨q0, q1, q2, q3, q4⟩
    go_simp
    try with_reducible rfl
  try simp only [Act.put, List.setIfInBounds_toArray, List.set_cons_zero, List.set_cons_succ]
  refine wpAnyH_take (i := 1) (oi := ⟨some 4, _, _, _, _, _⟩) (v := ?v1) rfl (by kernel_rfl) (by kernel_rfl) (by kernel_rfl) (fun _ _ _ h => h) (Or.inl ⟨by rfl, ?y1⟩) hHeld ?r1
  case y1 =>
    rintro w' ⟨q0, q1, q2, q3, q4⟩
    go_simp
    try with_reducible rfl
  try simp only [Act.put, List.setIfInBounds_toArray, List.set_cons_zero, List.set_cons_succ]
  refine wpAnyH_take (i := 2) (oi := ⟨some 5, _, _, _, _, _⟩) (v := ?v2) rfl (by kernel_rfl) (by kernel_rfl) (by kernel_rfl) (fun _ _ _ h => h) (Or.inl ⟨by rfl, ?y2⟩) hHeld ?r2
  case y2 =>
    rintro w' ⟨q0, q1, q2, q3, q4⟩
    go_simp
    try with_reducible rfl
  try simp only [Act.put, List.setIfInBounds_toArray, List.set_cons_zero, List.set_cons_succ]
  refine wpAnyH_take (i := 3) (oi := ⟨some 6, _, _, _, _, _⟩) (v := ?v3) rfl (by kernel_rfl) (by kernel_rfl) (by kernel_rfl) (fun _ _ _ h => h) (Or.inl ⟨by rfl, ?y3⟩) hHeld ?r3
  case y3 =>
    rintro w' ⟨q0, q1, q2, q3, q4⟩
    go_simp
    try with_reducible rfl
  try simp only [Act.put, List.setIfInBounds_toArray, List.set_cons_zero, List.set_cons_succ]
  refine wpAnyH_take (i := 5) (oi := ⟨some 8, _, _, _, _, _⟩) (v := ?v5) rfl (by kernel_rfl) (by kernel_rfl) (by kernel_rfl) (fun _ _ _ h => h) (Or.inl ⟨by rfl, ?y5⟩) hHeld ?r5
  case y5 =>
    rintro w' ⟨q0, q1, q2, q3, q4⟩
    go_simp
    try with_reducible rfl
  try simp only [Act.put, List.setIfInBounds_toArray, List.set_cons_zero, List.set_cons_succ]
  refine wpAnyH_take (i := 6) (oi := ⟨some 9, _, _, _, _, _⟩) (v := ?v6) rfl (by kernel_rfl) (by kernel_rfl) (by kernel_rfl) (fun _ _ _ h => h) (Or.inl ⟨by rfl, ?y6⟩) hHeld ?r6
  case y6 =>
    rintro w' ⟨q0, q1, q2, q3, q4⟩
    go_simp
    try with_reducible rfl
  try simp only [Act.put, List.setIfInBounds_toArray, List.set_cons_zero, List.set_cons_succ]
  refine wpAnyH_take (i := 7) (oi := ⟨some 10, _, _, _, _, _⟩) (v := ?v7) rfl (by kernel_rfl) (by kernel_rfl) (by kernel_rfl) (fun _ _ _ h => h) (Or.inl ⟨by rfl, ?y7⟩) hHeld ?r7
  case y7 =>
    rintro w' ⟨q0, q1, q2, q3, q4⟩
    go_simp
    try with_reducible rfl
  try simp only [Act.put, List.setIfInBounds_toArray, List.set_cons_zero, List.set_cons_succ]
  refine wpAnyH_take (i := 8) (oi := ⟨some 11, _, _, _, _, _⟩) (v := ?v8) rfl (by kernel_rfl) (by kernel_rfl) (by kernel_rfl) (fun _ _ _ h => h) (Or.inl ⟨by rfl, ?y8⟩) hHeld ?r8
  case y8 =>
    rintro w' ⟨q0, q1, q2, q3, q4⟩
    go_simp
    try with_reducible rfl
  try simp only [Act.put, List.setIfInBounds_toArray, List.set_cons_zero, List.set_cons_succ]
  refine wpAnyH_take (i := 9) (oi := ⟨some 12, _, _, _, _, _⟩) (v := ?v9) rfl (by kernel_rfl) (by kernel_rfl) (by kernel_rfl) (fun _ _ _ h => h) (Or.inl ⟨by rfl, ?y9⟩) hHeld ?r9
  case y9 =>
    rintro w' ⟨q0, q1, q2, q3, q4⟩
    go_simp
    try with_reducible rfl
  try simp only [Act.put, List.setIfInBounds_toArray, List.set_cons_zero, List.set_cons_succ]
  refine wpAnyH_take (i := 10) (oi := ⟨some 13, _, _, _, _, _⟩) (v := ?v10) rfl (by kernel_rfl) (by kernel_rfl) (by kernel_rfl) (fun _ _ _ h => h) (Or.inl ⟨by rfl, ?y10⟩) hHeld ?r10
  case y10 =>
    rintro w' ⟨q0, q1, q2, q3, q4⟩
    go_simp
    try with_reducible rfl
  try simp only [Act.put, List.setIfInBounds_toArray, List.set_cons_zero, List.set_cons_succ]
  refine wpAnyH_take (i := 11) (oi := ⟨some 14, _, _, _, _, _⟩) (v := ?v11) rfl (by kernel_rfl) (by kernel_rfl) (by kernel_rfl) (fun _ _ _ h => h) (Or.inl ⟨by rfl, ?y11⟩) hHeld ?r11
  case y11 =>
    rintro w' ⟨q0, q1, q2, q3, q4⟩
    go_simp
    try with_reducible rfl
  try simp only [Act.put, List.setIfInBounds_toArray, List.set_cons_zero, List.set_cons_succ]
  refine wpAnyH_take (i := 12) (oi := ⟨some 15, _, _, _, _, _⟩) rfl (by kernel_rfl) (by kernel_rfl) (by kernel_rfl) (fun _ _ _ h => h) (yieldsIf_load_mid (by rfl) 89 (.tmp 14) rfl gs (i * 64) ?x12 (bv L) _ (fun _ hS => hS.2.2.2.1) Try.underlying89 rfl HSZ.out) hHeld ?r12
  case x12 => first | rfl | (simp [Act.eval, go_sem]; done)
  try simp only [Act.put, List.setIfInBounds_toArray, List.set_cons_zero, List.set_cons_succ]
  refine wpAnyH_take (i := 13) (oi := ⟨some 16, _, _, _, _, _⟩) rfl (by kernel_rfl) (by kernel_rfl) (by kernel_rfl) (fun _ _ _ h => h) (yieldsIf_load_mid (by rfl) 89 (.tmp 2) rfl b2 0 ?x13 (bv b) _ (fun _ hS => hS.2.2.2.2) Try.underlying89 rfl HSB.out) hHeld ?r13
  case x13 => first | rfl | (simp [Act.eval, go_sem]; done)
  try simp only [Act.put, List.setIfInBounds_toArray, List.set_cons_zero, List.set_cons_succ]
  refine wpAnyH_take (i := 14) (oi := ⟨some 17, _, _, _, _, _⟩) rfl (by kernel_rfl) (by kernel_rfl) (by kernel_rfl) (fun _ _ _ h => h) (yieldsIf_build (by rfl) 121 _ rfl (pcs (i, L, b)).toArray ?x14) hHeld ?r14
  case x14 => first | exact HBU.out | (simp only [List.map_toArray, List.map_cons, List.map_nil, List.toList_toArray]; exact HBU.out)
  try simp only [Act.put, List.setIfInBounds_toArray, List.set_cons_zero, List.set_cons_succ]
  have q0a : (w.drew.alloc (.cells (pcs (i, L, b)).toArray 121)).cell? ⟨b0, 0, none⟩ = some (.pointer (some ⟨g, 0, none⟩)) := cell_past _ h0
  have q1a : (w.drew.alloc (.cells (pcs (i, L, b)).toArray 121)).cell? ⟨b1, 0, none⟩ = some (.int .i64 (i : Int)) := cell_past _ h1
  have q2a : (w.drew.alloc (.cells (pcs (i, L, b)).toArray 121)).cell? ⟨g, 0, none⟩ = some (.slice (some ⟨gs, 0, none⟩) d.sec.length d.sec.length) := cell_past _ c0
  have c1a : (w.drew.alloc (.cells (pcs (i, L, b)).toArray 121)).cell? ⟨g, 1, none⟩ = some (.slice A d.pend.length c) := cell_past _ c1
  have c1b : (w.alloc (.cells (pcs (i, L, b)).toArray 121)).cell? ⟨g, 1, none⟩ = some (.slice A d.pend.length c) := c1a
  have c1d : w.drew.cell? ⟨g, 1, none⟩ = some (.slice A d.pend.length c) := c1
  have q3a : (w.drew.alloc (.cells (pcs (i, L, b)).toArray 121)).rangeAt gs (i * 64) (bv L) := World.rangeAt_alloc (w := w.drew) hrg _
  have q4a : (w.drew.alloc (.cells (pcs (i, L, b)).toArray 121)).rangeAt b2 0 (bv b) := World.rangeAt_alloc (w := w.drew) h2 _
  have HB2 : Hid (b2 < w.heap.size) := (show _ < _ from World.block_lt_of_cell? w ⟨b2, 0 + 0, none⟩ (h2 0 (.int .u8 ((b.getD 0 0).toNat : Int)) (by simp [bv, show 0 < b.length by omega])))
  have HPOK : Hid (0 ≤ (i : Int) ∧ (i : Int) < (d.sec.length : Int) ∧ L.length = 64 ∧ b.length = 64) := (show _ ∧ _ from ⟨by omega, by omega, hl, hb⟩)
  have HLEN : Hid ((pcs (i, L, b)).length = (pcs (0, nought, nought)).length) := (show _ = _ by rw [pcs_len _ hl hb]; rfl)
  have HLEN2 : Hid ((pcs (i, L, b)).length = 1 * 129) := (show _ = _ by rw [pcs_len _ hl hb])
  have HOWN : Hid ((w.drew.alloc (.cells (pcs (i, L, b)).toArray 121)).ownsRow 0 121 129 (.slice A d.pend.length c) d.pend.length (d.pend.flatMap pcs)) := (show World.ownsRow _ _ _ _ _ _ _ from World.ownsRow.alloc (w := w.drew) h.pend _)
  have HNEWS : Hid (∀ j u, (pcs (i, L, b))[j]? = some u → (w.drew.alloc (.cells (pcs (i, L, b)).toArray 121)).cell? ((⟨w.heap.size, 0, none⟩ : Addr).add j) = some u) := (show ∀ j u, _ → _ from World.news_of_block (heap_alloc_new w.drew _))
  have HSIZE : Hid ((w.drew.alloc (.cells (pcs (i, L, b)).toArray 121)).heap.size = w.heap.size + 1) := (show _ = _ by simp)
  refine wpAnyH_ready (rs := [4, 15]) (by kernel_rfl) (by simp) ?_
  refine AllReadyH.cons rfl (fun K hK => ?_) (AllReadyH.cons rfl (fun K hK => ?_) AllReadyH.nil)
  case refine_1 =>
    rw [if_pos (by rfl)]
    go_simp
    refine hK _ _ ⟨h0, h1, c0, hrg, h2⟩ (fun _ => ?_)
    clear hK K
    try simp only [Act.put, List.setIfInBounds_toArray, List.set_cons_zero, List.set_cons_succ]
    refine wpAnyH_ready (rs := [15]) (by kernel_rfl) (by simp) ?_
    refine AllReadyH.cons rfl (fun K hK => ?_) AllReadyH.nil
    rw [if_pos (by rfl)]
    refine wp_buildOne 73 121 (.tmp 17) rfl (pcs (i, L, b)) (pcs (0, nought, nought)) ie rfl Try.underlying73 HIE.out HZ0.out (HZ1.out.trans rfl) HLEN.out (by decide) (by decide) ?_
    refine hK _ _ ⟨q0a, q1a, q2a, q3a, q4a⟩ (fun _ => ?_)
    clear hK K
    try simp only [Act.put, List.setIfInBounds_toArray, List.set_cons_zero, List.set_cons_succ]
    refine wpAnyH_ready (rs := [16]) (by kernel_rfl) (by simp) ?_
    refine AllReadyH.cons rfl (fun K hK => ?_) AllReadyH.nil
    refine step_append_lies _ rfl _ _ 73 rfl 0 121 ie _ 129 136 Try.underlying73 HIE.out HZ0.out HZ1.out HZ2.out rfl (by decide) (.slice A d.pend.length c) d.pend.length (d.pend.flatMap pcs) rfl HOWN.out ⟨w.heap.size, 0, none⟩ 1 1 (pcs (i, L, b)) rfl HLEN2.out HNEWS.out (pcs_one _) (by omega) (by unfold maxLen; omega) (by omega) (Nat.zero_le _) (w.heap.size + 1) HSIZE.out ?_
    intro gp cap w1 hown hgrow hat hlt
    obtain ⟨hd2, hx2, ho2⟩ := pend_more (p := ((i : Int), L, b)) h HPOK.out hgrow hown hat hlt
    have r0 := (Off.refl F w).drew.alloc (.cells (pcs (i, L, b)).toArray 121) |>.grown hgrow (fun k e => .inl (h.own k e).1)
    have rg1 : w1.cell? ⟨g, 1, none⟩ = some (.slice A d.pend.length c) := hgrow.cell c1a (fun e => (h.own g e.symm).2.1 rfl)
    have rg0 : w1.cell? ⟨g, 0, none⟩ = some (.slice (some ⟨gs, 0, none⟩) d.sec.length d.sec.length) := hgrow.cell q2a (fun e => (h.own g e.symm).2.1 rfl)
    have rf1 : w1.frozen? ⟨g, 1, none⟩ = false := (Row.grown ((show Row w.drew g _ _ from h.row).alloc _) hgrow (fun e => (h.own g e.symm).2.1 rfl)).frozen 1
    have rs1 : w1.rangeAt gs (i * 64) (bv L) := fun j v hj => hgrow.cell (q3a j v hj) (fun e => (h.own gs e.symm).2.2 rfl)
    have R0 := Lib.hid (r0.cell (a := ⟨b0, 0, none⟩) hF0 h0)
    have R1 := Lib.hid (r0.cell (a := ⟨b1, 0, none⟩) hF1 h1)
    have R2 := Lib.hid (r0.range hF2 h2)
    clear hown hgrow hat hlt r0
    refine hK _ _ ⟨R0.out, R1.out, rg0, rs1, R2.out⟩ (fun _ => ?_)
    clear hK K
    try simp only [Act.put, List.setIfInBounds_toArray, List.set_cons_zero, List.set_cons_succ]
    refine wpAnyH_take (i := 17) (oi := ⟨some 20, _, _, _, _, _⟩) (v := ?v17a) rfl (by kernel_rfl) (by kernel_rfl) (by kernel_rfl) (fun _ _ _ h => h) (Or.inl ⟨by rfl, ?y17a⟩) ⟨R0.out, R1.out, rg0, rs1, R2.out⟩ ?r17a
    case y17a =>
      rintro w' ⟨q0, q1, q2, q3, q4⟩
      go_simp
      try with_reducible rfl
    try simp only [Act.put, List.setIfInBounds_toArray, List.set_cons_zero, List.set_cons_succ]
    refine wpAnyH_take (i := 18) (oi := ⟨some 21, _, _, _, _, _⟩) (v := ?v18a) rfl (by kernel_rfl) (by kernel_rfl) (by kernel_rfl) (fun _ _ _ h => h) (Or.inl ⟨by rfl, ?y18a⟩) ⟨R0.out, R1.out, rg0, rs1, R2.out⟩ ?r18a
    case y18a =>
      rintro w' ⟨q0, q1, q2, q3, q4⟩
      go_simp
      try with_reducible rfl
    try simp only [Act.put, List.setIfInBounds_toArray, List.set_cons_zero, List.set_cons_succ]
    refine wpAnyH_ready (rs := [19]) (by kernel_rfl) (by simp) ?_
    refine AllReadyH.cons rfl (fun K hK => ?_) AllReadyH.nil
    rw [if_pos (by rfl)]
    go_simp
    obtain ⟨w2, hw2⟩ : ∃ w2, w2 = w1.setCell ⟨g, 1, none⟩ (.slice (some ⟨gp, 0, none⟩) (d.pend.length + 1) cap) := ⟨_, rfl⟩
    rw [← hw2] at hd2 hx2 ho2
    have s0 := ho2.cell (a := ⟨b0, 0, none⟩) hF0 h0
    have s1 := ho2.cell (a := ⟨b1, 0, none⟩) hF1 h1
    have s2 : w2.cell? ⟨g, 0, none⟩ = some (.slice (some ⟨gs, 0, none⟩) d.sec.length d.sec.length) := hd2.row.cell 0
    have s3 : w2.rangeAt gs (i * 64) (bv L) := by
      have := hd2.sec_range (i := i) hi
      rw [HL.out]; exact this
    have s4 := ho2.range hF2 h2
    have e2 : w1.setCell ⟨g, 1, none⟩ (.slice (some ⟨gp, 0, none⟩) (d.pend.length + 1) cap) = w2 := hw2.symm
    rw [e2]
    refine hK _ w2 ⟨s0, s1, s2, s3, s4⟩ (fun _ => wpAnyH_done (by kernel_rfl) ?_ _)
    clear hK K hw2 e2 rg1 rg0 rf1 rs1 R0 R1 R2 s3
    go_wp2_with fail
    refine wp_region_held_drew (S := fun w' : World => w'.cell? ⟨b0, 0, none⟩ = some (.pointer (some ⟨g, 0, none⟩)) ∧ w'.cell? ⟨b1, 0, none⟩ = some (.int .i64 (i : Int)) ∧ w'.cell? ⟨g, 0, none⟩ = some (.slice (some ⟨gs, 0, none⟩) d.sec.length d.sec.length) ∧ w'.rangeAt b2 0 (bv b)) (by kernel_rfl) ⟨s0, s1, s2, s4⟩ (fun hHeld => ?_)
    refine wpAnyH_take (i := 0) (oi := ⟨some 22, _, _, _, _, _⟩) (v := ?v0ra) rfl (by kernel_rfl) (by kernel_rfl) (by kernel_rfl) (fun _ _ _ h => h) (Or.inl ⟨by rfl, ?y0ra⟩) hHeld ?r0ra
    case y0ra =>
      rintro w' ⟨q0, q1, q2, q3⟩
      go_simp
      try with_reducible rfl
    try simp only [Act.put, List.setIfInBounds_toArray, List.set_cons_zero, List.set_cons_succ]
    refine wpAnyH_take (i := 1) (oi := ⟨some 23, _, _, _, _, _⟩) (v := ?v1ra) rfl (by kernel_rfl) (by kernel_rfl) (by kernel_rfl) (fun _ _ _ h => h) (Or.inl ⟨by rfl, ?y1ra⟩) hHeld ?r1ra
    case y1ra =>
      rintro w' ⟨q0, q1, q2, q3⟩
      go_simp
      try with_reducible rfl
    try simp only [Act.put, List.setIfInBounds_toArray, List.set_cons_zero, List.set_cons_succ]
    refine wpAnyH_take (i := 2) (oi := ⟨some 24, _, _, _, _, _⟩) (v := ?v2ra) rfl (by kernel_rfl) (by kernel_rfl) (by kernel_rfl) (fun _ _ _ h => h) (Or.inl ⟨by rfl, ?y2ra⟩) hHeld ?r2ra
    case y2ra =>
      rintro w' ⟨q0, q1, q2, q3⟩
      go_simp
      try with_reducible rfl
    try simp only [Act.put, List.setIfInBounds_toArray, List.set_cons_zero, List.set_cons_succ]
    refine wpAnyH_take (i := 3) (oi := ⟨some 25, _, _, _, _, _⟩) (v := ?v3ra) rfl (by kernel_rfl) (by kernel_rfl) (by kernel_rfl) (fun _ _ _ h => h) (Or.inl ⟨by rfl, ?y3ra⟩) hHeld ?r3ra
    case y3ra =>
      rintro w' ⟨q0, q1, q2, q3⟩
      go_simp
      try with_reducible rfl
    try simp only [Act.put, List.setIfInBounds_toArray, List.set_cons_zero, List.set_cons_succ]
    refine wpAnyH_take (i := 4) (oi := ⟨some 26, _, _, _, _, _⟩) (v := ?v4ra) rfl (by kernel_rfl) (by kernel_rfl) (by kernel_rfl) (fun _ _ _ h => h) (Or.inl ⟨by rfl, ?y4ra⟩) hHeld ?r4ra
    case y4ra =>
      rintro w' ⟨q0, q1, q2, q3⟩
      go_simp
      try with_reducible rfl
    try simp only [Act.put, List.setIfInBounds_toArray, List.set_cons_zero, List.set_cons_succ]
    refine wpAnyH_take (i := 5) (oi := ⟨some 27, _, _, _, _, _⟩) rfl (by kernel_rfl) (by kernel_rfl) (by kernel_rfl) (fun _ _ _ h => h) (yieldsIf_load_mid (by rfl) 89 (.tmp 2) rfl b2 0 ?x5ra (bv b) _ (fun _ hS => hS.2.2.2) Try.underlying89 rfl HSB.out) hHeld ?r5ra
    case x5ra => first | rfl | (simp [Act.eval, go_sem]; done)
    try simp only [Act.put, List.setIfInBounds_toArray, List.set_cons_zero, List.set_cons_succ]
    refine wpAnyH_take (i := 6) (oi := ⟨some 28, _, _, _, _, _⟩) (v := ?v6ra) rfl (by kernel_rfl) (by kernel_rfl) (by kernel_rfl) (fun _ _ _ h => h) (Or.inl ⟨by rfl, ?y6ra⟩) hHeld ?r6ra
    case y6ra =>
      rintro w' ⟨q0, q1, q2, q3⟩
      go_simp
      try with_reducible rfl
    try simp only [Act.put, List.setIfInBounds_toArray, List.set_cons_zero, List.set_cons_succ]
    refine wpAnyH_ready (rs := [7]) (by kernel_rfl) (by simp) ?_
    refine AllReadyH.cons rfl (fun K hK => ?_) AllReadyH.nil
    rw [if_pos (by rfl)]
    refine wp_store_mid 89 (.tmp 28) (.tmp 27) rfl gs (i * 64) (bv b).toArray rfl rfl ?_ ?_ (all_oneCell_toArray bv_one) ?_
    · rw [List.size_toArray]; exact Row.there (hd2.secs.drew) (by rw [bv_length, bv_length, hb, flat_len _ hd2.good.sec]; show i * 64 + 64 ≤ d.sec.length * 64; omega)
    · rw [List.size_toArray]; exact HSB.out
    rw [List.toList_toArray]
    obtain ⟨hd3, ho3⟩ := sec_set (i := i) hd2 hi hb
    have gF : ∀ k, ¬ F k → k < w.heap.size → ¬ (F k ∨ k = gp) := fun k hk hlt hf => by
      rcases hx2 k hf with h1 | h1
      · exact hk h1
      · omega
    refine hK _ _ ⟨ho3.cell (a := ⟨b0, 0, none⟩) (gF b0 hF0 (World.block_lt_of_cell? _ _ h0)) s0, ho3.cell (a := ⟨b1, 0, none⟩) (gF b1 hF1 (World.block_lt_of_cell? _ _ h1)) s1, ?_, ho3.range (gF b2 hF2 HB2.out) s4⟩ (fun _ => wpAnyH_done (by kernel_rfl) ?_ _)
    · have := hd3.row.cell 0
      simpa [dcs] using this
    go_end0
    refine ⟨rfl, (fun k => F k ∨ k = gp), some ⟨gp, 0, none⟩, cap, ?_, hx2.trans ho2.size ho3.size (Ext.refl _ _ _), ho2.trans hx2 ho3⟩
    have e9 : DM.put d i b = { d with sec := d.sec.set i b, pend := d.pend ++ [((i : Int), L, b)] } := by rw [DM.put, HL.out]
    rw [e9]
    exact hd3
  case refine_2 =>
    rw [if_pos (by rfl)]
    refine wp_buildOne 73 121 (.tmp 17) rfl (pcs (i, L, b)) (pcs (0, nought, nought)) ie rfl Try.underlying73 HIE.out HZ0.out (HZ1.out.trans rfl) HLEN.out (by decide) (by decide) ?_
    refine hK _ _ ⟨q0a, q1a, q2a, q3a, q4a⟩ (fun _ => ?_)
    clear hK K
    try simp only [Act.put, List.setIfInBounds_toArray, List.set_cons_zero, List.set_cons_succ]
    refine wpAnyH_ready (rs := [4]) (by kernel_rfl) (by simp) ?_
    refine AllReadyH.cons rfl (fun K hK => ?_) AllReadyH.nil
    rw [if_pos (by rfl)]
    go_simp
    refine hK _ _ ⟨q0a, q1a, q2a, q3a, q4a⟩ (fun _ => ?_)
    clear hK K
    try simp only [Act.put, List.setIfInBounds_toArray, List.set_cons_zero, List.set_cons_succ]
    refine wpAnyH_ready (rs := [16]) (by kernel_rfl) (by simp) ?_
    refine AllReadyH.cons rfl (fun K hK => ?_) AllReadyH.nil
    refine step_append_lies _ rfl _ _ 73 rfl 0 121 ie _ 129 136 Try.underlying73 HIE.out HZ0.out HZ1.out HZ2.out rfl (by decide) (.slice A d.pend.length c) d.pend.length (d.pend.flatMap pcs) rfl HOWN.out ⟨w.heap.size, 0, none⟩ 1 1 (pcs (i, L, b)) rfl HLEN2.out HNEWS.out (pcs_one _) (by omega) (by unfold maxLen; omega) (by omega) (Nat.zero_le _) (w.heap.size + 1) HSIZE.out ?_
    intro gp cap w1 hown hgrow hat hlt
    obtain ⟨hd2, hx2, ho2⟩ := pend_more (p := ((i : Int), L, b)) h HPOK.out hgrow hown hat hlt
    have r0 := (Off.refl F w).drew.alloc (.cells (pcs (i, L, b)).toArray 121) |>.grown hgrow (fun k e => .inl (h.own k e).1)
    have rg1 : w1.cell? ⟨g, 1, none⟩ = some (.slice A d.pend.length c) := hgrow.cell c1a (fun e => (h.own g e.symm).2.1 rfl)
    have rg0 : w1.cell? ⟨g, 0, none⟩ = some (.slice (some ⟨gs, 0, none⟩) d.sec.length d.sec.length) := hgrow.cell q2a (fun e => (h.own g e.symm).2.1 rfl)
    have rf1 : w1.frozen? ⟨g, 1, none⟩ = false := (Row.grown ((show Row w.drew g _ _ from h.row).alloc _) hgrow (fun e => (h.own g e.symm).2.1 rfl)).frozen 1
    have rs1 : w1.rangeAt gs (i * 64) (bv L) := fun j v hj => hgrow.cell (q3a j v hj) (fun e => (h.own gs e.symm).2.2 rfl)
    have R0 := Lib.hid (r0.cell (a := ⟨b0, 0, none⟩) hF0 h0)
    have R1 := Lib.hid (r0.cell (a := ⟨b1, 0, none⟩) hF1 h1)
    have R2 := Lib.hid (r0.range hF2 h2)
    clear hown hgrow hat hlt r0
    refine hK _ _ ⟨R0.out, R1.out, rg0, rs1, R2.out⟩ (fun _ => ?_)
    clear hK K
    try simp only [Act.put, List.setIfInBounds_toArray, List.set_cons_zero, List.set_cons_succ]
    refine wpAnyH_take (i := 17) (oi := ⟨some 20, _, _, _, _, _⟩) (v := ?v17b) rfl (by kernel_rfl) (by kernel_rfl) (by kernel_rfl) (fun _ _ _ h => h) (Or.inl ⟨by rfl, ?y17b⟩) ⟨R0.out, R1.out, rg0, rs1, R2.out⟩ ?r17b
    case y17b =>
      rintro w' ⟨q0, q1, q2, q3, q4⟩
      go_simp
      try with_reducible rfl
    try simp only [Act.put, List.setIfInBounds_toArray, List.set_cons_zero, List.set_cons_succ]
    refine wpAnyH_take (i := 18) (oi := ⟨some 21, _, _, _, _, _⟩) (v := ?v18b) rfl (by kernel_rfl) (by kernel_rfl) (by kernel_rfl) (fun _ _ _ h => h) (Or.inl ⟨by rfl, ?y18b⟩) ⟨R0.out, R1.out, rg0, rs1, R2.out⟩ ?r18b
    case y18b =>
      rintro w' ⟨q0, q1, q2, q3, q4⟩
      go_simp
      try with_reducible rfl
    try simp only [Act.put, List.setIfInBounds_toArray, List.set_cons_zero, List.set_cons_succ]
    refine wpAnyH_ready (rs := [19]) (by kernel_rfl) (by simp) ?_
    refine AllReadyH.cons rfl (fun K hK => ?_) AllReadyH.nil
    rw [if_pos (by rfl)]
    go_simp
    obtain ⟨w2, hw2⟩ : ∃ w2, w2 = w1.setCell ⟨g, 1, none⟩ (.slice (some ⟨gp, 0, none⟩) (d.pend.length + 1) cap) := ⟨_, rfl⟩
    rw [← hw2] at hd2 hx2 ho2
    have s0 := ho2.cell (a := ⟨b0, 0, none⟩) hF0 h0
    have s1 := ho2.cell (a := ⟨b1, 0, none⟩) hF1 h1
    have s2 : w2.cell? ⟨g, 0, none⟩ = some (.slice (some ⟨gs, 0, none⟩) d.sec.length d.sec.length) := hd2.row.cell 0
    have s3 : w2.rangeAt gs (i * 64) (bv L) := by
      have := hd2.sec_range (i := i) hi
      rw [HL.out]; exact this
    have s4 := ho2.range hF2 h2
    have e2 : w1.setCell ⟨g, 1, none⟩ (.slice (some ⟨gp, 0, none⟩) (d.pend.length + 1) cap) = w2 := hw2.symm
    rw [e2]
    refine hK _ w2 ⟨s0, s1, s2, s3, s4⟩ (fun _ => wpAnyH_done (by kernel_rfl) ?_ _)
    clear hK K hw2 e2 rg1 rg0 rf1 rs1 R0 R1 R2 s3
    go_wp2_with fail
    refine wp_region_held_drew (S := fun w' : World => w'.cell? ⟨b0, 0, none⟩ = some (.pointer (some ⟨g, 0, none⟩)) ∧ w'.cell? ⟨b1, 0, none⟩ = some (.int .i64 (i : Int)) ∧ w'.cell? ⟨g, 0, none⟩ = some (.slice (some ⟨gs, 0, none⟩) d.sec.length d.sec.length) ∧ w'.rangeAt b2 0 (bv b)) (by kernel_rfl) ⟨s0, s1, s2, s4⟩ (fun hHeld => ?_)
    refine wpAnyH_take (i := 0) (oi := ⟨some 22, _, _, _, _, _⟩) (v := ?v0rb) rfl (by kernel_rfl) (by kernel_rfl) (by kernel_rfl) (fun _ _ _ h => h) (Or.inl ⟨by rfl, ?y0rb⟩) hHeld ?r0rb
    case y0rb =>
      rintro w' ⟨q0, q1, q2, q3⟩
      go_simp
      try with_reducible rfl
    try simp only [Act.put, List.setIfInBounds_toArray, List.set_cons_zero, List.set_cons_succ]
    refine wpAnyH_take (i := 1) (oi := ⟨some 23, _, _, _, _, _⟩) (v := ?v1rb) rfl (by kernel_rfl) (by kernel_rfl) (by kernel_rfl) (fun _ _ _ h => h) (Or.inl ⟨by rfl, ?y1rb⟩) hHeld ?r1rb
    case y1rb =>
      rintro w' ⟨q0, q1, q2, q3⟩
      go_simp
      try with_reducible rfl
    try simp only [Act.put, List.setIfInBounds_toArray, List.set_cons_zero, List.set_cons_succ]
    refine wpAnyH_take (i := 2) (oi := ⟨some 24, _, _, _, _, _⟩) (v := ?v2rb) rfl (by kernel_rfl) (by kernel_rfl) (by kernel_rfl) (fun _ _ _ h => h) (Or.inl ⟨by rfl, ?y2rb⟩) hHeld ?r2rb
    case y2rb =>
      rintro w' ⟨q0, q1, q2, q3⟩
      go_simp
      try with_reducible rfl
    try simp only [Act.put, List.setIfInBounds_toArray, List.set_cons_zero, List.set_cons_succ]
    refine wpAnyH_take (i := 3) (oi := ⟨some 25, _, _, _, _, _⟩) (v := ?v3rb) rfl (by kernel_rfl) (by kernel_rfl) (by kernel_rfl) (fun _ _ _ h => h) (Or.inl ⟨by rfl, ?y3rb⟩) hHeld ?r3rb
    case y3rb =>
      rintro w' ⟨q0, q1, q2, q3⟩
      go_simp
      try with_reducible rfl
    try simp only [Act.put, List.setIfInBounds_toArray, List.set_cons_zero, List.set_cons_succ]
    refine wpAnyH_take (i := 4) (oi := ⟨some 26, _, _, _, _, _⟩) (v := ?v4rb) rfl (by kernel_rfl) (by kernel_rfl) (by kernel_rfl) (fun _ _ _ h => h) (Or.inl ⟨by rfl, ?y4rb⟩) hHeld ?r4rb
    case y4rb =>
      rintro w' ⟨q0, q1, q2, q3⟩
      go_simp
      try with_reducible rfl
    try simp only [Act.put, List.setIfInBounds_toArray, List.set_cons_zero, List.set_cons_succ]
    refine wpAnyH_take (i := 5) (oi := ⟨some 27, _, _, _, _, _⟩) rfl (by kernel_rfl) (by kernel_rfl) (by kernel_rfl) (fun _ _ _ h => h) (yieldsIf_load_mid (by rfl) 89 (.tmp 2) rfl b2 0 ?x5rb (bv b) _ (fun _ hS => hS.2.2.2) Try.underlying89 rfl HSB.out) hHeld ?r5rb
    case x5rb => first | rfl | (simp [Act.eval, go_sem]; done)
    try simp only [Act.put, List.setIfInBounds_toArray, List.set_cons_zero, List.set_cons_succ]
    refine wpAnyH_take (i := 6) (oi := ⟨some 28, _, _, _, _, _⟩) (v := ?v6rb) rfl (by kernel_rfl) (by kernel_rfl) (by kernel_rfl) (fun _ _ _ h => h) (Or.inl ⟨by rfl, ?y6rb⟩) hHeld ?r6rb
    case y6rb =>
      rintro w' ⟨q0, q1, q2, q3⟩
      go_simp
      try with_reducible rfl
    try simp only [Act.put, List.setIfInBounds_toArray, List.set_cons_zero, List.set_cons_succ]
    refine wpAnyH_ready (rs := [7]) (by kernel_rfl) (by simp) ?_
    refine AllReadyH.cons rfl (fun K hK => ?_) AllReadyH.nil
    rw [if_pos (by rfl)]
    refine wp_store_mid 89 (.tmp 28) (.tmp 27) rfl gs (i * 64) (bv b).toArray rfl rfl ?_ ?_ (all_oneCell_toArray bv_one) ?_
    · rw [List.size_toArray]; exact Row.there (hd2.secs.drew) (by rw [bv_length, bv_length, hb, flat_len _ hd2.good.sec]; show i * 64 + 64 ≤ d.sec.length * 64; omega)
    · rw [List.size_toArray]; exact HSB.out
    rw [List.toList_toArray]
    obtain ⟨hd3, ho3⟩ := sec_set (i := i) hd2 hi hb
    have gF : ∀ k, ¬ F k → k < w.heap.size → ¬ (F k ∨ k = gp) := fun k hk hlt hf => by
      rcases hx2 k hf with h1 | h1
      · exact hk h1
      · omega
    refine hK _ _ ⟨ho3.cell (a := ⟨b0, 0, none⟩) (gF b0 hF0 (World.block_lt_of_cell? _ _ h0)) s0, ho3.cell (a := ⟨b1, 0, none⟩) (gF b1 hF1 (World.block_lt_of_cell? _ _ h1)) s1, ?_, ho3.range (gF b2 hF2 HB2.out) s4⟩ (fun _ => wpAnyH_done (by kernel_rfl) ?_ _)
    · have := hd3.row.cell 0
      simpa [dcs] using this
    go_end0
    refine ⟨rfl, (fun k => F k ∨ k = gp), some ⟨gp, 0, none⟩, cap, ?_, hx2.trans ho2.size ho3.size (Ext.refl _ _ _), ho2.trans hx2 ho3⟩
    have e9 : DM.put d i b = { d with sec := d.sec.set i b, pend := d.pend ++ [((i : Int), L, b)] } := by rw [DM.put, HL.out]
    rw [e9]
    exact hd3

/-- nothing is pending -/
theorem pend_none {w : World} {F : Nat → Prop} {g gs c : Nat} {A : Option Addr} {d : DM} (h : DskAt w F g gs A c d) : DskAt (w.setCell ⟨g, 1, none⟩ (.slice none 0 0)) F g gs none 0 { d with pend := [] } :=
  ⟨h.fg, h.fs, h.ne, (fun k hk => by cases hk), h.row.store 1 (.slice none 0 0), Row.far h.secs (p := ⟨g, 1, none⟩) h.ne.symm _, World.ownsRow_nil _ _ _ _, ⟨h.good.pos, h.good.most, h.good.sec, (fun p hp => by cases hp), h.good.left⟩⟩
theorem sync1_any (g gs c : Nat) (A : Option Addr) (d : DM) (F : Nat → Prop) (b0 : Nat) (w : World) (h : DskAt w F g gs A c d) (h0 : w.cell? ⟨b0, 0, none⟩ = some (.pointer (some ⟨g, 0, none⟩))) :
    Calls Try.prog 90 #[.pointer (some ⟨b0, 0, none⟩)] w fun e w' => e = .returned (.tuple #[]) ∧ DskAt w' F g gs none 0 { d with pend := [] } ∧ Off F w w' ∧ w'.heap.size = w.heap.size := by
  have c1 : w.cell? ⟨g, 1, none⟩ = some (.slice A d.pend.length c) := h.row.cell 1
  have z1 := h.row.frozen 1
  go_enter Try.func90, Try.ntmps90
  go_wp2
  go_end0
  exact ⟨rfl, pend_none h, (Off.refl F w).setCell (.inl h.fg) _, by simp [World.setCell]⟩
end Go.Proofs.Yteemdjamgbbjhaa.Dsk

/-
  The contracts of Read, Write, Sync.
-/
namespace Go.Proofs.Yteemdjamgbbjhaa.Dsk
set_option maxRecDepth 100000
open Go.RowKit Go.Proofs.Yteemdjamgbbjhaa.Wd

theorem pre_sec (d : DM) (i : Int) (ch : Bool) : (d.pre i ch).1.sec = d.sec := by
  unfold DM.pre
  simp only []
  split <;> (try rfl)
  split <;> (try rfl)
  split <;> (try rfl)
  split <;> (try rfl)
  split <;> rfl
theorem pre_pend (d : DM) (i : Int) (ch : Bool) : (d.pre i ch).1.pend = d.pend := by
  unfold DM.pre
  simp only []
  split <;> (try rfl)
  split <;> (try rfl)
  split <;> (try rfl)
  split <;> (try rfl)
  split <;> rfl
/-- what Read does and answers -/
def DM.readM (d : DM) (i : Int) : DM × List UInt8 × Int :=
  if (d.pre i false).2 = 0 then ((d.pre i false).1.tally, d.sec.getD i.toNat [], 0) else ((d.pre i false).1, nought, (d.pre i false).2)
/-- what Write does and answers -/
def DM.writeM (d : DM) (i : Int) (b : List UInt8) : DM × Int :=
  if (d.pre i true).2 = 0 then (((d.pre i true).1.put i.toNat b).tally, 0) else d.pre i true
/-- what Sync does and answers -/
def DM.syncM (d : DM) : DM × Int :=
  if (d.pre 0 true).2 = 0 then ({ (d.pre 0 true).1 with pend := [] }.tally, 0) else d.pre 0 true

theorem operate_read (g gs c : Nat) (A : Option Addr) (d : DM) (F : Nat → Prop) (i : Int) (b0 b1 b2 : Nat) (w : World) (h : DskAt w F g gs A c d)
    (h0 : w.cell? ⟨b0, 0, none⟩ = some (.pointer (some ⟨g, 0, none⟩))) (h1 : w.cell? ⟨b1, 0, none⟩ = some (.int .i64 i)) (h2 : Row w b2 89 (bv nought)) (hb0 : b0 ≠ b2) (hb1 : b1 ≠ b2) (hF0 : ¬ F b0) (hF1 : ¬ F b1) (hF2 : ¬ F b2) :
    Calls Try.prog 88 #[.pointer (some ⟨g, 0, none⟩), .int .i64 i, .bool false, .func (.func 92) #[] #[.pointer (some ⟨b0, 0, none⟩), .pointer (some ⟨b1, 0, none⟩), .pointer (some ⟨b2, 0, none⟩)]] w
      fun e w' => e = .returned (.int .i64 (d.readM i).2.2) ∧ DskAt w' F g gs A c (d.readM i).1 ∧ Row w' b2 89 (bv (d.readM i).2.1) ∧ Off (fun k => F k ∨ k = b2) w w' := by
  refine operate_any g gs c A d F i false _ _ w _ h (fun _ => rfl) (fun he w' h' ho _ => ?_) (fun he hi0 hi1 w1 h' ho _ => ?_)
  · have e : d.readM i = ((d.pre i false).1, nought, (d.pre i false).2) := by rw [DM.readM, if_neg he]
    rw [e]
    exact ⟨rfl, h', (ho.block b2 h2.lt hF2).trans h2, ho.os, ho.tape, ho.output, ho.size, fun k hk hn => ho.block k hk (fun hf => hn (.inl hf))⟩
  · obtain ⟨n, rfl⟩ := Int.eq_ofNat_of_zero_le hi0
    have e : d.readM (n : Int) = ((d.pre n false).1.tally, d.sec.getD n [], 0) := by rw [DM.readM, if_pos he]; rfl
    have hs := pre_sec d n false
    rw [e]
    refine (read1_any g gs c A _ F n b0 b1 b2 w1 h' (by rw [hs]; omega) (ho.cell hF0 h0) (ho.cell hF1 h1) ((ho.block b2 h2.lt hF2).trans h2) hb0 hb1 hF2).mono ?_
    rintro e w2 ⟨rfl, hr, hg⟩
    have ho2 : Off (fun k => k = b2) w1 w2 := Off.of_grown hg (fun k e => (Option.some.inj e).symm)
    have h3 := h'.off (F' := fun k => k = b2) (fun k hk e => hF2 (e ▸ hk)) ho2
    refine ⟨rfl, (d.pre n false).1.ops, h3.row.cell 7, h3.row.frozen 7, rfl, h3.tally, ?_, ?_⟩
    · rw [hs] at hr
      exact hr.far (p := ⟨g, 7, none⟩) (fun e => hF2 (e ▸ h.fg)) _
    · refine Off.setCell ?_ (.inl (.inl h.fg)) _
      exact ⟨ho2.os.trans ho.os, ho2.tape.trans ho.tape, ho2.output.trans ho.output, Nat.le_trans ho.size ho2.size, fun k hk hn => (ho2.block k (Nat.lt_of_lt_of_le hk ho.size) (fun hf => hn (.inr hf))).trans (ho.block k hk (fun hf => hn (.inl hf)))⟩

theorem operate_write (g gs c : Nat) (A : Option Addr) (d : DM) (F : Nat → Prop) (i : Int) (b : List UInt8) (b0 b1 b2 : Nat) (w : World) (h : DskAt w F g gs A c d) (hb : b.length = 64) (hp : d.pend.length ≤ 1000000)
    (h0 : w.cell? ⟨b0, 0, none⟩ = some (.pointer (some ⟨g, 0, none⟩))) (h1 : w.cell? ⟨b1, 0, none⟩ = some (.int .i64 i)) (h2 : w.rangeAt b2 0 (bv b)) (hF0 : ¬ F b0) (hF1 : ¬ F b1) (hF2 : ¬ F b2) :
    Calls Try.prog 88 #[.pointer (some ⟨g, 0, none⟩), .int .i64 i, .bool true, .func (.func 89) #[] #[.pointer (some ⟨b0, 0, none⟩), .pointer (some ⟨b1, 0, none⟩), .pointer (some ⟨b2, 0, none⟩)]] w
      fun e w' => e = .returned (.int .i64 (d.writeM i b).2) ∧ ∃ F' A' c', DskAt w' F' g gs A' c' (d.writeM i b).1 ∧ Ext F F' w w' ∧ Off F w w' := by
  refine operate_any g gs c A d F i true _ _ w _ h (fun _ => rfl) (fun he w' h' ho _ => ?_) (fun he hi0 hi1 w1 h' ho hz => ?_)
  · have e : d.writeM i b = d.pre i true := by rw [DM.writeM, if_neg he]
    rw [e]
    exact ⟨rfl, F, A, c, h', Ext.refl _ _ _, ho⟩
  · obtain ⟨n, rfl⟩ := Int.eq_ofNat_of_zero_le hi0
    have e : d.writeM (n : Int) b = (((d.pre n true).1.put n b).tally, 0) := by rw [DM.writeM, if_pos he]; rfl
    have hs := pre_sec d n true
    rw [e]
    refine (write1_any g gs c A _ F n b b0 b1 b2 w1 h' (by rw [hs]; omega) hb (by rw [pre_pend]; exact hp) (ho.cell hF0 h0) (ho.cell hF1 h1) (ho.range hF2 h2) hF0 hF1 hF2).mono ?_
    rintro e w2 ⟨rfl, F', A', c', h3, hx, ho2⟩
    have hx' : Ext F F' w w2 := (Ext.refl F w w1).trans ho.size ho2.size hx
    refine ⟨rfl, (d.pre n true).1.ops, h3.row.cell 7, h3.row.frozen 7, rfl, F', A', c', h3.tally, fun k hk => ?_, Off.setCell (ho.trans (Ext.refl _ _ _) ho2) (.inl h.fg) _⟩
    have := hx' k hk
    simpa [World.setCell] using this

theorem operate_sync (g gs c : Nat) (A : Option Addr) (d : DM) (F : Nat → Prop) (b0 : Nat) (w : World) (h : DskAt w F g gs A c d)
    (h0 : w.cell? ⟨b0, 0, none⟩ = some (.pointer (some ⟨g, 0, none⟩))) (hF0 : ¬ F b0) :
    Calls Try.prog 88 #[.pointer (some ⟨g, 0, none⟩), .int .i64 0, .bool true, .func (.func 90) #[] #[.pointer (some ⟨b0, 0, none⟩)]] w
      fun e w' => e = .returned (.int .i64 d.syncM.2) ∧ ∃ A' c', DskAt w' F g gs A' c' d.syncM.1 ∧ Off F w w' := by
  refine operate_any g gs c A d F 0 true _ _ w _ h (fun _ => rfl) (fun he w' h' ho _ => ?_) (fun he hi0 hi1 w1 h' ho hz => ?_)
  · have e : d.syncM = d.pre 0 true := by rw [DM.syncM, if_neg he]
    rw [e]
    exact ⟨rfl, A, c, h', ho⟩
  · have e : d.syncM = ({ (d.pre 0 true).1 with pend := [] }.tally, 0) := by rw [DM.syncM, if_pos he]
    rw [e]
    refine (sync1_any g gs c A _ F b0 w1 h' (ho.cell hF0 h0)).mono ?_
    rintro e w2 ⟨rfl, h3, ho2, _⟩
    exact ⟨rfl, (d.pre 0 true).1.ops, h3.row.cell 7, h3.row.frozen 7, rfl, none, 0, h3.tally, Off.setCell (ho.trans (Ext.refl _ _ _) ho2) (.inl h.fg) _⟩
end Go.Proofs.Yteemdjamgbbjhaa.Dsk

/-
  The contracts of the disk's calls, whole.
-/
namespace Go.Proofs.Yteemdjamgbbjhaa.Dsk
set_option maxRecDepth 100000
open Go.RowKit Go.Proofs.Yteemdjamgbbjhaa.Wd

/-- a disk all of whose blocks are there -/
def Disk (w : World) (F : Nat → Prop) (g : Nat) (d : DM) : Prop := Dsk w F g d ∧ ∀ k, F k → k < w.heap.size
/-- from a disk to the one behind it -/
def Goes (F : Nat → Prop) (w : World) (g : Nat) (d' : DM) (w' : World) : Prop := ∃ F', Disk w' F' g d' ∧ Ext F F' w w' ∧ Off F w w'
theorem Disk.off {w w' : World} {F F' : Nat → Prop} {g : Nat} {d : DM} (h : Disk w F g d) (hn : ∀ k, F k → ¬ F' k) (ho : Off F' w w') : Disk w' F g d := ⟨h.1.off hn ho, fun k hk => Nat.lt_of_lt_of_le (h.2 k hk) ho.size⟩
theorem Disk.below {w w' : World} {F : Nat → Prop} {g : Nat} {d : DM} (h : Disk w F g d) (hb : Below w.heap.size w w') : Disk w' F g d := ⟨h.1.below hb, fun k hk => Nat.lt_of_lt_of_le (h.2 k hk) hb.size⟩
theorem Goes.mk {w w' : World} {F F' : Nat → Prop} {g gs c : Nat} {A : Option Addr} {d d' : DM} (h : Disk w F g d) (hd : DskAt w' F' g gs A c d') (hx : Ext F F' w w') (ho : Off F w w') : Goes F w g d' w' :=
  ⟨F', ⟨⟨gs, A, c, hd⟩, fun k hk => by
    rcases hx k hk with h1 | h1
    · exact Nat.lt_of_lt_of_le (h.2 k h1) ho.size
    · exact h1.2⟩, hx, ho⟩
theorem off_mono {w w' : World} {F F' : Nat → Prop} (h : Off F w w') (hF : ∀ k, k < w.heap.size → F k → F' k) : Off F' w w' := ⟨h.os, h.tape, h.output, h.size, fun k hk hn => h.block k hk (fun hf => hn (hF k hk hf))⟩
/-- what was made ahead is new -/
theorem Off.behind {w w1 w' : World} {F F' : Nat → Prop} (hb : Below w.heap.size w w1) (h : Off F' w1 w') (hF : ∀ k, F' k → F k ∨ w.heap.size ≤ k) : Off F w w' :=
  ⟨h.os.trans hb.os, h.tape.trans hb.tape, h.output.trans hb.output, Nat.le_trans hb.size h.size, fun k hk hn => (h.block k (Nat.lt_of_lt_of_le hk hb.size) (fun hf => by
    rcases hF k hf with h1 | h1
    · exact hn h1
    · omega)).trans (hb.block k hk)⟩
theorem zeroBlk (u : World) : (zeroValue 89).run Try.prog u = .ok (.agg (bv nought).toArray) u := by kernel_rfl

theorem results_cell_tmp {P : Program} {fn : Func} {p q : Tmp} {ty : TypeId} (h : fn.results = #[.cell p ty, .tmp q]) (tmps : Array Value) (w : World) (a : Addr) (v u : Value) (hp : tmps.getD p undef = .pointer (some a)) (hl : (loadVar ty a).run P w = .ok v w) (hq : tmps.getD q undef = u) :
    (results fn tmps).run P w = .ok (.tuple #[v, u]) w := by
  simp only [results, h]
  simp only [Array.getD_eq_getD_getElem?] at *
  simp [Sem.run_bind, Result.andThen, hq]
  rw [hp, show (asAddr (.pointer (some a))).run P w = .ok a w from rfl]
  simp only []
  rw [hl]
set_option maxHeartbeats 1000000 in
theorem read_keep (g : Nat) (d : DM) (F : Nat → Prop) (i : Int) (w : World) (h : Disk w F g d) :
    Calls Try.prog 77 #[.pointer (some ⟨g, 0, none⟩), .int .i64 i] w fun e w' => e = .returned (.tuple #[blk (d.readM i).2.1, .int .i64 (d.readM i).2.2]) ∧ Disk w' F g (d.readM i).1 ∧ Off F w w' := by
  have hdisk := h
  obtain ⟨⟨gs, A, c, h⟩, hF⟩ := h
  have hF0 : ¬ F w.heap.size := fun hf => by have := hF _ hf; omega
  have hF1 : ¬ F (w.heap.size + 1) := fun hf => by have := hF _ hf; omega
  have hF2 : ¬ F (w.heap.size + 1 + 1) := fun hf => by have := hF _ hf; omega
  have hF3 : ¬ F (w.heap.size + 1 + 1 + 1) := fun hf => by have := hF _ hf; omega
  obtain ⟨w1, hw1⟩ : ∃ w1, w1 = w.alloc (.cells #[.pointer (some ⟨g, 0, none⟩)] 23) := ⟨_, rfl⟩
  obtain ⟨w2, hw2⟩ : ∃ w2, w2 = w1.alloc (.cells #[.int .i64 i] 3) := ⟨_, rfl⟩
  obtain ⟨w3, hw3⟩ : ∃ w3, w3 = w2.alloc (.cells (bv nought).toArray 89) := ⟨_, rfl⟩
  obtain ⟨w4, hw4⟩ : ∃ w4, w4 = w3.alloc (.cells (bv nought).toArray 89) := ⟨_, rfl⟩
  have s1 : w1.heap.size = w.heap.size + 1 := by rw [hw1]; simp
  have s2 : w2.heap.size = w.heap.size + 1 + 1 := by rw [hw2]; simp [s1]
  have s3 : w3.heap.size = w.heap.size + 1 + 1 + 1 := by rw [hw3]; simp [s2]
  have s4 : w4.heap.size = w.heap.size + 1 + 1 + 1 + 1 := by rw [hw4]; simp [s3]
  have r1 : Row w4 w.heap.size 23 [.pointer (some ⟨g, 0, none⟩)] := by
    rw [hw4, hw3, hw2, hw1]
    exact (((Row.new w _ [.pointer (some ⟨g, 0, none⟩)]).alloc _).alloc _).alloc _
  have r2 : Row w4 (w.heap.size + 1) 3 [.int .i64 i] := by
    have := ((Row.new w1 3 [.int .i64 i]).alloc (.cells (bv nought).toArray 89)).alloc (.cells (bv nought).toArray 89)
    rw [s1] at this
    rw [hw4, hw3, hw2]; exact this
  have r3 : Row w4 (w.heap.size + 1 + 1) 89 (bv nought) := by
    have := (Row.new w2 89 (bv nought)).alloc (.cells (bv nought).toArray 89)
    rw [s2] at this
    rw [hw4, hw3]; exact this
  have r4 : Row w4 (w.heap.size + 1 + 1 + 1) 89 (bv nought) := by
    have := Row.new w3 89 (bv nought)
    rw [s3] at this
    rw [hw4]; exact this
  have hb4 : Below w.heap.size w w4 := by
    rw [hw4, hw3, hw2, hw1]
    exact ((((Below.refl _ _).alloc (Nat.le_refl _) _).alloc (by simp) _).alloc (by simp; omega) _).alloc (by simp; omega) _
  have h4 := h.below hb4
  have c1 : w4.cell? ⟨w.heap.size, 0, none⟩ = some (.pointer (some ⟨g, 0, none⟩)) := r1.cell 0
  have c2 : w4.cell? ⟨w.heap.size + 1, 0, none⟩ = some (.int .i64 i) := r2.cell 0
  have hmf : ∀ (fn : Fn) (first cap : Array Value) (w : World), (Instr.makeFunc fn first cap).run Try.prog w = .ok (.func fn first cap) w := fun _ _ _ _ => rfl
  have hcall := operate_read g gs c A d F i w.heap.size (w.heap.size + 1) (w.heap.size + 1 + 1 + 1) w4 h4 c1 c2 r4 (by omega) (by omega) hF0 hF1 hF3
  have HC := Lib.hid hcall
  have HB4 := Lib.hid hb4
  have R3 := Lib.hid r3
  have HDK := Lib.hid hdisk
  have HW : Hid ((((w.alloc (.cells #[.pointer (some ⟨g, 0, none⟩)] 23)).alloc (.cells #[.int .i64 i] 3)).alloc (.cells (bv nought).toArray 89)).alloc (.cells (bv nought).toArray 89) = w4) := (show _ = _ by rw [hw4, hw3, hw2, hw1])
  clear hcall hb4 r1 r2 r3 r4 h4 c1 c2 hdisk h hF hF0 hF1
  clear hw4 hw3 hw2 hw1
  go_enter Try.func77, Try.ntmps77
  go_wp2_with fail
  refine Calls.mono (HW.out.symm ▸ HC.out) ?_
  rintro e w5 ⟨rfl, hd5, hr5, ho5⟩
  rw [HW.out] at ho5
  have hr3 : Row w5 (w.heap.size + 1 + 1) 89 (bv nought) := (ho5.block _ R3.out.lt (fun hf => by rcases hf with hf | hf; exact hF2 hf; omega)).trans R3.out
  obtain ⟨L, hL⟩ : ∃ L, L = (d.readM i).2.1 := ⟨_, rfl⟩
  have hlen : L.length = 64 := by
    have h64 := HDK.out
    obtain ⟨⟨_, _, _, h64⟩, _⟩ := h64
    rw [hL, DM.readM]
    split
    · rename_i hz
      refine sec_len h64.good ?_
      have : ¬ ((d.sec.length : Int) ≤ i) ∧ ¬ i < 0 := by
        constructor <;> (intro hc; revert hz; unfold DM.pre; split; simp; simp [hc])
      omega
    · rfl
  rw [← hL] at hr5
  have HL := Lib.hid hL
  have hrg : w5.rangeAt (w.heap.size + 1 + 1 + 1) 0 (bv L) := Row.range hr5 fun j v hj => by simpa using hj
  have HRG := Lib.hid hrg
  have HSZ : Hid ((Try.prog.info? 89).map (·.size) = some L.length) := (show _ = _ by rw [hlen]; exact size39)
  have HSB : Hid ((Try.prog.info? 89).map (·.size) = some (bv L).length) := (show _ = _ by rw [bv_length]; exact HSZ.out)
  have HR3 := Lib.hid hr3
  have HD5 := Lib.hid hd5
  have HO5 := Lib.hid ho5
  have HFT : Hid (0 + (bv L).length ≤ (bv nought).length) := (show _ ≤ _ by rw [bv_length, bv_length, hlen]; exact Nat.le_refl _)
  clear HW HC hL hrg hr3 hd5 ho5 R3 hr5
  go_wp2_with (first
    | (with_reducible refine wpList_load_blk (op := ⟨some 12, _, _, _, _, _⟩) ?_ 89 (.tmp 6) ?_ (w.heap.size + 1 + 1 + 1) 0 ?_ L _ HRG.out Try.underlying89 ?_ HSZ.out ?_)
    | (with_reducible refine wpList_store_in (op := ⟨none, _, _, _, _, _⟩) ?_ 89 (.tmp 4) (.tmp 12) ?_ (w.heap.size + 1 + 1) 0 (bv L) ?_ ?_ 89 (bv nought) HR3.out HFT.out bv_one HSB.out ?_))
  all_goals try rfl
  intro w6 hr6 hg6
  rw [splice_all _ _ (by rw [bv_length, bv_length, hlen]; rfl)] at hr6
  have hres := run_load_blk (P := Try.prog) w6 (w.heap.size + 1 + 1) 0 89 L _ (Row.range hr6 fun j v hj => by simpa using hj) Try.underlying89 rfl HSZ.out
  have ho6 : Off F w w6 := Off.behind HB4.out ((off_mono (F' := fun k => F k ∨ w.heap.size ≤ k) HO5.out (fun k _ hk => hk.imp id (fun e => by omega))).grown hg6 (fun k e => .inl (.inr (by have := Option.some.inj e; omega)))) (fun k hk => hk)
  have hd6 : DskAt w6 F g gs A c (d.readM i).1 := HD5.out.off (F' := fun k => k = w.heap.size + 1 + 1) (fun k hk e => hF2 (e ▸ hk)) (Off.of_grown hg6 (fun k e => (Option.some.inj e).symm))
  have hG : Disk w6 F g (d.readM i).1 ∧ Off F w w6 := ⟨⟨⟨gs, A, c, hd6⟩, fun k hk => Nat.lt_of_lt_of_le (HDK.out.2 k hk) ho6.size⟩, ho6⟩
  have HRES := Lib.hid hres
  have HG := Lib.hid hG
  clear hres ho6 hd6 hG hg6 hr6
  go_wp2
  exact bodyPost_ret (v := .tuple #[blk L, .int .i64 (d.readM i).2.2]) (results_cell_tmp (p := 4) (q := 5) (ty := 89) rfl _ _ ⟨w.heap.size + 1 + 1, 0, none⟩ _ _ rfl HRES.out rfl) rfl ⟨by rw [HL.out], HG.out⟩

theorem read_any (g : Nat) (d : DM) (F : Nat → Prop) (i : Int) (w : World) (h : Disk w F g d) :
    Calls Try.prog 77 #[.pointer (some ⟨g, 0, none⟩), .int .i64 i] w fun e w' => e = .returned (.tuple #[blk (d.readM i).2.1, .int .i64 (d.readM i).2.2]) ∧ Goes F w g (d.readM i).1 w' :=
  (read_keep g d F i w h).mono fun _ _ h2 => ⟨h2.1, F, h2.2.1, Ext.refl _ _ _, h2.2.2⟩

set_option maxHeartbeats 1000000 in
theorem write_any (g : Nat) (d : DM) (F : Nat → Prop) (i : Int) (b : List UInt8) (w : World) (h : Disk w F g d) (hb : b.length = 64) (hp : d.pend.length ≤ 1000000) :
    Calls Try.prog 69 #[.pointer (some ⟨g, 0, none⟩), .int .i64 i, blk b] w fun e w' => e = .returned (.int .i64 (d.writeM i b).2) ∧ Goes F w g (d.writeM i b).1 w' := by
  have hdisk := h
  obtain ⟨⟨gs, A, c, h⟩, hF⟩ := h
  have hF0 : ¬ F w.heap.size := fun hf => by have := hF _ hf; omega
  have hF1 : ¬ F (w.heap.size + 1) := fun hf => by have := hF _ hf; omega
  have hF2 : ¬ F (w.heap.size + 1 + 1) := fun hf => by have := hF _ hf; omega
  obtain ⟨w1, hw1⟩ : ∃ w1, w1 = w.alloc (.cells #[.pointer (some ⟨g, 0, none⟩)] 23) := ⟨_, rfl⟩
  obtain ⟨w2, hw2⟩ : ∃ w2, w2 = w1.alloc (.cells #[.int .i64 i] 3) := ⟨_, rfl⟩
  obtain ⟨w3, hw3⟩ : ∃ w3, w3 = w2.alloc (.cells (bv b).toArray 89) := ⟨_, rfl⟩
  have s1 : w1.heap.size = w.heap.size + 1 := by rw [hw1]; simp
  have s2 : w2.heap.size = w.heap.size + 1 + 1 := by rw [hw2]; simp [s1]
  have s3 : w3.heap.size = w.heap.size + 1 + 1 + 1 := by rw [hw3]; simp [s2]
  have r1 : Row w3 w.heap.size 23 [.pointer (some ⟨g, 0, none⟩)] := by
    rw [hw3, hw2, hw1]
    exact ((Row.new w _ [.pointer (some ⟨g, 0, none⟩)]).alloc _).alloc _
  have r2 : Row w3 (w.heap.size + 1) 3 [.int .i64 i] := by
    have := (Row.new w1 3 [.int .i64 i]).alloc (.cells (bv b).toArray 89)
    rw [s1] at this
    rw [hw3, hw2]; exact this
  have r3 : Row w3 (w.heap.size + 1 + 1) 89 (bv b) := by
    have := Row.new w2 89 (bv b)
    rw [s2] at this
    rw [hw3]; exact this
  have hb3 : Below w.heap.size w w3 := by
    rw [hw3, hw2, hw1]
    exact (((Below.refl _ _).alloc (Nat.le_refl _) _).alloc (by simp) _).alloc (by simp; omega) _
  have h3 := h.below hb3
  have c1 : w3.cell? ⟨w.heap.size, 0, none⟩ = some (.pointer (some ⟨g, 0, none⟩)) := r1.cell 0
  have c2 : w3.cell? ⟨w.heap.size + 1, 0, none⟩ = some (.int .i64 i) := r2.cell 0
  have hmf : ∀ (fn : Fn) (first cap : Array Value) (w : World), (Instr.makeFunc fn first cap).run Try.prog w = .ok (.func fn first cap) w := fun _ _ _ _ => rfl
  have hcall := operate_write g gs c A d F i b w.heap.size (w.heap.size + 1) (w.heap.size + 1 + 1) w3 h3 hb hp c1 c2 (Row.range r3 fun j v hj => by simpa using hj) hF0 hF1 hF2
  have HC := Lib.hid hcall
  have HB3 := Lib.hid hb3
  have HDK := Lib.hid hdisk
  have HW : Hid (((w.alloc (.cells #[.pointer (some ⟨g, 0, none⟩)] 23)).alloc (.cells #[.int .i64 i] 3)).alloc (.cells (bv b).toArray 89) = w3) := (show _ = _ by rw [hw3, hw2, hw1])
  clear hcall hb3 r1 r2 r3 h3 c1 c2 hdisk h hF hF0 hF1 hF2
  clear hw3 hw2 hw1
  unfold blk
  go_enter Try.func69, Try.ntmps69
  go_wp2_with fail
  refine Calls.mono (HW.out.symm ▸ HC.out) ?_
  rintro e w5 ⟨rfl, F', A', c', hd5, hx5, ho5⟩
  rw [HW.out] at hx5 ho5
  have hx : Ext F F' w w5 := fun k hk => by
    rcases hx5 k hk with h1 | h1
    · exact .inl h1
    · exact .inr ⟨by omega, h1.2⟩
  have hG := Goes.mk HDK.out hd5 hx (Off.behind HB3.out ho5 (fun k hk => .inl hk))
  clear hd5 ho5 hx5 hx HC HW
  go_wp2
  go_ret
  exact ⟨rfl, hG⟩
theorem sync_any (g : Nat) (d : DM) (F : Nat → Prop) (w : World) (h : Disk w F g d) :
    Calls Try.prog 70 #[.pointer (some ⟨g, 0, none⟩)] w fun e w' => e = .returned (.int .i64 d.syncM.2) ∧ Goes F w g d.syncM.1 w' := by
  have hdisk := h
  obtain ⟨⟨gs, A, c, h⟩, hF⟩ := h
  have hF0 : ¬ F w.heap.size := fun hf => by have := hF _ hf; omega
  have r1 := Row.new w 23 [.pointer (some ⟨g, 0, none⟩)]
  have hb1 : Below w.heap.size w (w.alloc (.cells #[.pointer (some ⟨g, 0, none⟩)] 23)) := (Below.refl _ _).alloc (Nat.le_refl _) _
  have c1 : (w.alloc (.cells #[.pointer (some ⟨g, 0, none⟩)] 23)).cell? ⟨w.heap.size, 0, none⟩ = some (.pointer (some ⟨g, 0, none⟩)) := r1.cell 0
  have hmf : ∀ (fn : Fn) (first cap : Array Value) (w : World), (Instr.makeFunc fn first cap).run Try.prog w = .ok (.func fn first cap) w := fun _ _ _ _ => rfl
  have hcall := operate_sync g gs c A d F w.heap.size _ (h.below hb1) c1 hF0
  have HC := Lib.hid hcall
  have HB1 := Lib.hid hb1
  have HDK := Lib.hid hdisk
  clear hcall hb1 r1 c1 hdisk h hF hF0
  go_enter Try.func70, Try.ntmps70
  go_wp2_with fail
  refine HC.out.mono ?_
  rintro e w5 ⟨rfl, A', c', hd5, ho5⟩
  have hG := Goes.mk HDK.out hd5 (Ext.refl _ _ _) (Off.behind HB1.out ho5 (fun k hk => .inl hk))
  clear hd5 ho5 HC
  go_wp2
  go_ret
  exact ⟨rfl, hG⟩

theorem read_nil (i : Int) (w : World) : Calls Try.prog 77 #[.pointer none, .int .i64 i] w fun e w' => e = .returned (.tuple #[blk nought, .int .i64 1]) ∧ Below w.heap.size w w' := by
  have hmf : ∀ (fn : Fn) (first cap : Array Value) (w : World), (Instr.makeFunc fn first cap).run Try.prog w = .ok (.func fn first cap) w := fun _ _ _ _ => rfl
  obtain ⟨w1, hw1⟩ : ∃ w1, w1 = w.alloc (.cells #[.pointer none] 23) := ⟨_, rfl⟩
  obtain ⟨w2, hw2⟩ : ∃ w2, w2 = w1.alloc (.cells #[.int .i64 i] 3) := ⟨_, rfl⟩
  obtain ⟨w3, hw3⟩ : ∃ w3, w3 = w2.alloc (.cells (bv nought).toArray 89) := ⟨_, rfl⟩
  obtain ⟨w4, hw4⟩ : ∃ w4, w4 = w3.alloc (.cells (bv nought).toArray 89) := ⟨_, rfl⟩
  have s1 : w1.heap.size = w.heap.size + 1 := by rw [hw1]; simp
  have s2 : w2.heap.size = w.heap.size + 1 + 1 := by rw [hw2]; simp [s1]
  have s3 : w3.heap.size = w.heap.size + 1 + 1 + 1 := by rw [hw3]; simp [s2]
  have r3 : Row w4 (w.heap.size + 1 + 1) 89 (bv nought) := by
    have := (Row.new w2 89 (bv nought)).alloc (.cells (bv nought).toArray 89)
    rw [s2] at this
    rw [hw4, hw3]; exact this
  have r4 : Row w4 (w.heap.size + 1 + 1 + 1) 89 (bv nought) := by
    have := Row.new w3 89 (bv nought)
    rw [s3] at this
    rw [hw4]; exact this
  have hb4 : Below w.heap.size w w4 := by
    rw [hw4, hw3, hw2, hw1]
    exact ((((Below.refl _ _).alloc (Nat.le_refl _) _).alloc (by simp) _).alloc (by simp; omega) _).alloc (by simp; omega) _
  have HW : Hid ((((w.alloc (.cells #[.pointer none] 23)).alloc (.cells #[.int .i64 i] 3)).alloc (.cells (bv nought).toArray 89)).alloc (.cells (bv nought).toArray 89) = w4) := (show _ = _ by rw [hw4, hw3, hw2, hw1])
  have HB4 := Lib.hid hb4
  have R3 := Lib.hid r3
  have HRG := Lib.hid (Row.range r4 (o := 0) (vs := bv nought) fun j v hj => by simpa using hj)
  have HSZ : Hid ((Try.prog.info? 89).map (·.size) = some nought.length) := size39
  have HSB : Hid ((Try.prog.info? 89).map (·.size) = some (bv nought).length) := (show _ = _ by rw [bv_length]; exact size39)
  have HC := Lib.hid (operate_nil i false (.func (.func 92) #[] #[.pointer (some ⟨w.heap.size, 0, none⟩), .pointer (some ⟨w.heap.size + 1, 0, none⟩), .pointer (some ⟨w.heap.size + 1 + 1 + 1, 0, none⟩)]) w4)
  clear r3 r4 hb4
  clear hw4 hw3 hw2 hw1
  go_enter Try.func77, Try.ntmps77
  go_wp2_with fail
  refine Calls.mono (HW.out.symm ▸ HC.out) ?_
  rintro e w5 ⟨rfl, rfl⟩
  rw [HW.out]
  go_wp2_with (first
    | (with_reducible refine wpList_load_blk (op := ⟨some 12, _, _, _, _, _⟩) ?_ 89 (.tmp 6) ?_ (w.heap.size + 1 + 1 + 1) 0 ?_ nought _ HRG.out Try.underlying89 ?_ HSZ.out ?_)
    | (with_reducible refine wpList_store_in (op := ⟨none, _, _, _, _, _⟩) ?_ 89 (.tmp 4) (.tmp 12) ?_ (w.heap.size + 1 + 1) 0 (bv nought) ?_ ?_ 89 (bv nought) R3.out (Nat.le_of_eq (Nat.zero_add _)) bv_one HSB.out ?_))
  all_goals try rfl
  intro w6 hr6 hg6
  rw [splice_all _ _ rfl] at hr6
  have hres := run_load_blk (P := Try.prog) w6 (w.heap.size + 1 + 1) 0 89 nought _ (Row.range hr6 fun j v hj => by simpa using hj) Try.underlying89 rfl HSZ.out
  have hB : Below w.heap.size w w6 := HB4.out.grown hg6 HB4.out.size (fun k e => by have := Option.some.inj e; omega)
  have HRES := Lib.hid hres
  clear hres hg6 hr6
  go_wp2
  exact bodyPost_ret (v := .tuple #[blk nought, .int .i64 1]) (results_cell_tmp (p := 4) (q := 5) (ty := 89) rfl _ _ ⟨w.heap.size + 1 + 1, 0, none⟩ _ _ rfl HRES.out rfl) rfl ⟨rfl, hB⟩
theorem write_nil (i : Int) (b : List UInt8) (w : World) : Calls Try.prog 69 #[.pointer none, .int .i64 i, blk b] w fun e w' => e = .returned (.int .i64 1) ∧ Below w.heap.size w w' := by
  have hmf : ∀ (fn : Fn) (first cap : Array Value) (w : World), (Instr.makeFunc fn first cap).run Try.prog w = .ok (.func fn first cap) w := fun _ _ _ _ => rfl
  unfold blk
  go_enter Try.func69, Try.ntmps69
  go_wp2_with fail
  refine (operate_nil _ _ _ _).mono ?_
  rintro e w5 ⟨rfl, rfl⟩
  go_wp2
  go_ret
  exact ⟨rfl, (((Below.refl _ _).alloc (Nat.le_refl _) _).alloc (by simp) _).alloc (by simp; omega) _⟩
theorem sync_nil (w : World) : Calls Try.prog 70 #[.pointer none] w fun e w' => e = .returned (.int .i64 1) ∧ Below w.heap.size w w' := by
  have hmf : ∀ (fn : Fn) (first cap : Array Value) (w : World), (Instr.makeFunc fn first cap).run Try.prog w = .ok (.func fn first cap) w := fun _ _ _ _ => rfl
  go_enter Try.func70, Try.ntmps70
  go_wp2_with fail
  refine (operate_nil _ _ _ _).mono ?_
  rintro e w5 ⟨rfl, rfl⟩
  go_wp2
  go_ret
  exact ⟨rfl, (Below.refl _ _).alloc (Nat.le_refl _) _⟩
end Go.Proofs.Yteemdjamgbbjhaa.Dsk

/-
  The contracts of the reference's New and of the statements' kind.
-/
namespace Go.Proofs.Yteemdjamgbbjhaa.Dsk
set_option maxRecDepth 100000
open Go.RowKit Go.Proofs.Yteemdjamgbbjhaa.Wd

/-- an op's kind -/
def kindM (x : Int) : Int := wrap64 ((IntKind.u64.wrap x).tmod 6)
theorem kindM_in (x : Int) : kindM x = 0 ∨ kindM x = 1 ∨ kindM x = 2 ∨ kindM x = 3 ∨ kindM x = 4 ∨ kindM x = 5 := by
  unfold kindM
  have h0 : 0 ≤ IntKind.u64.wrap x := by rw [IntKind.wrap_u64]; exact Int.emod_nonneg _ (by omega)
  generalize IntKind.u64.wrap x = y at h0
  rw [Int.tmod_eq_emod_of_nonneg h0]
  have h1 := Int.emod_nonneg y (show (6 : Int) ≠ 0 by omega)
  have h2 := Int.emod_lt_of_pos y (show (0 : Int) < 6 by omega)
  generalize y % 6 = z at h1 h2
  have e : wrap64 z = z := by unfold wrap64; omega
  rw [e]; omega

theorem info39 : (Try.prog.info? 89).map (fun i => (i.zero, i.size, i.bytes)) = some (some (blk nought), 64, 64) := by kernel_rfl
theorem make_blks (n : Nat) (hn : n ≤ 2048) (u : World) : (Instr.makeSlice 72 (.int .i64 (n : Int)) (.int .i64 (n : Int))).run Try.prog u =
    .ok (.slice (some ⟨u.heap.size, 0, none⟩) n n) (u.alloc (.cells (madeCells (bv nought).toArray (n * 64)) 89)) := by
  obtain ⟨i0, hi, hz0, hz1, hz2⟩ := info_parts info39
  have h := run_make (P := Try.prog) u 72 89 i0 (blk nought) Try.underlying72 hi hz0 .i64 .i64 (n : Int) (n : Int) (by omega) (Int.le_refl _) (by rw [hz2]; omega) (by omega)
  rw [hz1, Int.toNat_natCast] at h
  exact h
theorem made_rep (z : Value) (k m : Nat) (hk : 0 < k) : madeCells (List.replicate k z).toArray m = (List.replicate m z).toArray := by
  apply Array.ext
  · simp [madeCells]
  · intro i h1 h2
    have hlt : i % k < k := Nat.mod_lt _ hk
    simp [madeCells, hlt]
theorem made_blks (w : World) (n : Nat) : Blks (w.alloc (.cells (madeCells (bv nought).toArray (n * 64)) 89)) (w.heap.size + 1) (some ⟨w.heap.size, 0, none⟩) (List.replicate n nought) := fun _ => by
  refine ⟨w.heap.size, 0, rfl, by omega, fun i hi => ?_⟩
  have hi' : i < n := by simpa using hi
  have e : (List.replicate n nought).getD i [] = nought := by simp [hi']
  have e2 : bv nought = List.replicate 64 (.int .u8 0) := (bv_zero 64).symm
  rw [e, e2, made_rep _ _ _ (by omega)]
  refine ⟨rfl, Row.range (Row.new w 89 (List.replicate (n * 64) (.int .u8 0))) fun j v hj => ?_⟩
  rw [List.getElem?_replicate] at hj ⊢
  split at hj
  · rw [if_pos (by omega)]; exact hj
  · cases hj

end Go.Proofs.Yteemdjamgbbjhaa.Dsk

/-
  The contracts of New, Arm, Fail, Pending; what a nil disk answers.
-/
namespace Go.Proofs.Yteemdjamgbbjhaa.Dsk
set_option maxRecDepth 100000
open Go.RowKit Go.Proofs.Yteemdjamgbbjhaa.Wd

def DM.armM (d : DM) (n : Int) : DM × Int := if d.dead then (d, 9) else ({ d with ps := decide (0 ≤ n), pl := if n < 0 then 0 else n }, 0)
def DM.failM (d : DM) (n : Int) : DM × Int := if d.dead then (d, 9) else ({ d with fs := decide (0 ≤ n), fl := if n < 0 then 0 else n }, 0)
/-- a new disk -/
def DM.new (n : Nat) : DM := ⟨List.replicate n nought, [], false, false, 0, false, 0, 0⟩

theorem arm_nil (n : Int) (w : World) : Calls Try.prog 36 #[.pointer none, .int .i64 n] w fun e w' => e = .returned (.int .i64 1) ∧ w' = w := by
  go_enter Try.func36, Try.ntmps36
  go_wp2_with fail
  refine (off_nil _).mono ?_
  rintro e w5 ⟨rfl, rfl⟩
  go_wp2
  go_ret
  exact ⟨rfl, rfl⟩
theorem fail_nil (n : Int) (w : World) : Calls Try.prog 12 #[.pointer none, .int .i64 n] w fun e w' => e = .returned (.int .i64 1) ∧ w' = w := by
  go_enter Try.func12, Try.ntmps12
  go_wp2_with fail
  refine (off_nil _).mono ?_
  rintro e w5 ⟨rfl, rfl⟩
  go_wp2
  go_ret
  exact ⟨rfl, rfl⟩
theorem arm_any (g : Nat) (d : DM) (F : Nat → Prop) (n : Int) (w : World) (h : Disk w F g d) (hn : n < 9223372036854775808) :
    Calls Try.prog 36 #[.pointer (some ⟨g, 0, none⟩), .int .i64 n] w fun e w' => e = .returned (.int .i64 (d.armM n).2) ∧ Goes F w g (d.armM n).1 w' := by
  have hdisk := h
  obtain ⟨⟨gs, A, c, h⟩, hF⟩ := h
  have c2 : w.cell? ⟨g, 2, none⟩ = some (.bool d.dead) := h.row.cell 2
  cases hd : d.dead with
  | true =>
    have e : d.armM n = (d, 9) := by rw [DM.armM, if_pos hd]
    rw [hd] at c2
    have hG := Goes.mk hdisk h (Ext.refl _ _ _) (Off.refl _ _)
    rw [e]
    clear h hdisk
    go_enter Try.func36, Try.ntmps36
    go_wp2_with fail
    refine (off_any _ true _ c2).mono ?_
    rintro e w5 ⟨rfl, rfl⟩
    go_wp2
    go_ret
    exact ⟨rfl, hG⟩
  | false =>
    rw [hd] at c2
    have hl := h.good.left
    have e : d.armM n = ({ d with ps := decide (0 ≤ n), pl := if n < 0 then 0 else n }, 0) := by rw [DM.armM, hd]; rfl
    rw [e]
    have HD := Lib.hid h
    have HDK := Lib.hid hdisk
    clear h hdisk e
    by_cases h0 : n < 0
    · have hz : decide (0 ≤ n) = false := by simp; omega
      rw [hz, if_pos h0]
      have HF := from_any n w
      rw [if_pos h0] at HF
      have HF' := Lib.hid HF
      clear HF
      go_enter Try.func36, Try.ntmps36
      go_wp2_with fail
      refine (off_any _ false _ c2).mono ?_
      rintro e w5 ⟨rfl, rfl⟩
      go_wp2_with fail
      refine HF'.out.mono ?_
      rintro e w6 ⟨rfl, hb⟩
      have h6 := HD.out.below hb
      have c3 : w6.cell? ⟨g, 3, none⟩ = some (.bool d.ps) := h6.row.cell 3
      have c4 : w6.cell? ⟨g, 4, none⟩ = some (.int .i64 d.pl) := h6.row.cell 4
      have f3 := h6.row.frozen 3
      have f4 := h6.row.frozen 4
      have hdk := (h6.store (i := 3) (v := .bool false) (d' := { d with ps := false }) rfl rfl rfl ⟨h6.good.pos, h6.good.most, h6.good.sec, h6.good.pend, h6.good.left⟩).store (i := 4) (v := .int .i64 0) (d' := { d with ps := false, pl := 0 }) rfl rfl rfl
          ⟨h6.good.pos, h6.good.most, h6.good.sec, h6.good.pend, by simp, by simp, h6.good.left.2.2.1, h6.good.left.2.2.2⟩
      have hG := Goes.mk HDK.out hdk (Ext.refl _ _ _) (((Off.of_below hb).setCell (.inl h6.fg) _).setCell (.inl h6.fg) _)
      have HG := Lib.hid hG
      clear h6 hdk hG hb HF'
      go_wp2
      go_ret
      exact ⟨rfl, HG.out⟩
    · have hz : decide (0 ≤ n) = true := by simp; omega
      rw [hz, if_neg h0]
      have HF := from_any n w
      rw [if_neg h0] at HF
      have HF' := Lib.hid HF
      clear HF
      go_enter Try.func36, Try.ntmps36
      go_wp2_with fail
      refine (off_any _ false _ c2).mono ?_
      rintro e w5 ⟨rfl, rfl⟩
      go_wp2_with fail
      refine HF'.out.mono ?_
      rintro e w6 ⟨rfl, hb⟩
      have h6 := HD.out.below hb
      have c3 : w6.cell? ⟨g, 3, none⟩ = some (.bool d.ps) := h6.row.cell 3
      have c4 : w6.cell? ⟨g, 4, none⟩ = some (.int .i64 d.pl) := h6.row.cell 4
      have f3 := h6.row.frozen 3
      have f4 := h6.row.frozen 4
      have hdk := (h6.store (i := 3) (v := .bool true) (d' := { d with ps := true }) rfl rfl rfl ⟨h6.good.pos, h6.good.most, h6.good.sec, h6.good.pend, h6.good.left⟩).store (i := 4) (v := .int .i64 n) (d' := { d with ps := true, pl := n }) rfl rfl rfl
          ⟨h6.good.pos, h6.good.most, h6.good.sec, h6.good.pend, by show 0 ≤ n; omega, by show n < _; exact hn, h6.good.left.2.2.1, h6.good.left.2.2.2⟩
      have hG := Goes.mk HDK.out hdk (Ext.refl _ _ _) (((Off.of_below hb).setCell (.inl h6.fg) _).setCell (.inl h6.fg) _)
      have HG := Lib.hid hG
      clear h6 hdk hG hb HF'
      go_wp2
      go_ret
      exact ⟨rfl, HG.out⟩
theorem fail_any (g : Nat) (d : DM) (F : Nat → Prop) (n : Int) (w : World) (h : Disk w F g d) (hn : n < 9223372036854775808) :
    Calls Try.prog 12 #[.pointer (some ⟨g, 0, none⟩), .int .i64 n] w fun e w' => e = .returned (.int .i64 (d.failM n).2) ∧ Goes F w g (d.failM n).1 w' := by
  have hdisk := h
  obtain ⟨⟨gs, A, c, h⟩, hF⟩ := h
  have c2 : w.cell? ⟨g, 2, none⟩ = some (.bool d.dead) := h.row.cell 2
  cases hd : d.dead with
  | true =>
    have e : d.failM n = (d, 9) := by rw [DM.failM, if_pos hd]
    rw [hd] at c2
    have hG := Goes.mk hdisk h (Ext.refl _ _ _) (Off.refl _ _)
    rw [e]
    clear h hdisk
    go_enter Try.func12, Try.ntmps12
    go_wp2_with fail
    refine (off_any _ true _ c2).mono ?_
    rintro e w5 ⟨rfl, rfl⟩
    go_wp2
    go_ret
    exact ⟨rfl, hG⟩
  | false =>
    rw [hd] at c2
    have hl := h.good.left
    have e : d.failM n = ({ d with fs := decide (0 ≤ n), fl := if n < 0 then 0 else n }, 0) := by rw [DM.failM, hd]; rfl
    rw [e]
    have HD := Lib.hid h
    have HDK := Lib.hid hdisk
    clear h hdisk e
    by_cases h0 : n < 0
    · have hz : decide (0 ≤ n) = false := by simp; omega
      rw [hz, if_pos h0]
      have HF := from_any n w
      rw [if_pos h0] at HF
      have HF' := Lib.hid HF
      clear HF
      go_enter Try.func12, Try.ntmps12
      go_wp2_with fail
      refine (off_any _ false _ c2).mono ?_
      rintro e w5 ⟨rfl, rfl⟩
      go_wp2_with fail
      refine HF'.out.mono ?_
      rintro e w6 ⟨rfl, hb⟩
      have h6 := HD.out.below hb
      have c3 : w6.cell? ⟨g, 5, none⟩ = some (.bool d.fs) := h6.row.cell 5
      have c4 : w6.cell? ⟨g, 6, none⟩ = some (.int .i64 d.fl) := h6.row.cell 6
      have f3 := h6.row.frozen 5
      have f4 := h6.row.frozen 6
      have hdk := (h6.store (i := 5) (v := .bool false) (d' := { d with fs := false }) rfl rfl rfl ⟨h6.good.pos, h6.good.most, h6.good.sec, h6.good.pend, h6.good.left⟩).store (i := 6) (v := .int .i64 0) (d' := { d with fs := false, fl := 0 }) rfl rfl rfl
          ⟨h6.good.pos, h6.good.most, h6.good.sec, h6.good.pend, h6.good.left.1, h6.good.left.2.1, by simp, by simp⟩
      have hG := Goes.mk HDK.out hdk (Ext.refl _ _ _) (((Off.of_below hb).setCell (.inl h6.fg) _).setCell (.inl h6.fg) _)
      have HG := Lib.hid hG
      clear h6 hdk hG hb HF'
      go_wp2
      go_ret
      exact ⟨rfl, HG.out⟩
    · have hz : decide (0 ≤ n) = true := by simp; omega
      rw [hz, if_neg h0]
      have HF := from_any n w
      rw [if_neg h0] at HF
      have HF' := Lib.hid HF
      clear HF
      go_enter Try.func12, Try.ntmps12
      go_wp2_with fail
      refine (off_any _ false _ c2).mono ?_
      rintro e w5 ⟨rfl, rfl⟩
      go_wp2_with fail
      refine HF'.out.mono ?_
      rintro e w6 ⟨rfl, hb⟩
      have h6 := HD.out.below hb
      have c3 : w6.cell? ⟨g, 5, none⟩ = some (.bool d.fs) := h6.row.cell 5
      have c4 : w6.cell? ⟨g, 6, none⟩ = some (.int .i64 d.fl) := h6.row.cell 6
      have f3 := h6.row.frozen 5
      have f4 := h6.row.frozen 6
      have hdk := (h6.store (i := 5) (v := .bool true) (d' := { d with fs := true }) rfl rfl rfl ⟨h6.good.pos, h6.good.most, h6.good.sec, h6.good.pend, h6.good.left⟩).store (i := 6) (v := .int .i64 n) (d' := { d with fs := true, fl := n }) rfl rfl rfl
          ⟨h6.good.pos, h6.good.most, h6.good.sec, h6.good.pend, h6.good.left.1, h6.good.left.2.1, by show 0 ≤ n; omega, by show n < _; exact hn⟩
      have hG := Goes.mk HDK.out hdk (Ext.refl _ _ _) (((Off.of_below hb).setCell (.inl h6.fg) _).setCell (.inl h6.fg) _)
      have HG := Lib.hid hG
      clear h6 hdk hG hb HF'
      go_wp2
      go_ret
      exact ⟨rfl, HG.out⟩
theorem dnew_bad (n : Int) (w : World) (h : n < 1 ∨ 2048 < n) :
    Calls Try.prog 9 #[.int .i64 n] w fun e w' => e = .returned (.tuple #[.pointer none, .int .i64 2]) ∧ w' = w := by
  rcases h with h | h
  · go_enter Try.func9, Try.ntmps9
    go_wp2
    exact bodyPost_ret (v := .tuple #[.pointer none, .int .i64 2]) (by simp [results, Try.results9, go_sem]) rfl ⟨rfl, rfl⟩
  · have h1 : ¬ n < 1 := by omega
    go_enter Try.func9, Try.ntmps9
    go_wp2
    exact bodyPost_ret (v := .tuple #[.pointer none, .int .i64 2]) (by simp [results, Try.results9, go_sem]) rfl ⟨rfl, rfl⟩
theorem new_good_dm (n : Nat) (h1 : 1 ≤ n) (h2 : n ≤ 2048) : Good (DM.new n) := by
  refine ⟨by simp [DM.new]; omega, by simpa [DM.new] using h2, fun b hb => ?_, (fun p hp => by cases hp), by simp [DM.new]⟩
  have := List.eq_of_mem_replicate hb
  rw [this]; rfl
theorem dnew_good (n : Nat) (w : World) (h1 : 1 ≤ n) (h2 : n ≤ 2048) :
    Calls Try.prog 9 #[.int .i64 (n : Int)] w fun e w' => ∃ g, e = .returned (.tuple #[.pointer (some ⟨g, 0, none⟩), .int .i64 0]) ∧ ∃ F, Disk w' F g (DM.new n) ∧ (∀ k, F k → w.heap.size ≤ k) ∧ Below w.heap.size w w' := by
  have hmk := make_blks n h2
  have a1 : ¬ (n : Int) < 1 := by omega
  have a2 : ¬ (2048 : Int) < (n : Int) := by omega
  go_enter Try.func9, Try.ntmps9
  go_wp2
  refine bodyPost_ret (v := .tuple #[.pointer (some ⟨w.heap.size + 1, 0, none⟩), .int .i64 0]) (by simp [results, Try.results9, go_sem]) rfl ⟨w.heap.size + 1, rfl, fun k => w.heap.size ≤ k ∧ k < w.heap.size + 2, ⟨⟨w.heap.size, none, 0, ?_⟩, ?_⟩, ?_, ((Below.refl _ _).alloc (Nat.le_refl _) _).alloc (by simp) _⟩
  · refine ⟨⟨by omega, by omega⟩, ⟨by omega, by omega⟩, by omega, (fun k hk => by cases hk), ?_, ?_, World.ownsRow_nil _ _ _ _, new_good_dm n h1 h2⟩
    · have := Row.new (w.alloc (.cells (madeCells (bv nought).toArray (n * 64)) 89)) 77 (dcs w.heap.size none 0 (DM.new n))
      simp only [World.size_alloc] at this
      simpa [dcs, DM.new] using this
    · have e2 : bv nought = List.replicate 64 (.int .u8 0) := (bv_zero 64).symm
      have e3 : bv (DM.new n).sec.flatten = List.replicate (n * 64) (.int .u8 0) := by
        show bv (List.replicate n (List.replicate 64 0)).flatten = _
        rw [List.flatten_replicate_replicate, ← bv_zero]
      rw [e2, made_rep _ _ _ (by omega), e3]
      exact (Row.new w 89 _).alloc _
  · intro k hk
    have := hk.2
    simp; omega
  · intro k hk
    exact hk.1
end Go.Proofs.Yteemdjamgbbjhaa.Dsk
