/-
  Words of our own for byte slices and worlds; lemmas on them. Nothing here speaks of the program.
-/
import Derived.WalkKit
import Derived.Lib.Hide
import Derived.Deep.OwnRows
import Derived.Deep.Draws
import Derived.Laws.CopyOwn
namespace Go.Proofs.Ytnojkoefdigcnaa.Wd
open Go.RowKit

/-- a byte's value -/
def bv (l : List UInt8) : List Value := l.map fun b => .int .u8 (b.toNat : Int)

/-- The address A, with as many bytes as l has, reads l; it lies below block B. -/
def Bs (w : World) (B : Nat) (A : Option Addr) (l : List UInt8) : Prop :=
  0 < l.length → ∃ b o, A = some ⟨b, o, none⟩ ∧ b < B ∧ ∀ i, i < l.length → w.cell? ⟨b, o + i, none⟩ = some (.int .u8 ((l.getD i 0).toNat : Int))

section
variable {w w' : World} {B B' n : Nat} {A : Option Addr} {l : List UInt8}
theorem Bs.keep (h : Bs w B A l) (hk : ∀ b o, b < B → w'.cell? ⟨b, o, none⟩ = w.cell? ⟨b, o, none⟩) : Bs w' B A l := fun hp => by
  obtain ⟨b, o, e, hb, hc⟩ := h hp
  exact ⟨b, o, e, hb, fun i hi => (hk b _ hb).trans (hc i hi)⟩
theorem Bs.keep2 (h : Bs w B A l) (hk : ∀ b o, A = some ⟨b, o, none⟩ → b < B → w'.heap[b]? = w.heap[b]?) : Bs w' B A l := fun hp => by
  obtain ⟨b, o, e, hb, hc⟩ := h hp
  exact ⟨b, o, e, hb, fun i hi => (World.cell?_of_block (w := w) (hk b o e hb)).trans (hc i hi)⟩
theorem Bs.more (h : Bs w B A l) (hB : B ≤ B') : Bs w B' A l := fun hp => by
  obtain ⟨b, o, e, hb, hc⟩ := h hp
  exact ⟨b, o, e, by omega, hc⟩
theorem Bs.below (h : Bs w B A l) (hb : Below B w w') : Bs w' B A l := h.keep fun b o hlt => hb.cell (p := ⟨b, o, none⟩) hlt
theorem Bs.drew (h : Bs w B A l) : Bs w.drew B A l := h
theorem Bs.drewN (h : Bs w B A l) (k : Nat) : Bs (w.drewN k) B A l := h
theorem Bs.nil (w : World) (B : Nat) (A : Option Addr) : Bs w B A [] := fun h => absurd h (by simp)
theorem Bs.alloc (h : Bs w B A l) (hB : B ≤ w.heap.size) (o : Obj) : Bs (w.alloc o) B A l := h.keep fun b q hlt => World.cell?_alloc_lt w o ⟨b, q, none⟩ (by simp; omega)
end

theorem Bs.cut {w : World} {B : Nat} {A : Option Addr} {l : List UInt8} (h : Bs w B A l) (k n : Nat) (hk : k + n ≤ l.length) : Bs w B (A.map (·.add k)) ((l.drop k).take n) := fun hp => by
  simp only [List.length_take, List.length_drop] at hp
  obtain ⟨b, o, rfl, hb, hc⟩ := h (by omega)
  refine ⟨b, o + k, by simp [Addr.add_lit], hb, fun i hi => ?_⟩
  simp only [List.length_take, List.length_drop] at hi
  rw [Nat.add_assoc, hc (k + i) (by omega)]
  have e : ((l.drop k).take n).getD i 0 = l.getD (k + i) 0 := by
    simp only [List.getD_eq_getElem?_getD, List.getElem?_take, List.getElem?_drop]
    rw [if_pos (by omega)]
  rw [e]

/-- block g is a row of just these cells, none frozen -/
def Row (w : World) (g : Nat) (t : TypeId) (cs : List Value) : Prop := w.heap[g]? = some (.cells cs.toArray t (0, 0))
section
variable {w w' : World} {g : Nat} {t : TypeId} {cs : List Value}
theorem Row.lt (h : Row w g t cs) : g < w.heap.size := (Array.getElem?_eq_some_iff.1 h).1
theorem Row.cell (h : Row w g t cs) (i : Nat) : w.cell? ⟨g, i, none⟩ = cs[i]? := by
  rw [cell_of_row w g i cs.toArray t (0, 0) h]; simp
theorem Row.frozen (h : Row w g t cs) (i : Nat) : w.frozen? ⟨g, i, none⟩ = false := by
  unfold Row at h; simp [World.frozen?, h]
theorem Row.new (w : World) (t : TypeId) (cs : List Value) : Row (w.alloc (.cells cs.toArray t)) w.heap.size t cs := heap_alloc_new w _
theorem Row.made (w : World) (t : TypeId) (z : Value) (n : Nat) : Row (w.alloc (.cells (madeCells #[z] n) t)) w.heap.size t (List.replicate n z) := by
  rw [show madeCells #[z] n = (List.replicate n z).toArray from by rw [← toList_madeCells_one]]
  exact Row.new w t _
theorem Row.drew (h : Row w g t cs) : Row w.drew g t cs := h
theorem Row.drewN (h : Row w g t cs) (n : Nat) : Row (w.drewN n) g t cs := h
theorem Row.alloc (h : Row w g t cs) (o : Obj) : Row (w.alloc o) g t cs := (Below.heap_alloc w o g h.lt).trans h
theorem Row.store (h : Row w g t cs) (i : Nat) (u : Value) : Row (w.setCell ⟨g, i, none⟩ u) g t (cs.set i u) := by
  unfold Row at h ⊢
  simp [World.setCell, Array.getElem?_modify, h]
theorem Row.far (h : Row w g t cs) {p : Addr} (hp : g ≠ p.block) (u : Value) : Row (w.setCell p u) g t cs := (Below.heap_setCell w p u g hp).trans h
theorem Row.below {B : Nat} (h : Row w g t cs) (hb : Below B w w') (hg : g < B) : Row w' g t cs := (hb.block g hg).trans h
theorem Row.grown {row : Option Nat} (h : Row w g t cs) (hb : w.grownBy w' row) (hg : some g ≠ row) : Row w' g t cs := (hb.block g h.lt hg).trans h
theorem Row.bs {l : List UInt8} (h : Row w g t (bv l)) {B : Nat} (hB : g < B) : Bs w B (some ⟨g, 0, none⟩) l := fun _ =>
  ⟨g, 0, rfl, hB, fun i hi => by rw [Nat.zero_add, h.cell]; simp [bv, hi]⟩
end

theorem bv_append (a b : List UInt8) : bv (a ++ b) = bv a ++ bv b := by simp [bv]
theorem Row.of_own {w : World} {base g n : Nat} {t : TypeId} {xs : List Value} (h : w.ownsRow base t 1 (.slice (some ⟨g, 0, none⟩) n n) n xs) : Row w g t xs := by
  rcases h.2 with ⟨h', _⟩ | ⟨g', cap, cur, h', _, hg, _, _, hs, ht⟩
  · simp at h'
  · simp only [Value.slice.injEq, Option.some.injEq, Addr.mk.injEq, and_true, true_and] at h'
    obtain ⟨rfl, rfl⟩ := h'
    have e : cur.toList = xs := by
      rw [← ht, List.take_of_length_le (by rw [Array.length_toList, hs]; omega)]
    unfold Row
    rw [hg, ← e]
theorem Row.own {w : World} {base g n : Nat} {t : TypeId} {xs : List Value} (h : Row w g t xs) (hb : base ≤ g) (hn : xs.length = n) (hm : n ≤ maxLen) : w.ownsRow base t 1 (.slice (some ⟨g, 0, none⟩) n n) n xs :=
  ⟨by omega, .inr ⟨g, n, xs.toArray, rfl, hb, h, Nat.le_refl _, hm, by simp [hn], by simp [List.take_of_length_le, hn]⟩⟩
theorem bv_take (l : List UInt8) (k : Nat) (h : k < l.length) : bv (l.take k) ++ [.int .u8 ((l.getD k 0).toNat : Int)] = bv (l.take (k + 1)) := by
  rw [List.take_succ_eq_append_getElem h, bv_append]; simp [bv, h]

/-- the lowest n bytes of a number, the highest first -/
def hi : Nat → Nat → List UInt8
  | 0, _ => []
  | n + 1, x => UInt8.ofNat (x / 256 ^ n) :: hi n x
theorem hi_length (n x : Nat) : (hi n x).length = n := by induction n <;> simp [hi, *]
theorem bv_length (a : List UInt8) : (bv a).length = a.length := by simp [bv]
theorem bv_zero (n : Nat) : List.replicate n (Value.int .u8 0) = bv (List.replicate n 0) := by simp [bv]
theorem bv_one {b : List UInt8} : ∀ u ∈ bv b, u.oneCell' = true := by
  intro u hu
  obtain ⟨_, _, rfl⟩ := List.mem_map.1 hu
  rfl
def InU64 (n : Nat) : Prop := n < 18446744073709551616
theorem u64_wrap {n : Int} (h0 : 0 ≤ n) (h : n < 18446744073709551616) : IntKind.u64.wrap n = n := by
  rw [IntKind.wrap_u64]; omega
theorem bv_set (l : List UInt8) (i : Nat) (y : Nat) : (bv l).set i (.int .u8 ((y : Int) % 256)) = bv (l.set i (UInt8.ofNat y)) := by
  simp [bv, List.map_set]
theorem set_mid (l z : List UInt8) (m : Nat) (b : UInt8) : (l ++ List.replicate (m + 1) 0 ++ z).set (l.length + m) b = l ++ List.replicate m 0 ++ b :: z := by
  rw [List.append_assoc, List.set_append_right _ _ (by omega), Nat.add_sub_cancel_left, List.replicate_succ', List.append_assoc, List.set_append_right _ _ (by simp)]
  simp
theorem grown_setRow (w : World) (g : Nat) (cs : Array Value) : w.grownBy (w.setRow g cs) (some g) :=
  ⟨rfl, rfl, rfl, by simp [World.setRow], fun k _ hne => setRow_other w g k cs (fun e => hne (by rw [e]))⟩
/-- copy of bytes into a row that is known whole, all of them -/
theorem wpList_copy_bs {P : Program} {w : World} {ops : Array Oper} {rest : List Oper} {o : Oper} {a : Act} {Q : Exit → Act → World → Prop} (hgd : o.guard = none) (d s : Operand) (dT sT : TypeId)
    (ho : o.op = .call { callee := .builtin .copy, args := #[d, s], argTypes := #[dT, sT] }) (elem : TypeId) (hu : P.underlying dT = some (.slice elem)) (hsz : (P.info? elem).map (·.size) = some 1)
    (g off dLen dCap : Nat) (A : Option Addr) (l : List UInt8) (n c : Nat) (hd : a.eval d = .slice (some ⟨g, off, none⟩) dLen dCap) (hs : a.eval s = .slice A n c) (hn : l.length = n)
    (cur : List Value) (t : TypeId) (hg : Row w g t cur) (B : Nat) (hr : Bs w B A l) (hle : n ≤ dLen) (hfit : off + n ≤ cur.length)
    (h : ∀ w', Row w' g t (splice cur off (bv l)) → w.grownBy w' (some g) → wpList P ops Q rest (a.put o.dst (goInt n)) w') : wpList P ops Q (o :: rest) a w := by
  subst hn
  by_cases h0 : l.length = 0
  · obtain rfl : l = [] := List.eq_nil_of_length_eq_zero h0
    refine wpList_copy_nothing hgd d s dT sT ho elem hu hsz _ _ _ _ _ _ hd hs (by simp) (h w ?_ (World.grownBy.refl _ _))
    simpa [splice, bv] using hg
  · obtain ⟨b1, o1, rfl, hb1, hc1⟩ := hr (by omega)
    refine wpList_copy_own hgd d s dT sT ho elem hu hsz g off dLen dCap _ _ _ hd hs cur.toArray t hg (bv l) (by rw [bv_length]; exact (Nat.min_eq_left hle).symm) (fun j v hv => ?_) (by simpa [bv_length] using hfit) bv_one ?_
    · rw [Addr.add_lit]
      have hj : j < l.length := by simpa [bv_length] using (List.getElem?_eq_some_iff.1 hv).1
      rw [hc1 j hj, ← hv]
      simp [bv, hj]
    · rw [bv_length]
      refine h _ ?_ (grown_setRow _ _ _)
      show _ = _
      simpa [splice, bv_length] using setRow_heap w g _ _ t _ hg
theorem u8_or_v (a b : UInt8) : bits .or .u8 (a.toNat : Int) (b.toNat : Int) = ((a ||| b).toNat : Int) := by
  rw [u8_or_nat _ _ a.toNat_lt b.toNat_lt]; simp
theorem u8_xor_v (a b : UInt8) : bits .xor .u8 (a.toNat : Int) (b.toNat : Int) = ((a ^^^ b).toNat : Int) := by
  rw [u8_xor_nat _ _ a.toNat_lt b.toNat_lt]; simp
theorem u8_or_eq0 (a b : UInt8) : a ||| b = 0 ↔ a = 0 ∧ b = 0 := by
  simp [← UInt8.toNat_inj]
theorem u8_xor_eq0 (a b : UInt8) : a ^^^ b = 0 ↔ a = b := by
  constructor
  · intro h
    have : (a ^^^ b) ^^^ b = 0 ^^^ b := by rw [h]
    simpa [UInt8.xor_assoc] using this
  · rintro rfl; simp
theorem u8_beq0 (a : UInt8) : ((a.toNat : Int) == 0) = decide (a = 0) := by
  rw [Bool.eq_iff_iff]; simp [← UInt8.toNat_inj]
theorem take_succ_eq {l1 l2 : List UInt8} {k : Nat} (h1 : k < l1.length) (h2 : k < l2.length) : l1.take (k + 1) = l2.take (k + 1) ↔ l1.take k = l2.take k ∧ l1.getD k 0 = l2.getD k 0 := by
  rw [List.take_succ_eq_append_getElem h1, List.take_succ_eq_append_getElem h2]
  simp only [List.getD_eq_getElem?_getD, List.getElem?_eq_getElem h1, List.getElem?_eq_getElem h2, Option.getD_some]
  constructor
  · intro h
    have := List.append_inj h (by simp; omega)
    exact ⟨this.1, by simpa using this.2⟩
  · rintro ⟨a, b⟩; rw [a, b]
/-- only draws lie between the two worlds -/
def Still (w w' : World) : Prop := ∃ n, w' = w.drewN n
theorem Still.refl (w : World) : Still w w := ⟨0, rfl⟩
theorem Still.drewN {a w : World} (h : Still a w) (k : Nat) : Still a (w.drewN k) := by
  obtain ⟨n, rfl⟩ := h
  exact ⟨n + k, by rw [World.drewN_drewN]⟩
theorem Still.drew {a w : World} (h : Still a w) : Still a w.drew := h.drewN 1
theorem ret_bool {a b : Bool} (h : a = b) : Ending.returned (.bool a) = .returned (.bool b) := by rw [h]
theorem ret_int {k : IntKind} {a b : Int} (h : a = b) : Ending.returned (.int k a) = .returned (.int k b) := by rw [h]
theorem cells_one (w : World) (t : TypeId) (v : Value) : ∀ j u, [v][j]? = some u → (w.alloc (.cells #[v] t)).cell? ((⟨w.heap.size, 0, none⟩ : Addr).add j) = some u := by
  intro j u hu
  cases j with
  | zero => rw [Addr.add_lit, World.cell?_alloc_at _ _ _ _ rfl]; simpa using hu
  | succ j => simp at hu
theorem one_cell {k : IntKind} (x : Int) : ∀ u ∈ [Value.int k x], u.oneCell' = true := by
  intro u hu
  obtain rfl := List.mem_singleton.1 hu
  rfl
theorem wpList_wanted {P : Program} {w : World} {ops : Array Oper} {rest : List Oper} {o : Oper} {a : Act} {Q : Exit → Act → World → Prop} (hw : Region.wanted o (yielded ops a.tmps) = true)
    (h : ∀ K : Act → World → Prop, (∀ a w, wpList P ops Q rest a w → K a w) → o.wp P a w K Q) : wpList P ops Q (o :: rest) a w :=
  wpList_step fun K hK => by rw [if_pos hw]; exact h K hK
/-- append of bytes, nil or not, to a row of the call's own (nil too) -/
theorem wpList_append_bs {P : Program} {w : World} {ops : Array Oper} {rest : List Oper} {o : Oper} {a : Act} {Q : Exit → Act → World → Prop} (hgd : Region.wanted o (yielded ops a.tmps) = true) (s x : Operand) (t : TypeId)
    (ho : o.op = .call { callee := .builtin .append, args := #[s, x], argTypes := #[t, t] })
    (base : Nat) (e : TypeId) (i : TypeInfo) (z : Value) (ht : P.underlying t = some (.slice e)) (hi : P.info? e = some i) (hz : i.zero = some z) (hsize : i.size = 1) (hby : i.bytes = 1) (hzs : z.cells.size = 1)
    (v : Value) (n : Nat) (xs : List Value) (hs : a.eval s = v) (hown : w.ownsRow base e 1 v n xs)
    (A : Option Addr) (m c : Nat) (l : List UInt8) (hx : a.eval x = .slice A m c) (hl : l.length = m) (B : Nat) (hr : Bs w B A l) (hA : A = none → c = 0)
    (h63 : n + m ≤ 140737488355328) (hbase : base ≤ w.heap.size)
    (h : ∀ v' w', w'.ownsRow base e 1 v' (n + m) (xs ++ bv l) → w.grownBy w' v.ownBlock → wpList P ops Q rest (a.put o.dst v') w') : wpList P ops Q (o :: rest) a w := by
  cases A with
  | none =>
    have h0 : m = 0 := by
      rcases Nat.eq_zero_or_pos m with h0 | h0
      · exact h0
      · obtain ⟨b, o, e, _⟩ := hr (by omega)
        cases e
    subst h0
    obtain rfl := hA rfl
    obtain rfl : l = [] := List.eq_nil_of_length_eq_zero hl
    refine wpList_wanted hgd fun K hK' => ?_
    have hrun := run_append_owned_none (P := P) w base t o.type e i 1 ht hi v n xs hown
    unfold Oper.wp
    simp [execOp, ho, resolve, invoke, builtin, hs, hx, hrun, Result.andThen]
    exact hK' _ _ (h v w (by simpa [bv] using hown) (World.grownBy.refl _ _))
  | some ad =>
    refine wpList_wanted hgd fun K hK' => wp_append_own w s x t ho base e i z 1 1 ht hi hz hsize hby hzs (by omega) v n xs hs hown ad m c (bv l) hx (by rw [bv_length]; omega) (fun j u hu => ?_) bv_one (by unfold maxLen; omega) (by omega) hbase fun v' w' h2 h3 _ => hK' _ _ (h v' w' h2 h3)
    have hj : j < l.length := by simpa [bv_length] using (List.getElem?_eq_some_iff.1 hu).1
    obtain ⟨b, o, e, _, hc⟩ := hr (by omega)
    obtain rfl := Option.some.inj e
    rw [Addr.add_lit, hc j hj, ← hu]
    simp [bv, hj]
/-- what a row of the call's own reads -/
theorem own_bs {w : World} {base n : Nat} {t : TypeId} {v : Value} {l : List UInt8} (h : w.ownsRow base t 1 v n (bv l)) : ∃ A c, v = .slice A n c ∧ l.length = n ∧ n ≤ c ∧ c ≤ maxLen ∧ (A = none → c = 0) ∧ Bs w w.heap.size A l ∧ (∀ k, v.ownBlock = some k → base ≤ k) := by
  have hn : l.length = n := by have := h.1; rw [bv_length] at this; omega
  rcases h.2 with ⟨rfl, rfl⟩ | ⟨g, cap, cur, rfl, hb, hg, hnc, hcm, hs, ht⟩
  · obtain rfl : l = [] := List.eq_nil_of_length_eq_zero hn
    exact ⟨none, 0, rfl, rfl, Nat.le_refl _, Nat.zero_le _, fun _ => rfl, Bs.nil _ _ _, fun k hk => by cases hk⟩
  · refine ⟨_, cap, rfl, hn, hnc, hcm, (fun hh => by cases hh), (fun hp => ⟨g, 0, rfl, (Array.getElem?_eq_some_iff.1 hg).1, fun i hi => ?_⟩), fun k hk => by simp [Value.ownBlock] at hk; omega⟩
    rw [Nat.zero_add, cell_of_row w g i cur t (0, 0) hg]
    have h1 : (bv l)[i]? = some (.int .u8 ((l.getD i 0).toNat : Int)) := by simp [bv, hi]
    rw [← ht, List.getElem?_take] at h1
    split at h1
    · simpa using h1
    · cases h1
/-- the number of bytes, the highest first -/
def num (l : List UInt8) : Nat := l.foldl (fun x b => x * 256 + b.toNat) 0
theorem num_snoc (l : List UInt8) (b : UInt8) : num (l ++ [b]) = num l * 256 + b.toNat := by simp [num]
theorem num_from (l : List UInt8) : ∀ a : Nat, l.foldl (fun x b => x * 256 + b.toNat) a = a * 256 ^ l.length + num l := by
  induction l with
  | nil => intro a; simp [num]
  | cons b l ih =>
    intro a
    have h0 := ih b.toNat
    have h1 := ih (a * 256 + b.toNat)
    simp only [List.foldl_cons, num, List.length_cons, Nat.zero_mul, Nat.zero_add] at *
    rw [h1, h0, Nat.pow_succ, Nat.add_mul, Nat.mul_assoc, Nat.mul_comm 256, Nat.add_assoc]
theorem num_cons (b : UInt8) (l : List UInt8) : num (b :: l) = b.toNat * 256 ^ l.length + num l := by
  have := num_from l b.toNat
  simpa [num] using this
theorem num_lt (l : List UInt8) : num l < 256 ^ l.length := by
  induction l with
  | nil => simp [num]
  | cons b l ih =>
    rw [num_cons, List.length_cons, Nat.pow_succ]
    have hb := b.toNat_lt
    have : (b.toNat + 1) * 256 ^ l.length ≤ 256 * 256 ^ l.length := Nat.mul_le_mul_right _ (by omega)
    rw [Nat.add_mul] at this
    omega
theorem num_hi (n x : Nat) : num (hi n x) = x % 256 ^ n := by
  induction n with
  | zero => simp [hi, num, Nat.mod_one]
  | succ n ih =>
    rw [hi, num_cons, hi_length, ih, Nat.pow_succ, Nat.mod_mul]
    simp
    rw [Nat.mul_comm, Nat.add_comm]
theorem or_low (x b : Nat) (hb : b < 256) : (x * 256) ||| b = x * 256 + b := by
  have := Nat.two_pow_add_eq_or_of_lt (i := 8) (b := b) (by simpa using hb) x
  rw [Nat.mul_comm]
  simpa using this.symm
theorem u64_or_low (x : Nat) (b : UInt8) (hx : x * 256 + b.toNat < 18446744073709551616) : bits .or .u64 ((x : Int) * 256) (b.toNat : Int) = ((x * 256 + b.toNat : Nat) : Int) := by
  have hb : b.toNat < 256 := b.toNat_lt
  have h1 : x * 256 < 18446744073709551616 := Nat.lt_of_le_of_lt (Nat.le_add_right _ _) hx
  have h2 : b.toNat < 18446744073709551616 := Nat.lt_of_lt_of_le hb (by decide)
  have h3 := u64_or_nat (x * 256) b.toNat h1 h2
  rw [or_low _ _ hb] at h3
  rw [← h3]
  congr 1
theorem u64_shl_or (y : Nat) (b : UInt8) (k : Nat) (hy : y < 256 ^ k) (hk : k ≤ 7) : bits .or .u64 (IntKind.u64.wrap ((y : Int) * 256)) (IntKind.u64.wrap (b.toNat : Int)) = ((y * 256 + b.toNat : Nat) : Int) := by
  have hb : b.toNat < 256 := b.toNat_lt
  have h7 : y < 256 ^ 7 := Nat.lt_of_lt_of_le hy (Nat.pow_le_pow_right (by omega) hk)
  have h7' : y < 72057594037927936 := h7
  have h8 : y * 256 + b.toNat < 18446744073709551616 := by
    have h9 : (y + 1) * 256 ≤ 72057594037927936 * 256 := Nat.mul_le_mul_right _ h7'
    have h10 : (72057594037927936 * 256 : Nat) = 18446744073709551616 := by decide
    rw [h10, Nat.add_mul] at h9
    exact Nat.lt_of_lt_of_le (Nat.add_lt_add_left hb _) h9
  have h11 : y * 256 < 18446744073709551616 := Nat.lt_of_le_of_lt (Nat.le_add_right _ _) h8
  have h12 : b.toNat < 18446744073709551616 := Nat.lt_of_le_of_lt (Nat.le_add_left _ _) h8
  have e1 : IntKind.u64.wrap ((y : Int) * 256) = (y : Int) * 256 := by
    have := u64_wrap (n := ((y * 256 : Nat) : Int)) (Int.natCast_nonneg _) (Int.ofNat_lt.2 h11)
    simpa using this
  rw [e1, u64_wrap (Int.natCast_nonneg _) (Int.ofNat_lt.2 h12), u64_or_low _ _ h8]
theorem hi_mod (n : Nat) : ∀ (m x : Nat), n ≤ m → hi n (x % 256 ^ m) = hi n x := by
  induction n with
  | zero => intros; rfl
  | succ n ih =>
    intro m x h
    rw [hi, hi, ih m x (by omega)]
    congr 1
    apply UInt8.toNat_inj.1
    simp only [UInt8.toNat_ofNat']
    obtain ⟨k, rfl⟩ : ∃ k, m = n + (k + 1) := ⟨m - n - 1, by omega⟩
    rw [Nat.pow_add, Nat.mod_mul_right_div_self, Nat.pow_succ, Nat.mul_comm (256 ^ k)]
    exact Nat.mod_mul_right_mod _ _ _
theorem u64_mul_add (y : Nat) (b : UInt8) (k : Nat) (hy : y < 256 ^ k) (hk : k ≤ 7) : IntKind.u64.wrap (IntKind.u64.wrap ((y : Int) * 256) + IntKind.u64.wrap (b.toNat : Int)) = ((y * 256 + b.toNat : Nat) : Int) := by
  have hb : b.toNat < 256 := b.toNat_lt
  have h7 : y < 256 ^ 7 := Nat.lt_of_lt_of_le hy (Nat.pow_le_pow_right (by omega) hk)
  have h7' : y < 72057594037927936 := h7
  have h8 : y * 256 + b.toNat < 18446744073709551616 := by
    have h9 : (y + 1) * 256 ≤ 72057594037927936 * 256 := Nat.mul_le_mul_right _ h7'
    have h10 : (72057594037927936 * 256 : Nat) = 18446744073709551616 := by decide
    rw [h10, Nat.add_mul] at h9
    exact Nat.lt_of_lt_of_le (Nat.add_lt_add_left hb _) h9
  have h11 : y * 256 < 18446744073709551616 := Nat.lt_of_le_of_lt (Nat.le_add_right _ _) h8
  have h12 : b.toNat < 18446744073709551616 := Nat.lt_of_le_of_lt (Nat.le_add_left _ _) h8
  have e1 : IntKind.u64.wrap ((y : Int) * 256) = (y : Int) * 256 := by
    have := u64_wrap (n := ((y * 256 : Nat) : Int)) (Int.natCast_nonneg _) (Int.ofNat_lt.2 h11)
    simpa using this
  have e3 := u64_wrap (n := ((y * 256 + b.toNat : Nat) : Int)) (Int.natCast_nonneg _) (Int.ofNat_lt.2 h8)
  rw [e1, u64_wrap (Int.natCast_nonneg _) (Int.ofNat_lt.2 h12)]
  simpa using e3
/-- The address A, with as many numbers of 64 bits as xs has, reads xs; it lies below block B. -/
def Us (w : World) (B : Nat) (A : Option Addr) (xs : List Nat) : Prop :=
  0 < xs.length → ∃ b o, A = some ⟨b, o, none⟩ ∧ b < B ∧ ∀ i, i < xs.length → w.cell? ⟨b, o + i, none⟩ = some (.int .u64 (((xs.getD i 0 : Nat)) : Int))
theorem Us.keep {w w' : World} {B : Nat} {A : Option Addr} {xs : List Nat} (h : Us w B A xs) (hk : ∀ b o, b < B → w'.cell? ⟨b, o, none⟩ = w.cell? ⟨b, o, none⟩) : Us w' B A xs := fun hp => by
  obtain ⟨b, o, e, hb, hc⟩ := h hp
  exact ⟨b, o, e, hb, fun i hi => (hk b _ hb).trans (hc i hi)⟩
theorem Us.below {w w' : World} {B : Nat} {A : Option Addr} {xs : List Nat} (h : Us w B A xs) (hb : Below B w w') : Us w' B A xs := h.keep fun b o hlt => hb.cell (p := ⟨b, o, none⟩) hlt
end Go.Proofs.Ytnojkoefdigcnaa.Wd
