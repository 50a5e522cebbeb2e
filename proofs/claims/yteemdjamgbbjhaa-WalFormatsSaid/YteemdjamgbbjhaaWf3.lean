/-
  Part 3 of the contracts that the law rests on.
-/
import Derived.RangeFuncNested
import Derived.RangeFuncBound
import Derived.RangeFuncCalls
import Derived.RangeFuncLeaves
import Derived.Shelf.Abstract
import Derived.OwnWalkIn
import Derived.TacticsInMore
import Derived.LoopNIn
import Derived.LoopIn
import Derived.ChangeKeysEq
import Derived.Test.YteemdjamgbbjhaaWf1
import Derived.Test.YteemdjamgbbjhaaWf2
/-
  What iterators tell: parts, blocks, noughts.
-/
namespace Go.Proofs.Yteemdjamgbbjhaa.Wl
set_option maxRecDepth 100000
open Go.RowKit Go.Proofs.Yteemdjamgbbjhaa.Wd Go.Proofs.Yteemdjamgbbjhaa.Dsk Go.Proofs.Yteemdjamgbbjhaa.Oct Go.Proofs.Yteemdjamgbbjhaa.Sum

attribute [local go_sem] Oper.semAt_some

/-- an index and a block -/
abbrev IB := { q : Int × List UInt8 // 0 ≤ q.1 ∧ q.1 ≤ 100000 ∧ q.2.length = 64 }
def encI (x : IB) : Array Value := #[.int .i64 x.1.1, blk x.1.2]
def upto {α : Type} (g : Nat → α) (k : Nat) : List α := (List.range k).map g
theorem upto_succ {α : Type} (g : Nat → α) (k : Nat) : upto g (k + 1) = upto g k ++ [g k] := by simp [upto, List.range_succ]
theorem upto_len {α : Type} (g : Nat → α) (k : Nat) : (upto g k).length = k := by simp [upto]
/-- what a round keeps: blocks of K, rows of bytes, frames -/
def KT (K : Nat → Prop) (W W' : World) : Prop := (∀ k, K k → W'.heap[k]? = W.heap[k]?) ∧ ∀ k cs t, t = 5 ∨ t = 101 → Row W k t cs → Row W' k t cs
theorem KT.refl (K : Nat → Prop) (W : World) : KT K W W := ⟨fun _ _ => rfl, fun _ _ _ _ h => h⟩
theorem KT.trans {K : Nat → Prop} {A B C : World} (h : KT K A B) (k : KT K B C) : KT K A C := ⟨fun i hi => (k.1 i hi).trans (h.1 i hi), fun i cs t ht hr => k.2 i cs t ht (h.2 i cs t ht hr)⟩
theorem below_grown {W w : World} (h : Below W.heap.size W w) : W.grownBy w none := ⟨h.os, h.tape, h.output, h.size, fun k hk _ => h.block k hk⟩
/-- index i with block p i -/
def gI (p : Nat → List UInt8) (i : Nat) : IB := ⟨((min i 100000 : Nat), if (p i).length = 64 then p i else nought), by omega, by omega, by dsimp only; split <;> first | assumption | rfl⟩
theorem gI_eq (p : Nat → List UInt8) (i : Nat) (hi : i ≤ 100000) (hp : (p i).length = 64) : (gI p i).1 = ((i : Int), p i) := by
  unfold gI
  dsimp only
  rw [if_pos hp, Nat.min_eq_left hi]
theorem upto_map (p : Nat → List UInt8) (n : Nat) (hn : n ≤ 100000) (hp : ∀ i, i < n → (p i).length = 64) : (upto (gI p) n).map (·.1) = (List.range n).map fun (i : Nat) => ((i : Int), p i) := by
  unfold upto
  rw [List.map_map]
  apply List.map_congr_left
  intro i hi
  exact gI_eq p i (by have := List.mem_range.1 hi; omega) (hp i (List.mem_range.1 hi))
theorem upto_pre (p : Nat → List UInt8) (r n : Nat) (hr : r ≤ n) (hn : n ≤ 100000) (hp : ∀ i, i < n → (p i).length = 64) : (upto (gI p) r).map (·.1) <+: (List.range n).map fun (i : Nat) => ((i : Int), p i) := by
  rw [← upto_map p n hn hp]
  refine List.IsPrefix.map _ ?_
  unfold upto
  refine List.IsPrefix.map _ ?_
  obtain ⟨d, rfl⟩ : ∃ d, n = r + d := ⟨n - r, by omega⟩
  rw [List.range_add]
  exact List.prefix_append _ _
theorem wp_append_any {P : Program} {w : World} {o : Oper} {a : Act} {K : Act → World → Prop} {Q : Exit → Act → World → Prop} (s x : Operand) (t : TypeId)
    (ho : o.op = .call { callee := .builtin .append, args := #[s, x], argTypes := #[t, t] })
    (base : Nat) (e : TypeId) (i : TypeInfo) (z : Value) (ht : P.underlying t = some (.slice e)) (hi : P.info? e = some i) (hz : i.zero = some z) (hsize : i.size = 1) (hby : i.bytes = 1) (hzs : z.cells.size = 1)
    (v : Value) (n : Nat) (xs : List Value) (hs : a.eval s = v) (hown : w.ownsRow base e 1 v n xs)
    (A : Option Addr) (m c : Nat) (l : List UInt8) (hx : a.eval x = .slice A m c) (hl : l.length = m) (B : Nat) (hr : Bs w B A l) (hA : A = none → c = 0)
    (h63 : n + m ≤ 140737488355328) (hbase : base ≤ w.heap.size)
    (h : ∀ v' w', w'.ownsRow base e 1 v' (n + m) (xs ++ bv l) → w.grownBy w' v.ownBlock → K (a.put o.dst v') w') : o.wp P a w K Q := by
  cases A with
  | none =>
    have h0 : m = 0 := by
      rcases Nat.eq_zero_or_pos m with h0 | h0
      · exact h0
      · obtain ⟨b, o, e, _⟩ := hr (by omega)
        cases e
    subst h0
    obtain rfl := hA rfl
    obtain rfl : l = [] := List.eq_nil_of_length_eq_zero hl
    have hrun := run_append_owned_none (P := P) w base t o.type e i 1 ht hi v n xs hown
    unfold Oper.wp
    simp [execOp, ho, resolve, invoke, builtin, hs, hx, hrun, Result.andThen]
    exact h v w (by simpa [bv] using hown) (World.grownBy.refl _ _)
  | some ad => exact wp_append_bs s x t ho base e i z ht hi hz hsize hby hzs v n xs hs hown ad m c l hx hl B hr h63 hbase h
theorem nwu {P : Program} {o : Oper} {a : Act} {K : Act → World → Prop} {Q : Exit → Act → World → Prop} {s : Sem Value} {W : World} {f : Value → World → Result Next} (h : ∀ w1, W = w1 → Oper.upon P o a K Q ((Sem.run P s w1).andThen f)) : Oper.upon P o a K Q ((Sem.run P s W).andThen f) := h W rfl
theorem nwui {F : Fence} {n : Nat} {P : Program} {o : Oper} {a : Act} {K : Act → World → Prop} {Q : Exit → Act → World → Prop} {s : Sem Value} {W : World} {f : Value → World → Result Next} (h : ∀ w1, W = w1 → Oper.uponIn F n P o a K Q ((Sem.run P s w1).andThen f)) : Oper.uponIn F n P o a K Q ((Sem.run P s W).andThen f) := h W rfl
theorem src_bytes {w : World} {g t : Nat} {cs : List Value} {all : List UInt8} {n : Nat} (h : Row w g t cs) (ht : cs.take n = bv all) (o : Nat) : ∀ j u, (bv ((all.drop o).take 48))[j]? = some u → w.cell? ((⟨g, o, none⟩ : Addr).add j) = some u := by
  intro j u hj
  have hj1 : j < ((all.drop o).take 48).length := by simpa [bv_length] using (List.getElem?_eq_some_iff.1 hj).1
  rw [List.length_take, List.length_drop] at hj1
  rw [Addr.add_lit, h.cell, ← hj]
  have h2 : (bv all)[o + j]? = cs[o + j]? := by
    rw [← ht, List.getElem?_take, if_pos]
    have h3 : (cs.take n).length = all.length := by rw [ht, bv_length]
    rw [List.length_take] at h3
    omega
  rw [← h2]
  have h4 : j < 48 := by omega
  simp [bv, List.getElem?_take, List.getElem?_drop, h4]
theorem size131 : (Try.prog.info? 131).map (·.size) = some 48 := by kernel_rfl
theorem size101 : (Try.prog.info? 101).map (·.size) = some 3 := by kernel_rfl
def pairsM (t k : Nat) (b : List UInt8) : List (Int × List UInt8) := (List.range (sects b.length)).map fun (i : Nat) => ((i : Int), partM t k b i)
set_option maxHeartbeats 4000000 in
theorem parts_in (l Bf t k nn m c : Nat) (A : Option Addr) (b : List UInt8) (hnn : 1 ≤ nn) (hb : b.length ≤ 40000) (ht : t < 4294967296) (hk : k < 4294967296) (K0 : Nat → Prop) (J Jx : List IB → World → Prop) (W : World) (hJ : AbidesFrom W.heap.size J)
    (hY : ∀ pre x W1, J pre W1 → pre.length < sects b.length → YieldAt Fence.wide (nn - 1) Try.prog l (encI x) W1 fun e W' =>
      (e = .returned (.bool true) ∧ J (pre ++ [x]) W' ∧ KT K0 W1 W') ∨ (e = .returned (.bool false) ∧ Jx (pre ++ [x]) W'))
    (hf : Row W Bf 101 (fcs t k A m c)) (hs : Sl W W.heap.size A m c b) (h0 : J [] W) :
    CallsIn Fence.wide nn Try.prog 78 #[.func (.yield l) #[] #[], .pointer (some ⟨Bf, 0, none⟩)] W fun e W' => (∃ v, e = .returned v) ∧
      ((∃ xs : List IB, xs.map (·.1) = pairsM t k b ∧ J xs W') ∨ (∃ pre : List IB, pre.map (·.1) <+: pairsM t k b ∧ Jx pre W')) := by
  obtain rfl : m = b.length := hs.len.symm
  have mixed : Try.prog.follows .mixedOrders = true := by kernel_rfl
  have HY := Lib.hid hY
  have HJ := Lib.hid hJ
  have RF := Lib.hid hf
  have HS := Lib.hid hs
  have hw32 : IntKind.u32.wrap (b.length : Int) = b.length := by rw [IntKind.wrap_u32]; omega
  have c0 : W.cell? ⟨Bf, 2, none⟩ = some (.slice A b.length c) := hf.cell 2
  clear hY hJ hf hs
  refine callsIn_of_wp Try.func78 rfl trivial ?_ rfl
  simp only [Try.ntmps78, List.size_toArray, List.length_cons, List.length_nil, Nat.reduceAdd, Nat.reduceSub, Array.replicate_succ, Array.replicate_zero, List.push_toArray, List.append_toArray, List.nil_append, List.cons_append]
  refine wpIn_wide.2 ?_
  go_wp2_with fail
  refine (sectors_any b.length W hb).mono ?_
  rintro e w1 ⟨rfl, rfl⟩
  go_wp2_with fail
  refine wp_region_held_drew (S := (fun w' => Row w' Bf 101 (fcs t k A b.length c))) (by kernel_rfl) RF.out (fun hHeld => ?_)
  refine wpAnyH_take (i := 0) (oi := ⟨some 11, _, _, _, _, _⟩) (v := ?v0) rfl (by kernel_rfl) (by kernel_rfl) (by kernel_rfl) (fun _ _ _ h => h) (Or.inl ⟨by rfl, ?y0⟩) hHeld ?r0
  case y0 =>
    rintro w' hSw
    go_simp
    try with_reducible rfl
  try simp only [Act.put, List.setIfInBounds_toArray, List.set_cons_zero, List.set_cons_succ]
  refine wpAnyH_take (i := 1) (oi := ⟨some 12, _, _, _, _, _⟩) (v := ?v1) rfl (by kernel_rfl) (by kernel_rfl) (by kernel_rfl) (fun _ _ _ h => h) (Or.inl ⟨by rfl, ?y1⟩) hHeld ?r1
  case y1 =>
    rintro w' hSw
    have c0 : w'.cell? ⟨Bf, 2, none⟩ = some (.slice A b.length c) := hSw.cell 2
    go_simp
    try with_reducible rfl
  try simp only [Act.put, List.setIfInBounds_toArray, List.set_cons_zero, List.set_cons_succ]
  refine wpAnyH_take (i := 2) (oi := ⟨some 13, _, _, _, _, _⟩) (v := ?v2) rfl (by kernel_rfl) (by kernel_rfl) (by kernel_rfl) (fun _ _ _ h => h) (Or.inl ⟨by rfl, ?y2⟩) hHeld ?r2
  case y2 =>
    rintro w' hSw
    go_simp
    try with_reducible rfl
  try simp only [Act.put, List.setIfInBounds_toArray, List.set_cons_zero, List.set_cons_succ]
  refine wpAnyH_take (i := 3) (oi := ⟨some 14, _, _, _, _, _⟩) (v := ?v3) rfl (by kernel_rfl) (by kernel_rfl) (by kernel_rfl) (fun _ _ _ h => h) (Or.inl ⟨by rfl, ?y3⟩) hHeld ?r3
  case y3 =>
    rintro w' hSw
    go_simp
    try with_reducible rfl
  try simp only [Act.put, List.setIfInBounds_toArray, List.set_cons_zero, List.set_cons_succ]
  refine wpAnyH_take (i := 5) (oi := ⟨some 16, _, _, _, _, _⟩) (v := ?v5) rfl (by kernel_rfl) (by kernel_rfl) (by kernel_rfl) (fun _ _ _ h => h) (Or.inl ⟨by rfl, ?y5⟩) hHeld ?r5
  case y5 =>
    rintro w' hSw
    go_simp
    try with_reducible rfl
  try simp only [Act.put, List.setIfInBounds_toArray, List.set_cons_zero, List.set_cons_succ]
  refine wpAnyH_take (i := 6) (oi := ⟨some 17, _, _, _, _, _⟩) (v := ?v6) rfl (by kernel_rfl) (by kernel_rfl) (by kernel_rfl) (fun _ _ _ h => h) (Or.inl ⟨by rfl, ?y6⟩) hHeld ?r6
  case y6 =>
    rintro w' hSw
    have c0 : w'.cell? ⟨Bf, 2, none⟩ = some (.slice A b.length c) := hSw.cell 2
    go_simp
    try with_reducible rfl
  try simp only [Act.put, List.setIfInBounds_toArray, List.set_cons_zero, List.set_cons_succ]
  refine wpAnyH_ready (rs := [4]) (by kernel_rfl) (by simp) ?_
  refine AllReadyH.cons rfl (fun K hK => ?_) AllReadyH.nil
  go_simp
  refine (put32_any none [] 0 0 b.length W.drew rfl (by omega) (by omega) (Bs.nil _ _ _)).mono ?_
  rintro e w2 ⟨g2, n2, rfl, hl2, hg2, hr2, hb2⟩
  replace hb2 : Below W.heap.size W w2 := undrew hb2
  have hn2 : n2 = 4 := by have := hl2.out; simp [hi_length] at this; omega
  subst hn2
  have R2 := Lib.hid (RF.out.below hb2 RF.out.lt)
  have HS2 := Lib.hid (HS.out.below hb2)
  have HB2 := Lib.hid hb2
  have HG2 := Lib.hid hr2
  have HGB := Lib.hid (show W.heap.size ≤ g2 from hg2)
  replace hg2 : W.heap.size ≤ g2 := hg2
  clear hb2 hr2 hg2 hl2
  refine hK _ _ R2.out (fun _ => ?_)
  clear hK K
  try simp only [Act.put, List.setIfInBounds_toArray, List.set_cons_zero, List.set_cons_succ]
  refine wpAnyH_ready (rs := [7]) (by kernel_rfl) (by simp) ?_
  refine AllReadyH.cons rfl (fun K hK => ?_) AllReadyH.nil
  obtain ⟨i0, hi0, hz0, hz1, hz2⟩ := info_parts info5
  have hown2 : w2.ownsRow W.heap.size 5 1 (.slice (some ⟨g2, 0, none⟩) 4 4) 4 (bv ([] ++ hi 4 b.length)) := Row.own HG2.out HGB.out (by rw [bv_length]; simp [hi_length]) (by unfold maxLen; omega)
  rw [if_pos (by rfl)]
  refine wp_append_any (.tmp 15) (.tmp 17) 37 rfl W.heap.size 5 i0 (.int .u8 0) Try.underlying37 hi0 hz0 hz1 hz2 rfl (.slice (some ⟨g2, 0, none⟩) 4 4) 4 _ rfl hown2 A b.length c b rfl rfl W.heap.size HS2.out.bs HS2.out.nil (by omega) HB2.out.size ?_
  clear hown2
  intro v3 w3 hown3 hg3
  have hall : bv ([] ++ hi 4 b.length) ++ bv b = bv (allB b) := by rw [← bv_append]; rfl
  rw [hall] at hown3
  have R3 := Lib.hid (R2.out.grown hg3 (by simp [Value.ownBlock]; have h1 := HGB.out; have h2 := RF.out.lt; omega))
  have HB3 := Lib.hid (HB2.out.grown hg3 HB2.out.size (fun j hj => by simp [Value.ownBlock] at hj; have := HGB.out; omega))
  obtain ⟨gr, cap, cur, rfl, hgr, hcur, hcn, hcm, hcs, htk⟩ : ∃ g cap cur, v3 = .slice (some ⟨g, 0, none⟩) (4 + b.length) cap ∧ W.heap.size ≤ g ∧ w3.heap[g]? = some (.cells cur 5 (0, 0)) ∧ 4 + b.length ≤ cap ∧ cap ≤ maxLen ∧ cur.size = cap * 1 ∧ cur.toList.take ((4 + b.length) * 1) = bv (allB b) := by
    rcases hown3 with ⟨_, ⟨hv, h0⟩ | h⟩
    · omega
    · exact h
  have RR := Lib.hid (show Row w3 gr 5 cur.toList by show _ = _; simpa using hcur)
  have HT := Lib.hid (show cur.toList.take (4 + b.length) = bv (allB b) by simpa using htk)
  have HC := Lib.hid (show cur.toList.length = cap by simpa using hcs)
  clear hcur hcs htk hown3 hg3 hall
  refine hK _ _ R3.out (fun _ => ?_)
  clear hK K
  try simp only [Act.put, List.setIfInBounds_toArray, List.set_cons_zero, List.set_cons_succ]
  refine wpAnyH_take (i := 8) (oi := ⟨some 4, _, _, _, _, _⟩) (v := ?v8) rfl (by kernel_rfl) (by kernel_rfl) (by kernel_rfl) (fun _ _ _ h => h) (Or.inl ⟨by rfl, ?y8⟩) R3.out ?r8
  case y8 =>
    rintro w' hSw
    go_simp
    try with_reducible rfl
  try simp only [Act.put, List.setIfInBounds_toArray, List.set_cons_zero, List.set_cons_succ]
  refine wpAnyH_done (by kernel_rfl) ?_ _
  go_wp2_with fail
  refine (wpIn_wide (n := nn)).1 ?_
  have HJ3 := Lib.hid (HJ.out _ _ _ none h0 (below_grown HB3.out) (fun r e => by cases e))
  gi_loopw [4, 20] (fun s i wr => ∃ r : Nat, r ≤ sects b.length ∧ i = .int .i64 (r : Int) ∧ Hid (r < sects b.length → s = .slice (some ⟨gr, 48 * r, none⟩) (4 + b.length - 48 * r) (cap - 48 * r)) ∧ J (upto (gI (partM t k b)) r) wr ∧ Hid (Row wr Bf 101 (fcs t k A b.length c) ∧ Row wr gr 5 cur.toList)) (fun _ i _ => sects b.length - (intOf i).toNat)
  case atStart => exact ⟨0, Nat.zero_le _, rfl, (fun _ => by simp), HJ3.out, R3.out, RR.out⟩
  case round =>
    obtain ⟨r, hrn, rfl, hsl, hJs, HK⟩ := hrel
    by_cases hlt : r < sects b.length
    · obtain rfl := hsl.out hlt
      clear hsl
      have h1 : (r : Int) < (sects b.length : Int) := by omega
      have h48 : 48 * r < 4 + b.length := by unfold sects at hlt; omega
      obtain ⟨o1, ho1⟩ : ∃ o1, 48 * r = o1 := ⟨_, rfl⟩
      obtain ⟨n1, hn1⟩ : ∃ n1, 4 + b.length - o1 = n1 := ⟨_, rfl⟩
      obtain ⟨c1, hc1⟩ : ∃ c1, cap - o1 = c1 := ⟨_, rfl⟩
      obtain ⟨x, hx⟩ : ∃ x, ((allB b).drop o1).take 48 = x := ⟨_, rfl⟩
      have hxl : x.length = min n1 48 := by rw [← hx, List.length_take, List.length_drop, allB_len]; omega
      obtain ⟨q, hq⟩ : ∃ q, x.length = q := ⟨_, rfl⟩
      have hq1 : q ≤ n1 := by omega
      have hq48 : q ≤ 48 := by omega
      have hqn : q < 48 → q = n1 := fun h => by omega
      have hnc : n1 ≤ c1 := by omega
      rw [ho1, hn1, hc1]
      have HSRC : Hid (∀ w', Row w' gr 5 cur.toList → ∀ j u, (bv x)[j]? = some u → w'.cell? ((⟨gr, o1, none⟩ : Addr).add j) = some u) := Lib.hid (fun w' hr => by rw [← hx]; exact src_bytes hr HT.out o1)
      have HX := Lib.hid hx
      have HO1 := Lib.hid ho1
      have HN1 := Lib.hid hn1
      have HC1 := Lib.hid hc1
      have HQ := Lib.hid hq
      have HXL := Lib.hid hxl
      have HQN := Lib.hid hqn
      clear hx ho1 hn1 hc1 hq hxl hqn
      gi_wp2_with fail
      refine nwui fun wa hwa => ?_
      have hra : Row wa wr.heap.size 131 (bv (List.replicate 48 0)) := by rw [← hwa]; exact Row.new wr _ (bv (List.replicate 48 0))
      have hba : Below wr.heap.size wr wa := by rw [← hwa]; exact (Below.refl _ _).alloc (Nat.le_refl _) _
      have hrun := run_copy_row (P := Try.prog) (w := wa) 37 37 3 5 wr.heap.size 0 48 48 ⟨gr, o1, none⟩ n1 c1 (bv (List.replicate 48 0)).toArray 131 (bv x) Try.underlying37 size5 hra ((bv_length _).trans HXL.out) (HSRC.out _ (HK.out.2.below hba HK.out.2.lt)) (by rw [bv_length, HQ.out, List.size_toArray, bv_length, List.length_replicate]; omega) bv_one
      rw [bv_length, HQ.out] at hrun
      rw [hrun]
      have hcells : (List.take 0 (bv (List.replicate 48 0)).toArray.toList ++ bv x ++ List.drop (0 + q) (bv (List.replicate 48 0)).toArray.toList) = bv (bodyB (allB b) r) := by
        unfold bodyB fill48
        rw [HO1.out, HX.out, bv_append, List.take_zero, List.nil_append, Nat.zero_add]
        congr 1
        show List.drop q (bv (List.replicate 48 0)) = _
        rw [← bv_zero, ← bv_zero, List.drop_replicate]
        congr 1
        have := HXL.out
        have h5 := HQ.out
        rw [List.length_drop, allB_len]
        have := HN1.out
        omega
      rw [hcells]
      obtain ⟨wc, hwc⟩ : ∃ wc, wa.setRow wr.heap.size (bv (bodyB (allB b) r)).toArray = wc := ⟨_, rfl⟩
      have hrc : Row wc wr.heap.size 131 (bv (bodyB (allB b) r)) := by
        rw [← hwc]
        exact setRow_heap wa wr.heap.size _ _ _ _ hra
      have hbc : Below wr.heap.size wr wc := hba.grown (by rw [← hwc]; exact grown_setRow _ _ _) hba.size (fun k hk => by cases hk; exact Nat.le_refl _)
      rw [hwc]
      have HRC := Lib.hid hrc
      have HBC := Lib.hid hbc
      have HF := Lib.hid (HK.out.1.below hbc HK.out.1.lt)
      have HG := Lib.hid (HK.out.2.below hbc HK.out.2.lt)
      clear hrun hcells hwc hrc hbc hra hba hwa HK HSRC
      have HI := Lib.hid (show (Try.prog.info? 101).map (·.size) = some (fcs t k A b.length c).length from size101)
      have HIB := Lib.hid (show (Try.prog.info? 131).map (·.size) = some (bv (bodyB (allB b) r)).length by rw [bv_length, bodyB_len]; exact size131)
      have hJc : J (upto (gI (partM t k b)) r) wc := HJ.out _ _ _ none hJs (below_grown HBC.out) (fun r e => by cases e)
      by_cases hcq : c1 = q
      · -- the row's end
        gi_wp2_with (first
          | (with_reducible refine wpListIn_load_mid (op := ⟨some 30, _, _, _, _, _⟩) ?_ 101 (.tmp 1) ?_ Bf 0 ?_ (fcs t k A b.length c) _ (Row.all HF.out) Try.underlying101 ?_ HI.out ?_)
          | (with_reducible refine wpListIn_load_mid (op := ⟨some 33, _, _, _, _, _⟩) ?_ 131 (.tmp 6) ?_ wr.heap.size 0 ?_ (bv (bodyB (allB b) r)) _ (Row.all HRC.out) Try.underlying131 ?_ HIB.out ?_))
        all_goals try (first | rfl | (simp; done))
        gi_wp2_with fail
        refine ⟨trivial, callsIn_wide.2 ?_⟩
        refine (part_any t k A b.length c r (sects b.length) (bodyB (allB b) r) wc ht hk (by have := sects_most _ hb; omega) (by have := sects_most _ hb; omega) (bodyB_len _ _)).mono ?_
        rintro e wd ⟨rfl, hbd⟩
        have hJd : J (upto (gI (partM t k b)) r) wd := HJ.out _ _ _ none hJc (below_grown hbd) (fun r e => by cases e)
        have hpm : partB t k r (sects b.length) (bodyB (allB b) r) = partM t k b r := rfl
        rw [hpm]
        have hgI := gI_eq (partM t k b) r (by have := sects_most _ hb; omega) (partM_len _ _ _ _)
        obtain ⟨fn, tmps, assign, body, hy, hR⟩ := HY.out _ (gI (partM t k b) r) wd hJd (by rw [upto_len]; exact hlt)
        unfold encI at hy
        rw [hgI] at hy
        rw [← upto_succ] at hR
        dsimp only at hy
        have HFd := Lib.hid (HF.out.below hbd HF.out.lt)
        have HGd := Lib.hid (HG.out.below hbd HG.out.lt)
        clear hpm hgI hJd hJc hJs hbd HI HIB
        gi_wp2
        refine hR.mono ?_
        rintro e W3 (⟨rfl, hJ3, hk3⟩ | ⟨rfl, hJx3⟩)
        · have HF3 := Lib.hid (hk3.2 _ _ _ (.inr rfl) HFd.out)
          have HG3 := Lib.hid (hk3.2 _ _ _ (.inl rfl) HGd.out)
          clear hk3 hR hy
          gi_wp2
          go_roundw
          case rel =>
            refine ⟨r + 1, by omega, by go_num, (fun hlt2 => ?_), hJ3, HF3.out, HG3.out⟩
            exfalso
            have h5 := HN1.out
            have h6 := HO1.out
            unfold sects at hlt2
            omega
          case measure =>
            simp [intOf]
            omega
        · gi_wp2
          refine bodyPost_ret (results_none rfl _ _ _) rfl ?_
          exact ⟨⟨_, rfl⟩, .inr ⟨_, upto_pre (partM t k b) (r + 1) _ (by omega) (by have := sects_most _ hb; omega) (fun i _ => partM_len _ _ _ _), hJx3⟩⟩
      · -- there is more
        gi_wp2_with (first
          | (with_reducible refine wpListIn_load_mid (op := ⟨some 30, _, _, _, _, _⟩) ?_ 101 (.tmp 1) ?_ Bf 0 ?_ (fcs t k A b.length c) _ (Row.all HF.out) Try.underlying101 ?_ HI.out ?_)
          | (with_reducible refine wpListIn_load_mid (op := ⟨some 33, _, _, _, _, _⟩) ?_ 131 (.tmp 6) ?_ wr.heap.size 0 ?_ (bv (bodyB (allB b) r)) _ (Row.all HRC.out) Try.underlying131 ?_ HIB.out ?_))
        all_goals try (first | rfl | (simp; done))
        gi_wp2_with fail
        refine ⟨trivial, callsIn_wide.2 ?_⟩
        refine (part_any t k A b.length c r (sects b.length) (bodyB (allB b) r) wc ht hk (by have := sects_most _ hb; omega) (by have := sects_most _ hb; omega) (bodyB_len _ _)).mono ?_
        rintro e wd ⟨rfl, hbd⟩
        have hJd : J (upto (gI (partM t k b)) r) wd := HJ.out _ _ _ none hJc (below_grown hbd) (fun r e => by cases e)
        have hpm : partB t k r (sects b.length) (bodyB (allB b) r) = partM t k b r := rfl
        rw [hpm]
        have hgI := gI_eq (partM t k b) r (by have := sects_most _ hb; omega) (partM_len _ _ _ _)
        obtain ⟨fn, tmps, assign, body, hy, hR⟩ := HY.out _ (gI (partM t k b) r) wd hJd (by rw [upto_len]; exact hlt)
        unfold encI at hy
        rw [hgI] at hy
        rw [← upto_succ] at hR
        dsimp only at hy
        have HFd := Lib.hid (HF.out.below hbd HF.out.lt)
        have HGd := Lib.hid (HG.out.below hbd HG.out.lt)
        clear hpm hgI hJd hJc hJs hbd HI HIB
        gi_wp2
        refine hR.mono ?_
        rintro e W3 (⟨rfl, hJ3, hk3⟩ | ⟨rfl, hJx3⟩)
        · have HF3 := Lib.hid (hk3.2 _ _ _ (.inr rfl) HFd.out)
          have HG3 := Lib.hid (hk3.2 _ _ _ (.inl rfl) HGd.out)
          clear hk3 hR hy
          gi_wp2
          go_roundw
          case rel =>
            refine ⟨r + 1, by omega, by go_num, (fun hlt2 => ?_), hJ3, HF3.out, HG3.out⟩
            have h5 := HN1.out
            have h6 := HO1.out
            have h7 := HC1.out
            have h8 : q = 48 := by
              rcases Nat.lt_or_ge q 48 with h9 | h9
              · have := HQN.out h9
                unfold sects at hlt2
                omega
              · omega
            have e1 : o1 + q = 48 * (r + 1) := by omega
            have e2 : n1 - q = 4 + b.length - 48 * (r + 1) := by omega
            have e3 : c1 - q = cap - 48 * (r + 1) := by omega
            rw [e1, e2, e3]
          case measure =>
            simp [intOf]
            omega
        · gi_wp2
          refine bodyPost_ret (results_none rfl _ _ _) rfl ?_
          exact ⟨⟨_, rfl⟩, .inr ⟨_, upto_pre (partM t k b) (r + 1) _ (by omega) (by have := sects_most _ hb; omega) (fun i _ => partM_len _ _ _ _), hJx3⟩⟩

    · have h1 : ¬ (r : Int) < (sects b.length : Int) := by omega
      obtain rfl : r = sects b.length := by omega
      gi_wp2
      go_end0
      exact ⟨⟨_, rfl⟩, .inl ⟨_, upto_map (partM t k b) _ (by have := sects_most _ hb; omega) (fun i _ => partM_len _ _ _ _), hJs⟩⟩
end Go.Proofs.Yteemdjamgbbjhaa.Wl

/-
  Blocks that are compared.
-/
namespace Go.Proofs.Yteemdjamgbbjhaa.Dsk
set_option maxRecDepth 100000
open Go.RowKit Go.Proofs.Yteemdjamgbbjhaa.Wd

theorem plain_u8 : Try.prog.plainKey 5 = true := by kernel_rfl
theorem guard39 : Try.prog.eqGuardType Try.prog.depth 89 = false := by kernel_rfl
theorem cellsU8 : Try.prog.cellsOf 5 = 1 := by kernel_rfl
theorem info_u8 : ∃ i, Try.prog.info? 5 = some i := info_of_underlying Try.underlying5
theorem run_items (w : World) (d : Nat) (a b : List UInt8) : ∀ is : List Nat, (∀ i ∈ is, i < a.length ∧ i < b.length) →
    (Op.eqItems (d + 1) 5 1 (bv a).toArray (bv b).toArray is).run Try.prog w = .ok (is.all fun i => a.getD i 0 == b.getD i 0) w
  | [], _ => by simp [Op.eqItems]
  | i :: is, h => by
    have h1 := h i (by simp)
    have pa := run_part_plain (P := Try.prog) w plain_u8 (xs := (bv a).toArray) (off := i * 1) (v := .int .u8 ((a.getD i 0).toNat : Int)) (by simp [bv, h1.1])
    have pb := run_part_plain (P := Try.prog) w plain_u8 (xs := (bv b).toArray) (off := i * 1) (v := .int .u8 ((b.getD i 0).toNat : Int)) (by simp [bv, h1.2])
    have pe := run_equalIn_int (P := Try.prog) w d 5 .u8 .u8 ((a.getD i 0).toNat : Int) ((b.getD i 0).toNat : Int) Try.underlying5
    have ih := run_items w d a b is (fun j hj => h j (by simp [hj]))
    have hq : (((a.getD i 0).toNat : Int) == ((b.getD i 0).toNat : Int)) = (a.getD i 0 == b.getD i 0) := by
      rw [Bool.eq_iff_iff]
      simp only [beq_iff_eq, Int.natCast_inj, UInt8.toNat_inj]
    simp only [Op.eqItems, Sem.run_bind, pa, pb, pe, Result.andThen_ok, hq]
    cases hc : (a.getD i 0 == b.getD i 0)
    · simp only [Bool.not_false, if_true, Sem.run_pure, List.all_cons, hc, Bool.false_and]
    · simp only [Bool.not_true, Bool.false_eq_true, if_false, List.all_cons, hc, Bool.true_and]
      exact ih
theorem run_equal_blk (w : World) (a b : List UInt8) (ha : a.length = 64) (hb : b.length = 64) :
    (Op.equalIn 10000 89 (blk a) (blk b)).run Try.prog w = .ok (decide (a = b)) w := by
  obtain ⟨i, hi⟩ := info_u8
  have h := run_equalIn_array (P := Try.prog) w 9999 (bv a).toArray (bv b).toArray Try.underlying89 hi
  rw [cellsU8, run_items w 9998 a b (List.range 64) (fun i hi => by have := List.mem_range.1 hi; omega)] at h
  refine h.trans ?_
  congr 1
  rw [Bool.eq_iff_iff, List.all_eq_true, decide_eq_true_eq]
  constructor
  · intro hh
    apply List.ext_getElem (by omega)
    intro n h1 h2
    have := hh n (List.mem_range.2 (by omega))
    simpa [h1, h2] using this
  · rintro rfl j hj
    simp
section
variable {ops : Array Oper} {rest : List Oper} {o : Oper} {a : Act} {w : World} {Q : Exit → Act → World → Prop}
theorem run_eql_blk (w : World) (x y : Operand) (l m : List UInt8) (hl : l.length = 64) (hm : m.length = 64) : (do eqGuard .eql 89 x y (blk l) (blk m); binOp .eql 89 (blk l) (blk m)).run Try.prog w = .ok (.bool (decide (l = m))) w := by
  rw [Sem.run_bind, show (eqGuard .eql 89 x y (blk l) (blk m)).run Try.prog w = .ok () w from run_eqGuard_agg w _ _ _ _ _ _ guard39, Result.andThen_ok]
  have h := run_eql_struct (P := Try.prog) w 89 (bv l).toArray (bv m).toArray
  have h2 := run_equal_blk w l m hl hm
  unfold blk at h2 ⊢
  rw [h, h2, Result.andThen_ok]
theorem run_neq_blk (w : World) (x y : Operand) (l m : List UInt8) (hl : l.length = 64) (hm : m.length = 64) : (do eqGuard .neq 89 x y (blk l) (blk m); binOp .neq 89 (blk l) (blk m)).run Try.prog w = .ok (.bool (!decide (l = m))) w := by
  rw [Sem.run_bind, show (eqGuard .neq 89 x y (blk l) (blk m)).run Try.prog w = .ok () w from run_eqGuard_agg w _ _ _ _ _ _ guard39, Result.andThen_ok]
  have h := run_neq_struct (P := Try.prog) w 89 (bv l).toArray (bv m).toArray
  have h2 := run_equal_blk w l m hl hm
  unfold blk at h2 ⊢
  rw [h, h2, Result.andThen_ok]
theorem wpList_eql_blk (hw : Region.wanted o (yielded ops a.tmps) = true) (x y : Operand) (ho : o.op = .binOp .eql 89 x y 89) (l m : List UInt8) (hx : a.eval x = blk l) (hy : a.eval y = blk m) (hl : l.length = 64) (hm : m.length = 64)
    (h : wpList Try.prog ops Q rest (a.put o.dst (.bool (decide (l = m)))) w) : wpList Try.prog ops Q (o :: rest) a w :=
  wpList_wanted hw fun K hK => by
    have hr := run_eql_blk w x y l m hl hm
    rw [Sem.run_bind] at hr
    unfold Oper.wp execOp
    simp only [ho, hx, hy, Sem.run_bind]
    revert hr
    generalize (eqGuard .eql 89 x y (blk l) (blk m)).run Try.prog w = r
    intro hr
    cases r with
    | halt e u => simp [Result.andThen] at hr
    | ok z u =>
      simp only [Result.andThen_ok] at hr ⊢
      rw [hr]
      exact hK _ _ h
theorem wpList_neq_blk (hw : Region.wanted o (yielded ops a.tmps) = true) (x y : Operand) (ho : o.op = .binOp .neq 89 x y 89) (l m : List UInt8) (hx : a.eval x = blk l) (hy : a.eval y = blk m) (hl : l.length = 64) (hm : m.length = 64)
    (h : wpList Try.prog ops Q rest (a.put o.dst (.bool (!decide (l = m)))) w) : wpList Try.prog ops Q (o :: rest) a w :=
  wpList_wanted hw fun K hK => by
    have hr := run_neq_blk w x y l m hl hm
    rw [Sem.run_bind] at hr
    unfold Oper.wp execOp
    simp only [ho, hx, hy, Sem.run_bind]
    revert hr
    generalize (eqGuard .neq 89 x y (blk l) (blk m)).run Try.prog w = r
    intro hr
    cases r with
    | halt e u => simp [Result.andThen] at hr
    | ok z u =>
      simp only [Result.andThen_ok] at hr ⊢
      rw [hr]
      exact hK _ _ h
end
end Go.Proofs.Yteemdjamgbbjhaa.Dsk

/-
  What iterators tell: blocks of a row, noughts for those that hold anything.
-/
namespace Go.Proofs.Yteemdjamgbbjhaa.Wl
set_option maxRecDepth 100000
open Go.RowKit Go.Proofs.Yteemdjamgbbjhaa.Wd Go.Proofs.Yteemdjamgbbjhaa.Dsk Go.Proofs.Yteemdjamgbbjhaa.Oct Go.Proofs.Yteemdjamgbbjhaa.Sum

attribute [local go_sem] Oper.semAt_some

/-- blocks in a row, from cell o of block g on -/
def Bk (w : World) (g o : Nat) (L : List (List UInt8)) : Prop := ∀ i, i < L.length → (L.getD i nought).length = 64 ∧ w.rangeAt g (o + i * 64) (bv (L.getD i nought))
/-- a slice of blocks, in a block of K -/
def Bls (w : World) (K : Nat → Prop) (A : Option Addr) (L : List (List UInt8)) : Prop := 0 < L.length → ∃ g o, A = some ⟨g, o, none⟩ ∧ K g ∧ Bk w g o L
theorem kept_lt {w w' : World} {k : Nat} (h : w'.heap[k]? = w.heap[k]?) (hk : k < w.heap.size) : k < w'.heap.size := by
  rw [Array.getElem?_eq_getElem hk] at h
  exact (Array.getElem?_eq_some_iff.1 h).1
theorem range_same {w w' : World} {g o : Nat} {cs : List Value} (h : w.rangeAt g o cs) (he : w'.heap[g]? = w.heap[g]?) : w'.rangeAt g o cs := fun j v hj => (World.cell?_of_block (a := ⟨g, o + j, none⟩) he).trans (h j v hj)
theorem Bk.same {w w' : World} {g o : Nat} {L : List (List UInt8)} (h : Bk w g o L) (he : w'.heap[g]? = w.heap[g]?) : Bk w' g o L := fun i hi => ⟨(h i hi).1, range_same (h i hi).2 he⟩
set_option maxHeartbeats 4000000 in
theorem all_in (l Bf nn c : Nat) (A : Option Addr) (L : List (List UInt8)) (hnn : 1 ≤ nn) (hn : L.length ≤ 100000) (K0 : Nat → Prop) (J Jx : List IB → World → Prop) (W : World) (hJ : AbidesFrom W.heap.size J)
    (hY : ∀ pre x W1, J pre W1 → pre.length < L.length → YieldAt Fence.wide (nn - 1) Try.prog l (encI x) W1 fun e W' =>
      (e = .returned (.bool true) ∧ J (pre ++ [x]) W' ∧ KT K0 W1 W') ∨ (e = .returned (.bool false) ∧ Jx (pre ++ [x]) W'))
    (hf : W.cell? ⟨Bf, 0, none⟩ = some (.slice A L.length c)) (hs : Bls W K0 A L) (hlt : ∀ k, K0 k → k < W.heap.size) (h0 : J [] W) :
    CallsIn Fence.wide nn Try.prog 71 #[.func (.yield l) #[] #[], .pointer (some ⟨Bf, 0, none⟩)] W fun e W' => (∃ v, e = .returned v) ∧
      ((∃ xs : List IB, xs.map (·.1) = (List.range L.length).map (fun (i : Nat) => ((i : Int), L.getD i nought)) ∧ J xs W') ∨ (∃ pre : List IB, pre.map (·.1) <+: (List.range L.length).map (fun (i : Nat) => ((i : Int), L.getD i nought)) ∧ Jx pre W')) := by
  have HY := Lib.hid hY
  have HJ := Lib.hid hJ
  have HS := Lib.hid hs
  have HLT := Lib.hid hlt
  clear hY hJ hs hlt
  refine callsIn_of_wp Try.func71 rfl trivial ?_ rfl
  simp only [Try.ntmps71, List.size_toArray, List.length_cons, List.length_nil, Nat.reduceAdd, Nat.reduceSub, Array.replicate_succ, Array.replicate_zero, List.push_toArray, List.append_toArray, List.nil_append, List.cons_append]
  gi_wp2_with fail
  have hlen : ∀ i, i < L.length → (L.getD i nought).length = 64 := fun i hi => by
    obtain ⟨g, o, _, _, hb⟩ := HS.out (by omega)
    exact (hb i hi).1
  gi_loopw [7] (fun i wr => ∃ r : Nat, r ≤ L.length ∧ i = .int .i64 (r : Int) ∧ J (upto (gI (fun i => L.getD i nought)) r) wr ∧ Hid (∀ k, K0 k → wr.heap[k]? = W.heap[k]?)) (fun i _ => L.length - (intOf i).toNat)
  case atStart => exact ⟨0, Nat.zero_le _, rfl, h0, (fun _ _ => rfl)⟩
  case round =>
    obtain ⟨r, hrn, rfl, hJs, HK⟩ := hrel
    by_cases hlt : r < L.length
    · have h1 : (r : Int) < (L.length : Int) := by omega
      obtain ⟨g, o, rfl, hK, hbk⟩ := HS.out (by omega)
      obtain ⟨x, hx⟩ : ∃ x, x = L.getD r nought := ⟨_, rfl⟩
      have hb := hbk r hlt
      rw [← hx] at hb
      have HB := Lib.hid (range_same hb.2 (HK.out g hK))
      have HX := Lib.hid hb.1
      have HIX : Hid ((Try.prog.info? 89).map (·.size) = some (bv x).length) := (show _ = _ by rw [bv_length, HX.out]; exact size39)
      have HGX := Lib.hid hx
      clear hb hbk hx
      gi_wp2_with (first
        | (with_reducible refine wpListIn_load_mid (op := ⟨some 11, _, _, _, _, _⟩) ?_ 89 (.tmp 10) ?_ g (o + r * 64) ?_ (bv x) _ HB.out Try.underlying89 ?_ HIX.out ?_)
        | (with_reducible refine wpListIn_store_in (op := ⟨none, _, _, _, _, _⟩) ?_ 89 (.tmp 4) (.tmp 11) ?_ wr.heap.size 0 (bv x) ?_ ?_ 89 (bv nought) ?hrow ?hfit bv_one HIX.out ?_))
      case hrow => exact Row.new wr 89 (bv nought)
      case hfit => rw [bv_length, bv_length, HX.out]; exact Nat.le_refl _
      all_goals try (first | rfl | (simp; done))
      intro wa hra hga
      rw [splice_all (bv nought) (bv x) (by rw [bv_length, bv_length, HX.out]; rfl)] at hra
      have hba : Below wr.heap.size wr wa := ((Below.refl wr.heap.size wr).alloc (Nat.le_refl _) _).grown hga (by simp) (fun k hk => by cases hk; exact Nat.le_refl _)
      have hJa : J (upto (gI (fun i => L.getD i nought)) r) wa := HJ.out _ _ _ none hJs (below_grown hba) (fun r e => by cases e)
      have RA := Lib.hid hra
      have HKA : Hid (∀ k, K0 k → wa.heap[k]? = W.heap[k]?) := (fun k hk => (hba.block k (kept_lt (HK.out k hk) (HLT.out k hk))).trans (HK.out k hk))
      clear hra hga
      have hgI := gI_eq (fun i => L.getD i nought) r (by omega) (hlen r hlt)
      obtain ⟨fn, tmps, assign, body, hy, hR⟩ := HY.out _ (gI (fun i => L.getD i nought) r) wa hJa (by rw [upto_len]; exact hlt)
      unfold encI at hy
      rw [hgI] at hy
      rw [← upto_succ] at hR
      dsimp only at hy
      rw [← HGX.out] at hy
      unfold blk at hy
      have HHL := Lib.hid hlen

      clear hgI hJa hJs hba hlen
      gi_wp2_with (first
        | (with_reducible refine wpListIn_load_mid (op := ⟨some 14, _, _, _, _, _⟩) ?_ 89 (.tmp 4) ?_ wr.heap.size 0 ?_ (bv x) _ (Row.all RA.out) Try.underlying89 ?_ HIX.out ?_))
      all_goals try (first | rfl | (simp; done))
      gi_wp2
      refine hR.mono ?_
      rintro e W3 (⟨rfl, hJ3, hk3⟩ | ⟨rfl, hJx3⟩)
      · have HK3 : Hid ((∀ k, K0 k → W3.heap[k]? = W.heap[k]?)) := (fun k hk => (hk3.1 k hk).trans (HKA.out k hk))
        clear hk3 hR hy
        gi_wp2
        go_roundw
        case rel => exact ⟨r + 1, by omega, by go_num, hJ3, HK3.out⟩
        case measure =>
          simp [intOf]
          omega
      · gi_wp2
        refine bodyPost_ret (results_none rfl _ _ _) rfl ?_
        exact ⟨⟨_, rfl⟩, .inr ⟨_, upto_pre (fun i => L.getD i nought) (r + 1) _ (by omega) (by omega) HHL.out, hJx3⟩⟩
    · have h1 : ¬ (r : Int) < (L.length : Int) := by omega
      obtain rfl : r = L.length := by omega
      gi_wp2
      go_end0
      exact ⟨⟨_, rfl⟩, .inl ⟨_, upto_map (fun i => L.getD i nought) _ (by omega) hlen, hJs⟩⟩
end Go.Proofs.Yteemdjamgbbjhaa.Wl

/-
  All that a log writes goes by lay: its contract, over whatever tells sectors.
-/
namespace Go.Proofs.Yteemdjamgbbjhaa.Wl
set_option maxRecDepth 100000
open Go.RowKit Go.Shelf Go.Proofs.Yteemdjamgbbjhaa.Wd Go.Proofs.Yteemdjamgbbjhaa.Dsk Go.Proofs.Yteemdjamgbbjhaa.Oct Go.Proofs.Yteemdjamgbbjhaa.Sum

attribute [local go_sem] Oper.semAt_some

section
variable {P : Program}
/-- in a round an operation runs as it does everywhere, a call too -/
theorem op_in2 {o : Oper} {a : Act} {w : World} {n l : Nat} {K : Act → World → Prop} {Q : Exit → Act → World → Prop} (hd : ∀ c, o.op ≠ .defer c) (h : o.wp P a w K Q) : o.wpIn (Fence.wide.inRound l) n P a w K Q := by
  refine ⟨fun _ _ => trivial, ?_⟩
  rw [Oper.semAt_eq _ _ _ hd]
  unfold Oper.wp at h
  revert h
  generalize (execOp a.eval o).run P w = r
  intro h
  cases r with
  | ok x w' =>
    cases x with
    | value v => exact h
    | skip => exact h
    | «defer» d => exact h
    | enter f args => exact ⟨(fun hh => by cases hh), CallsIn.inRound l (callsIn_wide.2 h)⟩
    | row r args => exact ⟨(fun hh => by cases hh), fun c cs _ => let ⟨v, w', r, s⟩ := h c cs; ⟨v, w', r, stepsIn_wide.2 s⟩⟩
    | _ => exact h.elim
  | halt x w' => cases x <;> exact h
def noDefer : Op → Bool
  | .defer _ => false
  | _ => true
theorem anyIn2 {md : Region.Mode} {ops : Array Oper} {Q : Exit → Act → World → Prop} {n l : Nat} (hd : ∀ (i : Nat) (o : Oper), ops[i]? = some o → ∀ c, o.op ≠ .defer c) (hQ : ¬ LetsOut Q) :
    ∀ (fuel : Nat) (listed : Array Bool) (a : Act) (w : World), wpAny P md ops Q fuel listed a w → wpAnyIn (Fence.wide.inRound l) n P md ops Q fuel listed a w
  | 0, _, _, _, h => h
  | fuel + 1, listed, a, w, h => by
    refine ⟨h.1, fun i hi => ?_⟩
    have h1 := h.2 i hi
    unfold wpOp at h1
    unfold wpOpIn
    cases ho : ops[i]? with
    | none =>
      rw [ho] at h1
      exact anyIn2 hd hQ fuel _ _ _ h1
    | some o =>
      rw [ho] at h1
      simp only at h1 ⊢
      split at h1
      · rename_i hw
        rw [if_pos hw]
        rcases h1 with h1 | h1
        · exact Oper.wpIn_mono (fun a' w' => anyIn2 hd hQ fuel _ a' w') (op_in2 (hd i o ho) h1)
        · exact absurd h1.2 hQ
      · rename_i hw
        rw [if_neg hw]
        exact ⟨fun _ _ => trivial, anyIn2 hd hQ fuel _ _ _ h1⟩
theorem region_in2 {id : Nat} {ops : Array Oper} {Q : Exit → Act → World → Prop} {a : Act} {w : World} {n l : Nat} {S : World → Prop} (hm : P.follows .mixedOrders = true) (hok : (ops.toList.all fun o => noDefer o.op) = true) (hQ : ¬ LetsOut Q)
    (hS : S w.drew) (h : S w.drew → wpAnyH P .any ops Q S ops.size (Array.replicate ops.size false) a w.drew) : (Code.region id ops true).wpIn (Fence.wide.inRound l) n P Q a w := by
  have hall : ∀ (i : Nat) (o : Oper), ops[i]? = some o → ∀ c, o.op ≠ .defer c := fun i o ho c e => by
    have hi := Array.mem_of_getElem? ho
    have := List.all_eq_true.1 hok o (by simpa using hi)
    rw [e] at this
    cases this
  exact wpIn_region_any hm (anyIn2 hall hQ _ _ _ _ (wpAny_of_held _ _ _ _ (h hS)))
end
theorem nq2 (B : Nat) (Kp : World → World → Prop) {α : Type} (I : List α → World → Prop) (Ix : Code → List α → World → Prop) (xs : List α) (W : World) : ¬ LetsOut (ownPostG B Kp I Ix xs W) := fun ⟨_, _, h⟩ => h
/-- sectors are written, each so far behind f as it says -/
def layW : List (Int × List UInt8) → Int → DM → DM × Int
  | [], _, d => (d, 0)
  | p :: ps, f, d => if (d.writeM (f + p.1) p.2).2 ≠ 0 then d.writeM (f + p.1) p.2 else layW ps f (d.writeM (f + p.1) p.2).1
theorem layW_snoc (ps : List (Int × List UInt8)) (p : Int × List UInt8) (f : Int) : ∀ d : DM, (layW ps f d).2 = 0 → layW (ps ++ [p]) f d = (layW ps f d).1.writeM (f + p.1) p.2 := by
  induction ps with
  | nil =>
    intro d _
    show (if _ then _ else _) = _
    split
    · rfl
    · rename_i h
      have h0 : (d.writeM (f + p.1) p.2).2 = 0 := Classical.not_not.1 h
      show ((d.writeM (f + p.1) p.2).1, (0 : Int)) = d.writeM (f + p.1) p.2
      rw [← h0]
  | cons q ps ih =>
    intro d h
    show (if _ then _ else _) = _
    have h2 : layW (q :: ps) f d = if (d.writeM (f + q.1) q.2).2 ≠ 0 then d.writeM (f + q.1) q.2 else layW ps f (d.writeM (f + q.1) q.2).1 := rfl
    split
    · rename_i hn
      rw [h2, if_pos hn] at h
      exact absurd h hn
    · rename_i hn
      rw [h2, if_neg hn] at h ⊢
      exact ih _ h
theorem layW_pre (ps qs : List (Int × List UInt8)) (f : Int) : ∀ d : DM, (layW ps f d).2 ≠ 0 → layW (ps ++ qs) f d = layW ps f d := by
  induction ps with
  | nil => intro d h; exact absurd rfl h
  | cons q ps ih =>
    intro d h
    have h2 : ∀ rs, layW (q :: rs) f d = if (d.writeM (f + q.1) q.2).2 ≠ 0 then d.writeM (f + q.1) q.2 else layW rs f (d.writeM (f + q.1) q.2).1 := fun _ => rfl
    rw [List.cons_append, h2, h2] at *
    split at h
    · rename_i hn; rw [if_pos hn, if_pos hn]
    · rename_i hn; rw [if_neg hn, if_neg hn]; exact ih _ h
def layM (L : List (Int × List UInt8)) (f : Int) (d : DM) : DM × Int := if (layW L f d).2 ≠ 0 then layW L f d else (layW L f d).1.syncM
/-- what broke a log -/
theorem lay1_any (n B6 B3 g dg area turn c used : Nat) (m : Nat) (A : Option Addr) (br : Bool) (err : Int) (u : FrameMode) (w : World) (h6 : Row w B6 24 [.int .i64 err]) (h3 : Row w B3 30 [.pointer (some ⟨g, 0, none⟩)]) (hg : Row w g 83 (wcs dg area turn A m c used br)) :
    CallsDIn Fence.wide n Try.prog 68 #[.pointer (some ⟨B6, 0, none⟩), .pointer (some ⟨B3, 0, none⟩)] u w fun e u' w' => u' = u ∧ (e = .returned (.tuple #[]) ∧ w' = if err ≠ 0 then w.setCell ⟨g, 5, none⟩ (.bool true) else w) := by
  have c6 : w.cell? ⟨B6, 0, none⟩ = some (.int .i64 err) := h6.cell 0
  have c3 : w.cell? ⟨B3, 0, none⟩ = some (.pointer (some ⟨g, 0, none⟩)) := h3.cell 0
  have c5 : w.cell? ⟨g, 5, none⟩ = some (.bool br) := hg.cell 5
  have f5 : w.frozen? ⟨g, 5, none⟩ = false := hg.frozen 5
  by_cases he : err = 0
  · subst he
    rw [if_neg (by simp)]
    refine callsDIn_of_wp Try.func68 rfl trivial ?_ rfl
    simp only [Try.ntmps68, List.size_toArray, List.length_cons, List.length_nil, Nat.reduceAdd, Nat.reduceSub, Array.replicate_succ, Array.replicate_zero, List.push_toArray, List.append_toArray, List.nil_append, List.cons_append]
    gi_wp2
    go_end0
    exact ⟨rfl, rfl⟩
  · rw [if_pos he]
    refine callsDIn_of_wp Try.func68 rfl trivial ?_ rfl
    simp only [Try.ntmps68, List.size_toArray, List.length_cons, List.length_nil, Nat.reduceAdd, Nat.reduceSub, Array.replicate_succ, Array.replicate_zero, List.push_toArray, List.append_toArray, List.nil_append, List.cons_append]
    gi_wp2
    go_end0
    exact ⟨rfl, rfl⟩
end Go.Proofs.Yteemdjamgbbjhaa.Wl

/-
  lay, by its contract.
-/
namespace Go.Proofs.Yteemdjamgbbjhaa.Wl
set_option maxRecDepth 100000
open Go.RowKit Go.Shelf Go.Proofs.Yteemdjamgbbjhaa.Wd Go.Proofs.Yteemdjamgbbjhaa.Dsk Go.Proofs.Yteemdjamgbbjhaa.Oct Go.Proofs.Yteemdjamgbbjhaa.Sum

attribute [local go_sem] Oper.semAt_some

theorem write_pend (d : DM) (i : Int) (b : List UInt8) : (d.writeM i b).1.pend.length ≤ d.pend.length + 1 := by
  unfold DM.writeM
  split
  · show ((d.pre i true).1.pend ++ [_]).length ≤ _
    rw [pre_pend]; simp
  · rw [pre_pend]; omega
theorem row_kept {W W' : World} {g : Nat} {t : TypeId} {cs : List Value} {row : Option Nat} (h : Row W g t cs) (hg : W.grownBy W' row) (hr : ∀ r, row = some r → ∃ o : Obj, W.heap[r]? = some o ∧ o.isCells = false) : Row W' g t cs :=
  h.grown hg (fun e => by
    obtain ⟨o, ho, hc⟩ := hr g e.symm
    rw [show W.heap[g]? = _ from h] at ho
    cases ho
    cases hc)
theorem dskAt_kept {F : Nat → Prop} {g gs c : Nat} {A : Option Addr} {d : DM} {W W' : World} {row : Option Nat} (h : DskAt W F g gs A c d) (hg : W.grownBy W' row) (hr : ∀ r, row = some r → ∃ o : Obj, W.heap[r]? = some o ∧ o.isCells = false) : DskAt W' F g gs A c d := by
  refine ⟨h.fg, h.fs, h.ne, h.own, row_kept h.row hg hr, row_kept h.secs hg hr, ?_, h.good⟩
  rcases h.pend with ⟨hl, hv | ⟨gp, cap, cur, hv, hb, hgp, hrest⟩⟩
  · exact ⟨hl, .inl hv⟩
  · refine ⟨hl, .inr ⟨gp, cap, cur, hv, hb, ?_, hrest⟩⟩
    have h0 : Row W gp 121 cur.toList := by show _ = _; simpa using hgp
    have h2 : W'.heap[gp]? = _ := row_kept h0 hg hr
    simpa using h2
theorem disk_drew {F : Nat → Prop} {g : Nat} {d : DM} {W : World} (h : Disk W F g d) : Disk W.drew F g d := by
  obtain ⟨⟨gs, A, c, h1⟩, h2⟩ := h
  exact ⟨⟨gs, A, c, ⟨h1.fg, h1.fs, h1.ne, h1.own, h1.row, h1.secs, h1.pend, h1.good⟩⟩, h2⟩
theorem disk_kept {F : Nat → Prop} {g : Nat} {d : DM} {W W' : World} {row : Option Nat} (h : Disk W F g d) (hg : W.grownBy W' row) (hr : ∀ r, row = some r → ∃ o : Obj, W.heap[r]? = some o ∧ o.isCells = false) : Disk W' F g d := by
  obtain ⟨⟨gs, A, c, h1⟩, h2⟩ := h
  exact ⟨⟨gs, A, c, dskAt_kept h1 hg hr⟩, fun k hk => Nat.lt_of_lt_of_le (h2 k hk) hg.size⟩
/-- the disk's own blocks, no more -/
theorem disk_min {F : Nat → Prop} {g : Nat} {d : DM} {W : World} (h : Disk W F g d) : ∃ Fm : Nat → Prop, Disk W Fm g d ∧ (∀ k, Fm k → F k) ∧ ∀ k o, Fm k → W.heap[k]? = some o → o.isCells = true := by
  obtain ⟨⟨gs, A, c, hda⟩, hlt⟩ := h
  have hF : ∀ k, (k = g ∨ k = gs ∨ (Value.slice A d.pend.length c).ownBlock = some k) → F k := fun k hk => by
    rcases hk with rfl | rfl | hk
    · exact hda.fg
    · exact hda.fs
    · exact (hda.own k hk).1
  refine ⟨fun k => k = g ∨ k = gs ∨ (Value.slice A d.pend.length c).ownBlock = some k, ⟨⟨gs, A, c, .inl rfl, .inr (.inl rfl), hda.ne, fun k hk => ⟨.inr (.inr hk), (hda.own k hk).2⟩, hda.row, hda.secs, hda.pend, hda.good⟩, fun k hk => hlt k (hF k hk)⟩, hF, fun k o hk ho => ?_⟩
  rcases hk with rfl | rfl | hk
  · rw [show W.heap[k]? = _ from hda.row] at ho; cases ho; rfl
  · rw [show W.heap[k]? = _ from hda.secs] at ho; cases ho; rfl
  · rcases hda.pend with ⟨_, hv | ⟨gp, cap, cur, hv, _, hgp, _⟩⟩
    · rw [hv.1] at hk; cases hk
    · rw [hv] at hk
      cases hk
      rw [hgp] at ho; cases ho; rfl
/-- two rows in one block are of one type -/
theorem row_type {W : World} {k : Nat} {t t' : TypeId} {cs cs' : List Value} (h : Row W k t cs) (h' : Row W k t' cs') : t = t' := by
  have e := (show W.heap[k]? = _ from h).symm.trans h'
  cases e
  rfl
theorem row_cells {W : World} {k : Nat} {t t' : TypeId} {cs cs' : List Value} (h : Row W k t cs) (h' : Row W k t' cs') : cs = cs' := by
  have e := (show W.heap[k]? = _ from h).symm.trans h'
  have := congrArg (fun o => match o with | some (Obj.cells a _ _) => a.toList | _ => []) e
  simpa using this
abbrev prs (l : List IB) : List (Int × List UInt8) := l.map (·.1)
/-- what the rounds of lay hold: the disk behind what was written, lay's boxes -/
structure LI (w1 : World) (F : Nat → Prop) (dg B : Nat) (g : Nat) (f : Nat) (err : Int) (d : DM) (W : World) : Prop where
  dsk : ∃ F', Disk W F' dg d ∧ (∀ k, F' k → F k ∨ w1.heap.size ≤ k) ∧ Off (fun k => F k ∨ k = B + 2) w1 W
  b3 : Row W B 30 [.pointer (some ⟨g, 0, none⟩)]
  b4 : Row W (B + 1) 3 [.int .i64 (f : Int)]
  b6 : Row W (B + 2) 24 [.int .i64 err]
  sz : w1.heap.size ≤ W.heap.size
theorem LI.own {w1 : World} {F : Nat → Prop} {dg B g f : Nat} {err : Int} {d : DM} {W W' : World} {row : Option Nat} (h : LI w1 F dg B g f err d W) (hg : W.grownBy W' row) (hr : ∀ r, row = some r → w1.heap.size ≤ r ∧ ∃ o : Obj, W.heap[r]? = some o ∧ o.isCells = false) : LI w1 F dg B g f err d W' := by
  obtain ⟨⟨F', h1, h2, h3⟩, b3, b4, b6, sz⟩ := h
  have hr' := fun r e => (hr r e).2
  exact ⟨⟨F', disk_kept h1 hg hr', h2, h3.grown hg (fun r e => .inr (hr r e).1)⟩, row_kept b3 hg hr', row_kept b4 hg hr', row_kept b6 hg hr', Nat.le_trans sz hg.size⟩
theorem LI.below {w1 : World} {F : Nat → Prop} {dg B g f : Nat} {err : Int} {d : DM} {W W' : World} (h : LI w1 F dg B g f err d W) (hb : Below W.heap.size W W') : LI w1 F dg B g f err d W' := by
  obtain ⟨⟨F', h1, h2, h3⟩, b3, b4, b6, sz⟩ := h
  exact ⟨⟨F', h1.below hb, h2, ⟨hb.os.trans h3.os, hb.tape.trans h3.tape, hb.output.trans h3.output, Nat.le_trans h3.size hb.size, fun k hk hn => (hb.block k (Nat.lt_of_lt_of_le hk h3.size)).trans (h3.block k hk hn)⟩⟩, b3.below hb b3.lt, b4.below hb b4.lt, b6.below hb b6.lt, Nat.le_trans sz hb.size⟩
theorem LI.store6 {w1 : World} {F : Nat → Prop} {dg B g f : Nat} {err : Int} {d : DM} {W : World} (h : LI w1 F dg B g f err d W) (hB : B + 2 < w1.heap.size) (hF : ∀ k, F k → k < B) (e2 : Int) : LI w1 F dg B g f e2 d (W.setCell ⟨B + 2, 0, none⟩ (.int .i64 e2)) := by
  obtain ⟨⟨F', h1, h2, h3⟩, b3, b4, b6, sz⟩ := h
  have hn : ∀ k, F' k → k ≠ B + 2 := fun k hk e => by
    rcases h2 k hk with h | h
    · have := hF k h; omega
    · omega
  refine ⟨⟨F', h1.off (F' := fun k => k = B + 2) hn ((Off.refl (fun k => k = B + 2) W).setCell (.inl rfl) _), h2, h3.setCell (.inl (.inr rfl)) _⟩, Row.far b3 (p := ⟨B + 2, 0, none⟩) (by show B ≠ B + 2; omega) _, Row.far b4 (p := ⟨B + 2, 0, none⟩) (by show B + 1 ≠ B + 2; omega) _, Row.store b6 0 _, by simpa [World.setCell] using sz⟩
/-- lay's end: the mark is taken, what broke the log is told, the result is read -/
theorem lay_end {g dg area turn m c used f : Nat} {A : Option Addr} {br : Bool} {err : Int} {dd : DM} {F : Nat → Prop} {w w1 W : World} {D : Nat} {tmps : Array Value}
    (hw : Row w g 83 (wcs dg area turn A m c used br)) (hgF : ¬ F g) (hlow : ∀ k, F k → k < w.heap.size) (hb1 : Below w.heap.size w w1) (hs1 : w1.heap.size = w.heap.size + 3) (hLI : LI w1 F dg w.heap.size g f err dd W) (hD : w1.heap.size ≤ D) (hK : W.heap[D]? = some (.deferred (some []))) (ht : tmps.getD 6 undef = .pointer (some ⟨w.heap.size + 2, 0, none⟩)) :
    LeavesInM Fence.wide 9 Try.prog Try.f45 tmps (fun e w' => e = .returned (.int .i64 err) ∧ ∃ F', Disk w' F' dg dd ∧ Ext F F' w w' ∧ Off (fun k => F k ∨ k = g) w w' ∧ Row w' g 83 (wcs dg area turn A m c used (br || decide (err ≠ 0))) ∧ ¬ F' g)
      [{ target := .collected D, args := #[] }, { target := .fn (.func 68) #[.pointer (some ⟨w.heap.size + 1 + 1, 0, none⟩), .pointer (some ⟨w.heap.size, 0, none⟩)], args := #[] }] .returning W := by
  refine ⟨by simp, .inl ⟨_, _, rfl, run_takeDeferred hK, ?_⟩⟩
  have hgp := grownBy_putObj' W D (.deferred none)
  obtain ⟨W1, hW1⟩ : ∃ W1, W.putObj D (.deferred none) = W1 := ⟨_, rfl⟩
  rw [hW1] at hgp
  have hL1 : LI w1 F dg w.heap.size g f err dd W1 := hLI.own hgp (fun r e => by cases e; exact ⟨hD, _, hK, rfl⟩)
  rw [hW1]
  clear hW1 hgp hK hLI
  obtain ⟨⟨F', hdk, hF', hoff⟩, b3, b4, b6, hsz⟩ := hL1
  have hgl := hw.lt
  have hrg : Row W1 g 83 (wcs dg area turn A m c used br) := ((hoff.block g (by omega) (fun h => h.elim hgF (fun e => by omega))).trans (hb1.block g hgl)).trans hw
  have hF'g : ¬ F' g := fun hk => by
    rcases hF' g hk with h | h
    · exact hgF h
    · omega
  refine ⟨by simp, .inr ⟨(fun h => by cases h), _, _, 68, #[.pointer (some ⟨w.heap.size + 1 + 1, 0, none⟩), .pointer (some ⟨w.heap.size, 0, none⟩)], rfl, by simp [invoke, go_sem], fun _ _ => trivial, ?_⟩⟩
  refine (lay1_any 8 (w.heap.size + 2) w.heap.size g dg area turn c used m A br err .returning W1 b6 b3 hrg).mono ?_
  rintro e u' w' ⟨rfl, rfl, hw'⟩
  show ∃ v, (results _ tmps).run Try.prog w' = .ok v w' ∧ _
  have hext : Ext F F' w w' := fun k hk => by
    rcases hF' k hk with h | h
    · exact .inl h
    · refine .inr ⟨by omega, ?_⟩
      have := hdk.2 k hk
      rw [hw']
      split
      · simpa [World.setCell] using this
      · exact this
  by_cases he : err = 0
  · subst he
    rw [if_neg (by simp)] at hw'
    subst hw'
    have c6 : w'.cell? ⟨w.heap.size + 2, 0, none⟩ = some (.int .i64 0) := b6.cell 0
    have hl : (loadVar 24 ⟨w.heap.size + 2, 0, none⟩).run Try.prog w' = .ok (.int .i64 0) w' := by go_simp
    refine ⟨_, results_cell (p := 6) (ty := 24) rfl _ _ _ _ ht hl, rfl, F', hdk, hext, ?_, ?_, hF'g⟩
    · exact ⟨hoff.os.trans hb1.os, hoff.tape.trans hb1.tape, hoff.output.trans hb1.output, Nat.le_trans hb1.size hoff.size, fun k hk hn => (hoff.block k (by omega) (fun h => h.elim (fun h => hn (.inl h)) (fun e => by omega))).trans (hb1.block k hk)⟩
    · simpa using hrg
  · rw [if_pos he] at hw'
    subst hw'
    have c6 : (W1.setCell ⟨g, 5, none⟩ (.bool true)).cell? ⟨w.heap.size + 2, 0, none⟩ = some (.int .i64 err) := (Row.far b6 (p := ⟨g, 5, none⟩) (by show w.heap.size + 2 ≠ g; omega) _).cell 0
    have hl : (loadVar 24 ⟨w.heap.size + 2, 0, none⟩).run Try.prog (W1.setCell ⟨g, 5, none⟩ (.bool true)) = .ok (.int .i64 err) (W1.setCell ⟨g, 5, none⟩ (.bool true)) := by go_simp
    refine ⟨_, results_cell (p := 6) (ty := 24) rfl _ _ _ _ ht hl, rfl, F', ?_, hext, ?_, ?_, hF'g⟩
    · exact hdk.off (F' := fun k => k = g) (fun k hk e => hF'g (e ▸ hk)) ((Off.refl (fun k => k = g) W1).setCell (.inl rfl) _)
    · have ho : Off (fun k => F k ∨ k = g) w W1 := ⟨hoff.os.trans hb1.os, hoff.tape.trans hb1.tape, hoff.output.trans hb1.output, Nat.le_trans hb1.size hoff.size, fun k hk hn => (hoff.block k (by omega) (fun h => h.elim (fun h => hn (.inl h)) (fun e => by omega))).trans (hb1.block k hk)⟩
      exact ho.setCell (.inl (.inr rfl)) _
    · have := Row.store hrg 5 (.bool true)
      rw [show (br || decide (err ≠ 0)) = true by simp [he]]
      exact this
/-- what an assignment of the loop lays: the block in a block of its own, which is no disk's -/
def LA (w1 : World) (dg : Nat) (T : Nat → Value → Value → Array Value) (x : IB) (a' : Act) (W : World) : Prop :=
  ∃ b8 gs n cs, w1.heap.size ≤ b8 ∧ Row W b8 89 (bv x.1.2) ∧ Row W dg 77 cs ∧ cs[0]? = some (.slice (some ⟨gs, 0, none⟩) n n) ∧ gs ≠ b8 ∧ a' = { tmps := T b8 (.int .i64 x.1.1) (.agg (bv x.1.2).toArray), defers := [] }
set_option maxHeartbeats 8000000 in
theorem lay_any (g dg area turn m c used : Nat) (A : Option Addr) (br : Bool) (f : Nat) (gf : FuncId) (lb : Array Value) (L : List (Int × List UInt8)) (d : DM) (F : Nat → Prop) (w : World)
    (hw : Row w g 83 (wcs dg area turn A m c used br)) (hgF : ¬ F g) (hd : Disk w F dg d) (hp : d.pend.length + L.length ≤ 1000000) (hf : f ≤ 10000)
    (heg : ∀ args w, (callFunc gf args).run Try.prog w = .ok (.enter gf args) w)
    (hseq : ∀ w1, Below w.heap.size w w1 → SeqStopsK Fence.wide 8 Try.prog gf lb encI (KT (fun k => k < w.heap.size ∧ ¬ F k)) (fun xs => xs.map (·.1) = L) (fun pre => pre.map (·.1) <+: L) L.length w1) :
    Calls Try.prog 45 #[.pointer (some ⟨g, 0, none⟩), .int .i64 (f : Int), .func (.func gf) #[] lb] w fun e w' => e = .returned (.int .i64 (layM L f d).2) ∧
      ∃ F', Disk w' F' dg (layM L f d).1 ∧ Ext F F' w w' ∧ Off (fun k => F k ∨ k = g) w w' ∧ Row w' g 83 (wcs dg area turn A m c used (br || decide ((layM L f d).2 ≠ 0))) ∧ ¬ F' g := by
  have hlow := hd.2
  have HD := Lib.hid hd
  have HW := Lib.hid hw
  have HSEQ := Lib.hid hseq
  have HEG := Lib.hid heg
  have HLOW := Lib.hid hlow
  have hgl := hw.lt
  clear hd hw hseq heg hlow
  refine (callsIn_wide (n := 9)).1 ?_
  refine callsIn_of_wp_marks Try.func45 rfl trivial ?_ rfl
  refine wpIn_wide.2 ?_
  simp only [Try.ntmps45, List.size_toArray, List.length_cons, List.length_nil, Nat.reduceAdd, Nat.reduceSub, Array.replicate_succ, Array.replicate_zero, List.push_toArray, List.append_toArray, List.nil_append, List.cons_append]
  go_wp2_with fail
  refine nw fun w1 hw1 => ?_
  have hb1 : Below w.heap.size w w1 := by
    rw [← hw1]
    exact (((Below.refl _ _).alloc (Nat.le_refl _) _).alloc (by simp) _).alloc (by simp; omega) _
  have hs1 : w1.heap.size = w.heap.size + 3 := by rw [← hw1]; simp
  have hr3 : Row w1 w.heap.size 30 [.pointer (some ⟨g, 0, none⟩)] := by rw [← hw1]; exact ((Row.new w _ _).alloc _).alloc _
  have hr4 : Row w1 (w.heap.size + 1) 3 [.int .i64 (f : Int)] := by
    rw [← hw1]
    have := Row.new (w.alloc (.cells #[.pointer (some ⟨g, 0, none⟩)] 30)) 3 [.int .i64 (f : Int)]
    rw [World.size_alloc] at this
    exact this.alloc _
  have hr6 : Row w1 (w.heap.size + 2) 24 [.int .i64 0] := by
    rw [← hw1]
    have := Row.new ((w.alloc (.cells #[.pointer (some ⟨g, 0, none⟩)] 30)).alloc (.cells #[.int .i64 (f : Int)] 3)) 24 [.int .i64 0]
    rw [World.size_alloc, World.size_alloc] at this
    exact this
  clear hw1
  have hL0 : LI w1 F dg w.heap.size g f 0 d w1 := ⟨⟨F, HD.out.below hb1, fun k hk => .inl hk, Off.refl _ _⟩, hr3, hr4, hr6, Nat.le_refl _⟩
  have HB1 := Lib.hid hb1
  have HS1 := Lib.hid hs1
  clear hb1 hr3 hr4 hr6
  refine (wpIn_wide (n := 9)).1 ?_
  refine wpIn_rangeFunc_ownH (F := Fence.wide) (n := 9) rfl (by omega) (gf := gf) (lb := lb) rfl trivial HEG.out
    (encs := encI) (Kp := KT (fun k => k < w.heap.size ∧ ¬ F k)) (S := fun xs => xs.map (·.1) = L) (Sp := fun pre => pre.map (·.1) <+: L) (N := L.length) (w0 := w1) (HSEQ.out w1 HB1.out) (fun h k => h.trans k) ?hKb (Below.refl _ _) (fun _ => rfl)
    (fun pre W => LI w1 F dg w.heap.size g f 0 (layW (prs pre) f d).1 W ∧ (layW (prs pre) f d).2 = 0 ∧ (layW (prs pre) f d).1.pend.length ≤ d.pend.length + pre.length)
    (fun cd pre W => cd = .ret ∧ LI w1 F dg w.heap.size g f (layW (prs pre) f d).2 (layW (prs pre) f d).1 W ∧ (layW (prs pre) f d).2 ≠ 0)
    (fun s X Y row hs hg hr => ⟨LI.own hs.1 hg hr, hs.2⟩) (fun cd s X Y row hs hg hr => ⟨hs.1, LI.own hs.2.1 hg hr, hs.2.2⟩) ⟨hL0, rfl, Nat.le_refl _⟩
    (LA w1 dg (fun b8 v11 v12 => #[.pointer (some ⟨g, 0, none⟩), .int .i64 (f : Int), .func (.func gf) #[] lb, .pointer (some ⟨w.heap.size, 0, none⟩), .pointer (some ⟨w.heap.size + 1, 0, none⟩), undef, .pointer (some ⟨w.heap.size + 1 + 1, 0, none⟩), v11, .pointer (some ⟨b8, 0, none⟩), .func (.func 68) #[] #[.pointer (some ⟨w.heap.size + 1 + 1, 0, none⟩), .pointer (some ⟨w.heap.size, 0, none⟩)], .func (.func gf) #[] lb, v11, v12, undef, undef, undef, undef, undef, undef, undef, undef, undef, undef, undef, undef, undef, undef, undef, undef, undef])) ?hAx ?assign ?body ?done ?stop
  case hKb =>
    intro W l o o' hl ho hc _
    refine ⟨fun k hk => World.putObj_heap_other (by have := hk.1; have := HB1.out.size; omega), fun k cs t _ hr => ?_⟩
    have hne : k ≠ l := fun e => by
      subst e
      rw [show W.heap[k]? = _ from hr] at ho
      cases ho
      cases hc
    exact (World.putObj_heap_other hne).trans hr
  case hAx =>
    rintro x a' _ X Y row ⟨b8, gs, n, cs, n1, r8, rd, hc, hne, e⟩ hg hr
    exact ⟨b8, gs, n, cs, n1, row_kept r8 hg (fun q e => (hr q e).2), row_kept rd hg (fun q e => (hr q e).2), hc, hne, e⟩
  case assign =>
    intro l pre x W K hI hK
    have hx64 := x.2.2.2
    have HRN := Lib.hid (Row.new W 89 (bv nought))
    have HFT : Hid (0 + (bv x.1.2).length ≤ (bv nought).length) := (show _ ≤ _ by rw [bv_length, bv_length, hx64]; exact Nat.le_refl _)
    have HSZ : Hid ((Try.prog.info? 89).map (·.size) = some (bv x.1.2).length) := (show _ = _ by rw [bv_length, hx64]; exact size39)
    have HI := Lib.hid hI
    unfold encI blk
    clear hI
    gi_wp2_with (first
      | (with_reducible refine wpListIn_store_in (op := ⟨none, _, _, _, _, _⟩) ?_ 89 (.tmp 8) (.tmp 12) ?_ W.heap.size 0 (bv x.1.2) ?_ ?_ 89 (bv nought) ?_ HFT.out bv_one HSZ.out ?_))
    all_goals try (first | rfl | exact HRN.out)
    intro W3 hr3 hg3
    rw [splice_all (bv nought) (bv x.1.2) (by rw [bv_length, bv_length, hx64]; rfl)] at hr3
    have hb3 : Below W.heap.size W W3 := ((Below.refl _ _).alloc (Nat.le_refl _) _).grown hg3 (by simp) (fun j e => Nat.le_of_eq (Option.some.inj e))
    have hI := HI.out
    obtain ⟨⟨F', ⟨⟨gs, A', c', hda⟩, hlt'⟩, _⟩, _, _, _, hsz⟩ := hI.1
    refine hK _ W3 ⟨hb3.size, fun k o _ hk _ => (hb3.block k (Array.getElem?_eq_some_iff.1 hk).1).trans hk⟩ ⟨fun k hk => hb3.block k (Nat.lt_of_lt_of_le hk.1 (Nat.le_trans HB1.out.size hsz)), fun k cs t _ hr => hr.below hb3 hr.lt⟩ ⟨LI.below HI.out.1 hb3, HI.out.2⟩ ⟨W.heap.size, gs, _, _, hsz, hr3, hda.row.below hb3 hda.row.lt, rfl, by have := hlt' gs hda.fs; omega, rfl⟩
  case body =>
    rintro l pre x a' W hl ⟨rr, hrr⟩ hI ⟨b8, gs, n8, cs8, n1, r8, rd, hc8, hne8, rfl⟩ hlt
    obtain ⟨hLI, hz, hpl⟩ := hI
    obtain ⟨⟨ix, xb⟩, hx0, hx1, hx64⟩ := x
    obtain ⟨⟨F', hdsk, hF', hoff⟩, b3, b4, b6, hsz⟩ := hLI
    obtain ⟨⟨gs', A', c', hda⟩, hlt'⟩ := hdsk
    obtain ⟨d', hd'⟩ : ∃ d', d' = (layW (prs pre) f d).1 := ⟨_, rfl⟩
    rw [← hd'] at hda hpl
    obtain rfl : gs' = gs := by
      have e := row_cells hda.row rd
      rw [← e] at hc8
      cases hc8
      rfl
    have hrg : Row W g 83 (wcs dg area turn A m c used br) := ((hoff.block g (by have := HB1.out.size; omega) (fun h => h.elim hgF (fun e => by omega))).trans (HB1.out.block g hgl)).trans HW.out
    -- the disk's own blocks, no more
    obtain ⟨Fm, hFm⟩ : ∃ Fm : Nat → Prop, ∀ k, Fm k ↔ k = dg ∨ k = gs' ∨ (Value.slice A' d'.pend.length c').ownBlock = some k := ⟨fun k => k = dg ∨ k = gs' ∨ (Value.slice A' d'.pend.length c').ownBlock = some k, fun k => Iff.rfl⟩
    have hFmF : ∀ k, Fm k → F' k := fun k hk => by
      rcases (hFm k).1 hk with rfl | rfl | hk
      · exact hda.fg
      · exact hda.fs
      · exact (hda.own k hk).1
    have hty : ∀ k t cs, Row W k t cs → Fm k → k = gs' ∨ t = 77 ∨ t = 121 := fun k t cs hr hk => by
      rcases (hFm k).1 hk with rfl | rfl | hk
      · exact .inr (.inl (row_type hr hda.row))
      · exact .inl rfl
      · rcases hda.pend with ⟨_, hv | ⟨gp, cap, cur, hv, _, hgp, _⟩⟩
        · rw [hv.1] at hk; cases hk
        · rw [hv] at hk
          cases hk
          have h0 : Row W gp 121 cur.toList := by show _ = _; simpa using hgp
          exact .inr (.inr (row_type hr h0))
    have hty2 : ∀ k t cs, Row W k t cs → t ≠ 77 → t ≠ 121 → t ≠ 89 → ¬ Fm k := fun k t cs hr h1 h2 h3 hk => by
      rcases hty k t cs hr hk with rfl | e | e
      · exact h3 (row_type hr hda.secs)
      · exact h1 e
      · exact h2 e
    have hcl : ∀ k o, Fm k → W.heap[k]? = some o → o.isCells = true := fun k o hk ho => by
      rcases (hFm k).1 hk with rfl | rfl | hk
      · rw [show W.heap[k]? = _ from hda.row] at ho; cases ho; rfl
      · rw [show W.heap[k]? = _ from hda.secs] at ho; cases ho; rfl
      · rcases hda.pend with ⟨_, hv | ⟨gp, cap, cur, hv, _, hgp, _⟩⟩
        · rw [hv.1] at hk; cases hk
        · rw [hv] at hk
          cases hk
          rw [hgp] at ho; cases ho; rfl
    have hdm : Disk W Fm dg d' := ⟨⟨gs', A', c', (hFm _).2 (.inl rfl), (hFm _).2 (.inr (.inl rfl)), hda.ne, fun k hk => ⟨(hFm _).2 (.inr (.inr hk)), (hda.own k hk).2⟩, hda.row, hda.secs, hda.pend, hda.good⟩, fun k hk => hlt' k (hFmF k hk)⟩
    have nb3 := hty2 _ _ _ b3 (by decide) (by decide) (by decide)
    have nb4 := hty2 _ _ _ b4 (by decide) (by decide) (by decide)
    have nb6 := hty2 _ _ _ b6 (by decide) (by decide) (by decide)
    have nbg := hty2 _ _ _ hrg (by decide) (by decide) (by decide)
    have nb8 : ¬ Fm b8 := fun hk => by
      rcases hty _ _ _ r8 hk with e | e | e
      · exact hne8 e.symm
      · exact absurd e (by decide)
      · exact absurd e (by decide)
    have HWR := Lib.hid (write_any dg d' Fm (f + ix) xb W.drew (disk_drew hdm) hx64 (by omega))
    have hwr : wrap64 ((f : Int) + ix) = f + ix := by unfold wrap64; dsimp only at hx0 hx1; omega
    have HIX : Hid ((Try.prog.info? 89).map (·.size) = some (bv xb).length) := (show _ = _ by rw [bv_length]; dsimp only at hx64; rw [hx64]; exact size39)
    have R3 := Lib.hid b3
    have R4 := Lib.hid b4
    have R6 := Lib.hid b6
    have R8 := Lib.hid r8
    have RG := Lib.hid hrg
    have hwr2 : IntKind.i64.wrap ((f : Int) + ix) = f + ix := by rw [IntKind.wrap_i64]; dsimp only at hx0 hx1; omega
    have HDA := Lib.hid hda
    have HOF := Lib.hid hoff
    have HN1 : Hid (w1.heap.size ≤ b8) := n1
    have HSZ : Hid (w1.heap.size ≤ W.heap.size) := hsz
    clear n1 hsz
    have HFF := Lib.hid hF'
    have HLT := Lib.hid hlt'
    have HFMF := Lib.hid hFmF
    have HCL := Lib.hid hcl
    have HN3 := Lib.hid nb3
    have HN4 := Lib.hid nb4
    have HN6 := Lib.hid nb6
    have HN8 := Lib.hid nb8
    have HNG := Lib.hid nbg
    have HTY := Lib.hid hty
    have HDE := Lib.hid hd'
    have HZ := Lib.hid hz
    have HPL := Lib.hid hpl
    have HX6 : Hid (xb.length = 64) := Lib.hid hx64
    have HX01 : Hid (0 ≤ ix ∧ ix ≤ 100000) := Lib.hid ⟨hx0, hx1⟩
    have HRR := Lib.hid hrr
    have HRD := Lib.hid rd
    clear hda hoff hF' hlt' hFmF hcl nb3 nb4 nb6 nb8 nbg hty hty2 hFm hdm hd' hz hpl hrr rd hc8 b3 b4 b6 hrg hL0
    gi_wp2_with fail
    refine region_in2 (S := fun w' : World => Row w' w.heap.size 30 [.pointer (some ⟨g, 0, none⟩)] ∧ Row w' g 83 (wcs dg area turn A m c used br) ∧ Row w' (w.heap.size + 1) 3 [.int .i64 (f : Int)] ∧ Row w' b8 89 (bv xb)) (by kernel_rfl) (by rfl) (by rintro ⟨_, _, h⟩; exact h) ⟨R3.out, RG.out, R4.out, R8.out⟩ (fun hHeld => ?_)
    refine wpAnyH_take (i := 0) (oi := ⟨some 13, _, _, _, _, _⟩) (v := ?v0) rfl (by kernel_rfl) (by kernel_rfl) (by kernel_rfl) (fun _ _ _ h => h) (Or.inl ⟨by rfl, ?y0⟩) hHeld ?r0
    case y0 =>
      rintro w' ⟨q0, q1, q2, q3⟩
      have e0 : w'.cell? ⟨w.heap.size, 0, none⟩ = some (.pointer (some ⟨g, 0, none⟩)) := q0.cell 0
      go_simp
      try with_reducible rfl
    try simp only [Act.put, List.setIfInBounds_toArray, List.set_cons_zero, List.set_cons_succ]
    refine wpAnyH_take (i := 1) (oi := ⟨some 14, _, _, _, _, _⟩) (v := ?v1) rfl (by kernel_rfl) (by kernel_rfl) (by kernel_rfl) (fun _ _ _ h => h) (Or.inl ⟨by rfl, ?y1⟩) hHeld ?r1
    case y1 =>
      rintro w' ⟨q0, q1, q2, q3⟩
      go_simp
      try with_reducible rfl
    try simp only [Act.put, List.setIfInBounds_toArray, List.set_cons_zero, List.set_cons_succ]
    refine wpAnyH_take (i := 2) (oi := ⟨some 15, _, _, _, _, _⟩) (v := ?v2) rfl (by kernel_rfl) (by kernel_rfl) (by kernel_rfl) (fun _ _ _ h => h) (Or.inl ⟨by rfl, ?y2⟩) hHeld ?r2
    case y2 =>
      rintro w' ⟨q0, q1, q2, q3⟩
      go_simp
      try with_reducible rfl
    try simp only [Act.put, List.setIfInBounds_toArray, List.set_cons_zero, List.set_cons_succ]
    refine wpAnyH_take (i := 3) (oi := ⟨some 16, _, _, _, _, _⟩) (v := ?v3) rfl (by kernel_rfl) (by kernel_rfl) (by kernel_rfl) (fun _ _ _ h => h) (Or.inl ⟨by rfl, ?y3⟩) hHeld ?r3
    case y3 =>
      rintro w' ⟨q0, q1, q2, q3⟩
      have e1 : w'.cell? ⟨g, 0, none⟩ = some (.pointer (some ⟨dg, 0, none⟩)) := q1.cell 0
      go_simp
      try with_reducible rfl
    try simp only [Act.put, List.setIfInBounds_toArray, List.set_cons_zero, List.set_cons_succ]
    refine wpAnyH_take (i := 4) (oi := ⟨some 17, _, _, _, _, _⟩) (v := ?v4) rfl (by kernel_rfl) (by kernel_rfl) (by kernel_rfl) (fun _ _ _ h => h) (Or.inl ⟨by rfl, ?y4⟩) hHeld ?r4
    case y4 =>
      rintro w' ⟨q0, q1, q2, q3⟩
      have e2 : w'.cell? ⟨w.heap.size + 1, 0, none⟩ = some (.int .i64 (f : Int)) := q2.cell 0
      go_simp
      try with_reducible rfl
    try simp only [Act.put, List.setIfInBounds_toArray, List.set_cons_zero, List.set_cons_succ]
    refine wpAnyH_take (i := 5) (oi := ⟨some 18, _, _, _, _, _⟩) (v := ?v5) rfl (by kernel_rfl) (by kernel_rfl) (by kernel_rfl) (fun _ _ _ h => h) (Or.inl ⟨by rfl, ?y5⟩) hHeld ?r5
    case y5 =>
      rintro w' ⟨q0, q1, q2, q3⟩
      go_simp
      try with_reducible rfl
    try simp only [Act.put, List.setIfInBounds_toArray, List.set_cons_zero, List.set_cons_succ]
    refine wpAnyH_take (i := 6) (oi := ⟨some 19, _, _, _, _, _⟩) (v := ?v6) rfl (by kernel_rfl) (by kernel_rfl) (by kernel_rfl) (fun _ _ _ h => h) (Or.inl ⟨by rfl, ?y6⟩) hHeld ?r6
    case y6 =>
      rintro w' ⟨q0, q1, q2, q3⟩
      go_simp
      try with_reducible rfl
    try simp only [Act.put, List.setIfInBounds_toArray, List.set_cons_zero, List.set_cons_succ]
    refine wpAnyH_take (i := 7) (oi := ⟨some 20, _, _, _, _, _⟩) rfl (by kernel_rfl) (by kernel_rfl) (by kernel_rfl) (fun _ _ _ h => h) (yieldsIf_load_mid (by rfl) 89 (.tmp 8) rfl b8 0 ?x7 (bv xb) _ (fun _ hS => Row.all hS.2.2.2) Try.underlying89 rfl HIX.out) hHeld ?r7
    case x7 => first | rfl | (simp [Act.eval, go_sem]; done)
    try simp only [Act.put, List.setIfInBounds_toArray, List.set_cons_zero, List.set_cons_succ]
    refine wpAnyH_ready (rs := [8]) (by kernel_rfl) (by simp) ?_
    refine AllReadyH.cons rfl (fun K hK => ?_) AllReadyH.nil
    go_simp
    refine (HWR.out).mono ?_
    rintro e W2 ⟨rfl, F2, hd2, hx2, ho2⟩
    replace ho2 : Off Fm W W2 := ⟨ho2.os, ho2.tape, ho2.output, ho2.size, ho2.block⟩
    replace hx2 : Ext Fm F2 W W2 := hx2
    obtain ⟨er, her⟩ : ∃ er, (d'.writeM (f + ix) xb).2 = er := ⟨_, rfl⟩
    obtain ⟨d2, hd2e⟩ : ∃ d2, (d'.writeM (f + ix) xb).1 = d2 := ⟨_, rfl⟩
    rw [hd2e] at hd2
    rw [her]
    have R32 := Lib.hid ((ho2.block _ R3.out.lt HN3.out).trans R3.out)
    have R42 := Lib.hid ((ho2.block _ R4.out.lt HN4.out).trans R4.out)
    have R62 : Hid (Row W2 (w.heap.size + 2) 24 [.int .i64 0]) := ((ho2.block _ R6.out.lt HN6.out).trans R6.out)
    have R82 := Lib.hid ((ho2.block _ R8.out.lt HN8.out).trans R8.out)
    have RG2 := Lib.hid ((ho2.block _ RG.out.lt HNG.out).trans RG.out)
    have HOFF2 := Lib.hid ho2
    have HX2 := Lib.hid hx2
    have HD2 := Lib.hid hd2
    have HER := Lib.hid her
    have HD2E := Lib.hid hd2e
    clear ho2 hx2 hd2 her hd2e HWR
    refine hK _ _ ⟨R32.out, RG2.out, R42.out, R82.out⟩ (fun _ => ?_)
    clear hK K
    try simp only [Act.put, List.setIfInBounds_toArray, List.set_cons_zero, List.set_cons_succ]
    have c6 : W2.cell? ⟨w.heap.size + 1 + 1, 0, none⟩ = some (.int .i64 0) := R62.out.cell 0
    have f6 : W2.frozen? ⟨w.heap.size + 1 + 1, 0, none⟩ = false := R62.out.frozen 0
    refine wpAnyH_ready (rs := [9]) (by kernel_rfl) (by simp) ?_
    refine AllReadyH.cons rfl (fun K hK => ?_) AllReadyH.nil
    go_simp
    obtain ⟨W3, hW3⟩ : ∃ W3, W2.setCell ⟨w.heap.size + 1 + 1, 0, none⟩ (.int .i64 er) = W3 := ⟨_, rfl⟩
    have hs12 := Nat.le_trans HSZ.out HOFF2.out.size
    have R33 : Hid (Row W3 w.heap.size 30 [.pointer (some ⟨g, 0, none⟩)]) := by rw [← hW3]; exact Row.far R32.out (p := ⟨w.heap.size + 1 + 1, 0, none⟩) (by show w.heap.size ≠ w.heap.size + 1 + 1; omega) _
    have R43 : Hid (Row W3 (w.heap.size + 1) 3 [.int .i64 (f : Int)]) := by rw [← hW3]; exact Row.far R42.out (p := ⟨w.heap.size + 1 + 1, 0, none⟩) (by show w.heap.size + 1 ≠ w.heap.size + 1 + 1; omega) _
    have R63 : Hid (Row W3 (w.heap.size + 2) 24 [.int .i64 er]) := by rw [← hW3]; exact Row.store R62.out 0 _
    have R83 : Hid (Row W3 b8 89 (bv xb)) := by rw [← hW3]; exact Row.far R82.out (p := ⟨w.heap.size + 1 + 1, 0, none⟩) (by have := HN1.out; show b8 ≠ w.heap.size + 1 + 1; omega) _
    have RG3 : Hid (Row W3 g 83 (wcs dg area turn A m c used br)) := by rw [← hW3]; exact Row.far RG2.out (p := ⟨w.heap.size + 1 + 1, 0, none⟩) (by show g ≠ w.heap.size + 1 + 1; omega) _
    have hne6 : ∀ k, k ≠ w.heap.size + 2 → W3.heap[k]? = W2.heap[k]? := fun k hk => by rw [← hW3]; exact Below.heap_setCell W2 _ _ k hk
    have hsz3 : W3.heap.size = W2.heap.size := by rw [← hW3]; simp [World.setCell]
    have hwo : W3.os = W2.os ∧ W3.tape = W2.tape ∧ W3.output = W2.output := by rw [← hW3]; exact ⟨rfl, rfl, rfl⟩
    have hF26 : ∀ k, F2 k → k ≠ w.heap.size + 2 := fun k hk e => by
      subst e
      rcases HX2.out _ hk with h | h
      · exact HN6.out h
      · have := HSZ.out; omega
    have HD3 := Lib.hid (HD2.out.off (F' := fun k => k = w.heap.size + 2) hF26 ⟨hwo.1, hwo.2.1, hwo.2.2, Nat.le_of_eq hsz3.symm, fun k _ hk => hne6 k hk⟩)
    have HKF : Hid (KeepsFrom w1.heap.size W W3) := ⟨by rw [hsz3]; exact HOFF2.out.size, fun k o hk h0 ho => by
      have hk2 : ¬ Fm k := fun hf => by have := HCL.out k o hf h0; rw [ho] at this; cases this
      rw [hne6 k (by omega)]
      exact (HOFF2.out.block k (Array.getElem?_eq_some_iff.1 h0).1 hk2).trans h0⟩
    have HKP : Hid (KT (fun k => k < w.heap.size ∧ ¬ F k) W W3) := ⟨fun k hk => by
      rw [hne6 k (by have := hk.1; omega)]
      refine HOFF2.out.block k (Nat.lt_of_lt_of_le hk.1 (Nat.le_trans HB1.out.size HSZ.out)) (fun hf => ?_)
      rcases HFF.out k (HFMF.out k hf) with h | h
      · exact hk.2 h
      · have := hk.1; omega, fun k cs t ht hr => by
      have hk6 : k ≠ w.heap.size + 2 := fun e => by
        subst e
        have := row_type hr R6.out
        rcases ht with rfl | rfl <;> exact absurd this (by decide)
      show _ = _
      rw [hne6 k hk6]
      refine (HOFF2.out.block k hr.lt (fun hf => ?_)).trans hr
      rcases HTY.out k t cs hr hf with e | e | e
      · subst e
        have := row_type hr HDA.out.secs
        rcases ht with rfl | rfl <;> exact absurd this (by decide)
      · rcases ht with rfl | rfl <;> exact absurd e (by decide)
      · rcases ht with rfl | rfl <;> exact absurd e (by decide)⟩
    have HLI : Hid (LI w1 F dg w.heap.size g f er d2 W3) := ⟨⟨F2, HD3.out, fun k hk => by
      rcases HX2.out k hk with h | h
      · exact HFF.out k (HFMF.out k h)
      · exact .inr (Nat.le_trans HSZ.out h.1), ⟨by rw [hwo.1]; exact HOFF2.out.os.trans HOF.out.os, by rw [hwo.2.1]; exact HOFF2.out.tape.trans HOF.out.tape, by rw [hwo.2.2]; exact HOFF2.out.output.trans HOF.out.output, by rw [hsz3]; exact hs12, fun k hk hn => by
      have hk6 : k ≠ w.heap.size + 2 := fun e => hn (.inr e)
      rw [hne6 k hk6]
      refine (HOFF2.out.block k (Nat.lt_of_lt_of_le hk HSZ.out) (fun hf => ?_)).trans (HOF.out.block k hk hn)
      rcases HFF.out k (HFMF.out k hf) with h | h
      · exact hn (.inl h)
      · omega⟩⟩, R33.out, R43.out, R63.out, by rw [hsz3]; exact hs12⟩
    rw [hW3]
    clear hW3 hne6 hsz3 hwo hF26 hs12 c6 f6
    refine hK _ _ ⟨R33.out, RG3.out, R43.out, R83.out⟩ (fun _ => ?_)
    clear hK K
    try simp only [Act.put, List.setIfInBounds_toArray, List.set_cons_zero, List.set_cons_succ]
    refine wpAnyH_done (by kernel_rfl) ?_ _
    have hsn := layW_snoc (prs pre) (ix, xb) f d HZ.out
    rw [← HDE.out] at hsn
    have hmap : prs (pre ++ [(⟨(ix, xb), hx0, hx1, hx64⟩ : IB)]) = prs pre ++ [(ix, xb)] := by simp [prs]
    have e1 : (layW (prs (pre ++ [(⟨(ix, xb), hx0, hx1, hx64⟩ : IB)])) f d).1 = d2 := by rw [hmap, hsn]; exact HD2E.out
    have e2 : (layW (prs (pre ++ [(⟨(ix, xb), hx0, hx1, hx64⟩ : IB)])) f d).2 = er := by rw [hmap, hsn]; exact HER.out
    have E1 := Lib.hid e1
    have E2 := Lib.hid e2
    clear hsn hmap e1 e2
    have c63 : W3.cell? ⟨w.heap.size + 1 + 1, 0, none⟩ = some (.int .i64 er) := R63.out.cell 0
    have f63 : W3.frozen? ⟨w.heap.size + 1 + 1, 0, none⟩ = false := R63.out.frozen 0
    by_cases h0 : er = 0
    · subst h0
      gi_wp2
      refine ⟨HKF.out, HKP.out, by rw [E1.out]; exact HLI.out, E2.out, ?_⟩
      rw [E1.out, List.length_append, ← HD2E.out]
      have := HPL.out
      refine Nat.le_trans (write_pend d' (f + ix) xb) ?_
      simp only [List.length_cons, List.length_nil]
      omega
    · gi_wp2
      refine ⟨HKF.out.trans ((KeepsOthers.setCell _ _ _).from _), rfl, ?_, by rw [E2.out]; exact h0⟩
      rw [E1.out, E2.out]
      exact LI.store6 HLI.out (by omega) HLOW.out er
  case done =>
    rintro D xs W hD hS ⟨hLI, hz, hpl⟩ hK
    have hps : prs xs = L := hS
    rw [hps] at hLI hz hpl
    have hxl : xs.length = L.length := by rw [← hps]; simp [prs]
    obtain ⟨⟨F0, hdsk0, hF0, hoff⟩, b3, b4, b6, hsz⟩ := hLI
    obtain ⟨F', hdsk, hFm, hcells⟩ := disk_min hdsk0
    have hF' : ∀ k, F' k → F k ∨ w1.heap.size ≤ k := fun k hk => hF0 k (hFm k hk)
    have hDF : ¬ F' D := fun hf => by have := hcells D _ hf hK; cases this
    clear hF0 hFm hcells hdsk0
    have hrg : Row W g 83 (wcs dg area turn A m c used br) := ((hoff.block g (by omega) (fun h => h.elim hgF (fun e => by omega))).trans (HB1.out.block g hgl)).trans HW.out
    have e0 : W.cell? ⟨w.heap.size, 0, none⟩ = some (.pointer (some ⟨g, 0, none⟩)) := b3.cell 0
    have e1 : W.cell? ⟨g, 0, none⟩ = some (.pointer (some ⟨dg, 0, none⟩)) := hrg.cell 0
    have HSY := Lib.hid (sync_any dg _ F' W hdsk)
    have HFF := Lib.hid hF'
    have HOF := Lib.hid hoff
    have B3 := Lib.hid b3
    have B4 := Lib.hid b4
    have B6 := Lib.hid b6
    have HSZ : Hid (w1.heap.size ≤ W.heap.size) := hsz
    have HK := Lib.hid hK
    have HZ := Lib.hid hz
    have HDS := Lib.hid hdsk
    clear hF' hoff b3 b4 b6 hsz hK hz hpl hps hrg hdsk hL0
    gi_wp2_with fail
    go_wp2_with fail
    refine (HSY.out).mono ?_
    rintro e W2 ⟨rfl, F2, hd2, hx2, ho2⟩
    obtain ⟨er, her⟩ : ∃ er, (layW L f d).1.syncM.2 = er := ⟨_, rfl⟩
    obtain ⟨d2, hd2e⟩ : ∃ d2, (layW L f d).1.syncM.1 = d2 := ⟨_, rfl⟩
    rw [hd2e] at hd2
    rw [her]
    have hLM : layM L f d = (d2, er) := by
      unfold layM
      rw [if_neg (by simp [HZ.out]), ← hd2e, ← her]
    have hnF : ∀ k, k < w1.heap.size → ¬ F k → ¬ F' k := fun k hk hn hf => by
      rcases HFF.out k hf with h | h
      · exact hn h
      · omega
    have hnB : ∀ j, ¬ F (w.heap.size + j) := fun j hf => by have := HLOW.out _ hf; omega
    have R32 : Row W2 w.heap.size 30 [.pointer (some ⟨g, 0, none⟩)] := (ho2.block _ B3.out.lt (hnF _ (by omega) (hnB 0))).trans B3.out
    have R42 : Row W2 (w.heap.size + 1) 3 [.int .i64 (f : Int)] := (ho2.block _ B4.out.lt (hnF _ (by omega) (hnB 1))).trans B4.out
    have R62 : Row W2 (w.heap.size + 2) 24 [.int .i64 0] := (ho2.block _ B6.out.lt (hnF _ (by omega) (hnB 2))).trans B6.out
    have hLI2 : LI w1 F dg w.heap.size g f 0 d2 W2 := ⟨⟨F2, hd2, fun k hk => by
      rcases hx2 k hk with h | h
      · exact HFF.out k h
      · exact .inr (Nat.le_trans HSZ.out h.1), ⟨ho2.os.trans HOF.out.os, ho2.tape.trans HOF.out.tape, ho2.output.trans HOF.out.output, Nat.le_trans HSZ.out ho2.size, fun k hk hn => (ho2.block k (Nat.lt_of_lt_of_le hk HSZ.out) (hnF k hk (fun h => hn (.inl h)))).trans (HOF.out.block k hk hn)⟩⟩, R32, R42, R62, Nat.le_trans HSZ.out ho2.size⟩
    have HK2 : Hid (W2.heap[D]? = some (.deferred (some []))) := (ho2.block D (Array.getElem?_eq_some_iff.1 HK.out).1 hDF).trans HK.out
    have c6 : W2.cell? ⟨w.heap.size + 1 + 1, 0, none⟩ = some (.int .i64 0) := R62.cell 0
    have f6 : W2.frozen? ⟨w.heap.size + 1 + 1, 0, none⟩ = false := R62.frozen 0
    have HLI3 := Lib.hid (LI.store6 hLI2 (by omega) HLOW.out er)
    have HLM := Lib.hid hLM
    clear hLI2 hLM R32 R42 R62 hd2 hx2 ho2 her hd2e hnF hnB
    go_wp2
    rw [HLM.out]
    refine lay_end HW.out hgF HLOW.out HB1.out hs1 HLI3.out hD ?_ rfl
    exact (Below.heap_setCell W2 _ _ D (by show D ≠ w.heap.size + 1 + 1; omega)).trans HK2.out
  case stop =>
    rintro D cd pre W hD hS ⟨rfl, hLI, hne⟩ hK
    gi_wp2_with fail
    have hps : layW L f d = layW (prs pre) f d := by
      obtain ⟨qs, hq⟩ := hS
      rw [← hq]
      exact layW_pre _ _ _ _ hne
    have hLM : layM L f d = layW (prs pre) f d := by
      unfold layM
      rw [hps, if_pos hne]
    rw [hLM]
    exact lay_end HW.out hgF HLOW.out HB1.out hs1 hLI hD hK rfl
end Go.Proofs.Yteemdjamgbbjhaa.Wl

/-
  A chain's next frame.
-/
namespace Go.Proofs.Yteemdjamgbbjhaa.Wl
set_option maxRecDepth 100000
open Go.RowKit Go.Shelf Go.Proofs.Yteemdjamgbbjhaa.Wd Go.Proofs.Yteemdjamgbbjhaa.Dsk Go.Proofs.Yteemdjamgbbjhaa.Oct Go.Proofs.Yteemdjamgbbjhaa.Sum

/-- a slice of bytes, in a row of its own -/
def By (w : World) (A : Option Addr) (n c : Nat) (l : List UInt8) : Prop := w.ownsRow 0 5 1 (.slice A n c) n (bv l)
theorem own_zero {w : World} {base : Nat} {e : TypeId} {v : Value} {n : Nat} {xs : List Value} (h : w.ownsRow base e 1 v n xs) : w.ownsRow 0 e 1 v n xs := by
  rcases h with ⟨hl, hv | ⟨g, cap, cur, hv, hb, hr⟩⟩
  · exact ⟨hl, .inl hv⟩
  · exact ⟨hl, .inr ⟨g, cap, cur, hv, Nat.zero_le _, hr⟩⟩
theorem own_kept {w w' : World} {e : TypeId} {v : Value} {n : Nat} {xs : List Value} (h : w.ownsRow 0 e 1 v n xs) (hk : ∀ g, v.ownBlock = some g → g < w.heap.size → w'.heap[g]? = w.heap[g]?) : w'.ownsRow 0 e 1 v n xs := by
  rcases h with ⟨hl, hv | ⟨g, cap, cur, hv, hb, hg, hr⟩⟩
  · exact ⟨hl, .inl hv⟩
  · exact ⟨hl, .inr ⟨g, cap, cur, hv, hb, (hk g (by rw [hv]; rfl) (Array.getElem?_eq_some_iff.1 hg).1).trans hg, hr⟩⟩
theorem By.sl {w : World} {A : Option Addr} {n c : Nat} {l : List UInt8} (h : By w A n c l) : Sl w w.heap.size A n c l := by
  obtain ⟨A', c', e, hl, hn, hc, hA, hb, _⟩ := own_bs h
  cases e
  exact ⟨hl, hn, hc, hA, hb⟩
theorem clone_own (A : Option Addr) (l : List UInt8) (c n : Nat) (w : World) (h : Sl w w.heap.size A n c l) (hm : n ≤ 140737488355328) :
    Calls Try.prog 66 #[.slice A n c] w fun e w' => ∃ A' c', e = .returned (.slice A' n c') ∧ By w' A' n c' l ∧ (∀ k, (Value.slice A' n c').ownBlock = some k → w.heap.size ≤ k) ∧ Below w.heap.size w w' := by
  have q37 : ∀ (w : World) (a : Option Addr) (n c n' c' : Nat), (binOp .eql 37 (.slice a n c) (.slice none n' c')).run Try.prog w = .ok (.bool a.isNone) w := fun w a n c n' c' => Lib.run_eql_slice_nil w _ _ a n c n' c' Try.underlying37
  have HH := Lib.hid h
  obtain ⟨hl, hc, hcm, hA, hb⟩ := h
  obtain ⟨i0, hi, hz0, hz1, hz2⟩ := info_parts info5
  cases A with
  | none =>
    obtain rfl := hA rfl
    obtain rfl : n = 0 := by omega
    clear hl hA hb hc hcm
    go_enter Try.func66, Try.ntmps66
    go_wp2
    go_ret
    exact ⟨none, 0, rfl, by rw [List.eq_nil_of_length_eq_zero HH.out.len]; exact World.ownsRow_nil _ _ _ _, (fun k hk => by cases hk), Below.refl _ _⟩
  | some a =>
    have HL := Lib.hid hl
    clear hl
    go_enter Try.func66, Try.ntmps66
    go_wp2_with (at_builtin; refine wpList_append_bs rfl _ _ 37 rfl w.heap.size 5 i0 (.int .u8 0) Try.underlying37 hi hz0 hz1 hz2 rfl (.slice (some ⟨w.heap.size, 0, none⟩) 0 0) 0 [] rfl ?own (some a) n c l rfl HL.out w.heap.size (hb.alloc (Nat.le_refl _) _) hA (by omega) (by simp) ?_)
    case own => exact World.ownsRow_made w #[] 0 (Nat.le_refl _) (Nat.zero_le _) rfl
    intro v w2 hown2 hg2
    have hown3 : w2.ownsRow w.heap.size 5 1 v n (bv l) := by simpa using hown2
    obtain ⟨A2, c2, rfl, hl2, hn2, hc2, hA2, hbs2, hk2⟩ := own_bs (l := l) hown3
    have HO3 := Lib.hid (own_zero hown3)
    clear hown3
    go_wp2
    go_ret
    refine ⟨A2, c2, by simp, HO3.out, ?_, ((Below.refl _ w).alloc (Nat.le_refl _) _).grown hg2 (by simp) (by intro k hk; simp [Value.ownBlock] at hk; omega)⟩
    intro k hk
    refine hk2 k ?_
    simpa [Value.ownBlock] using hk
theorem size81 : (Try.prog.info? 81).map (·.size) = some 3 := by kernel_rfl
def nofr : List Value := [.int .u32 0, .int .u32 0, .slice none 0 0]
theorem fcs_one (t k : Nat) (A : Option Addr) (n c : Nat) : ∀ v ∈ fcs t k A n c, v.oneCell' = true := by
  intro v hv
  simp only [fcs, List.mem_cons, List.not_mem_nil, or_false] at hv
  rcases hv with rfl | rfl | rfl <;> rfl
theorem ccs_one (t : Nat) (A : Option Addr) (n c u : Nat) : ∀ v ∈ ccs t A n c u, v.oneCell' = true := by
  intro v hv
  simp only [ccs, List.mem_cons, List.not_mem_nil, or_false] at hv
  rcases hv with rfl | rfl | rfl <;> rfl
set_option maxHeartbeats 4000000 in
/-- the frame of bytes behind a chain -/
theorem next_any (t n c u : Nat) (A : Option Addr) (A2 : Option Addr) (m c2 : Nat) (b : List UInt8) (w : World) (hs : Sl w w.heap.size A2 m c2 b) (hm : m ≤ 40000) (hn : n < 4294967296) (ht : t < 4294967296) :
    Calls Try.prog 56 #[.agg (ccs t A n c u).toArray, .slice A2 m c2] w fun e w' => ∃ A' c', e = .returned (.agg (fcs t n A' m c').toArray) ∧ By w' A' m c' b ∧ (∀ k, (Value.slice A' m c').ownBlock = some k → w.heap.size ≤ k) ∧ Below w.heap.size w w' := by
  have mixed : Try.prog.follows .mixedOrders = true := by kernel_rfl
  have HS := Lib.hid hs
  have hn32 : IntKind.u32.wrap (n : Int) = n := by rw [IntKind.wrap_u32]; omega
  clear hs
  go_enter Try.func56, Try.ntmps56
  go_wp2_with fail
  refine nw fun w1 hw1 => ?_
  have hb1 : Below w.heap.size w w1 := by
    rw [← hw1]
    exact ((Below.refl _ _).alloc (Nat.le_refl _) _).alloc (by simp) _
  have hs1 : w1.heap.size = w.heap.size + 2 := by rw [← hw1]; simp
  have r1 : Row w1 w.heap.size 81 (ccs t A n c u) := by rw [← hw1]; exact (Row.new w _ _).alloc _
  have r3 : Row w1 (w.heap.size + 1) 101 nofr := by
    rw [← hw1]
    have := Row.new (w.alloc (.cells (ccs t A n c u).toArray 81)) 101 nofr
    rw [World.size_alloc] at this
    exact this
  have R1 := Lib.hid r1
  have R3 := Lib.hid r3
  have HB1 := Lib.hid hb1
  have HSZ : Hid (w.heap.size + 2 ≤ w1.heap.size) := Lib.hid (Nat.le_of_eq hs1.symm)
  have HS1 := Lib.hid ((HS.out.below hb1).more hb1.size)
  clear hw1 hb1 hs1 r1 r3
  refine wp_region_held_drew (S := (fun w' => Row w' w.heap.size 81 (ccs t A n c u))) (by kernel_rfl) R1.out (fun hHeld => ?_)
  refine wpAnyH_take (i := 0) (oi := ⟨some 5, _, _, _, _, _⟩) (v := ?v0) rfl (by kernel_rfl) (by kernel_rfl) (by kernel_rfl) (fun _ _ _ h => h) (Or.inl ⟨by rfl, ?y0⟩) hHeld ?r0
  case y0 =>
    rintro w' hSw
    go_simp
    try with_reducible rfl
  try simp only [Act.put, List.setIfInBounds_toArray, List.set_cons_zero, List.set_cons_succ]
  refine wpAnyH_take (i := 1) (oi := ⟨some 6, _, _, _, _, _⟩) (v := ?v1) rfl (by kernel_rfl) (by kernel_rfl) (by kernel_rfl) (fun _ _ _ h => h) (Or.inl ⟨by rfl, ?y1⟩) hHeld ?r1
  case y1 =>
    rintro w' hSw
    have c0 : w'.cell? ⟨w.heap.size, 0, none⟩ = some (.int .u32 (t : Int)) := hSw.cell 0
    go_simp
    try with_reducible rfl
  try simp only [Act.put, List.setIfInBounds_toArray, List.set_cons_zero, List.set_cons_succ]
  refine wpAnyH_take (i := 2) (oi := ⟨some 7, _, _, _, _, _⟩) (v := ?v2) rfl (by kernel_rfl) (by kernel_rfl) (by kernel_rfl) (fun _ _ _ h => h) (Or.inl ⟨by rfl, ?y2⟩) hHeld ?r2
  case y2 =>
    rintro w' hSw
    go_simp
    try with_reducible rfl
  try simp only [Act.put, List.setIfInBounds_toArray, List.set_cons_zero, List.set_cons_succ]
  refine wpAnyH_take (i := 3) (oi := ⟨some 8, _, _, _, _, _⟩) (v := ?v3) rfl (by kernel_rfl) (by kernel_rfl) (by kernel_rfl) (fun _ _ _ h => h) (Or.inl ⟨by rfl, ?y3⟩) hHeld ?r3
  case y3 =>
    rintro w' hSw
    have c1 : w'.cell? ⟨w.heap.size, 1, none⟩ = some (.slice A n c) := hSw.cell 1
    go_simp
    try with_reducible rfl
  try simp only [Act.put, List.setIfInBounds_toArray, List.set_cons_zero, List.set_cons_succ]
  refine wpAnyH_take (i := 4) (oi := ⟨some 9, _, _, _, _, _⟩) (v := ?v4) rfl (by kernel_rfl) (by kernel_rfl) (by kernel_rfl) (fun _ _ _ h => h) (Or.inl ⟨by rfl, ?y4⟩) hHeld ?r4
  case y4 =>
    rintro w' hSw
    go_simp
    try with_reducible rfl
  try simp only [Act.put, List.setIfInBounds_toArray, List.set_cons_zero, List.set_cons_succ]
  refine wpAnyH_take (i := 5) (oi := ⟨some 10, _, _, _, _, _⟩) (v := ?v5) rfl (by kernel_rfl) (by kernel_rfl) (by kernel_rfl) (fun _ _ _ h => h) (Or.inl ⟨by rfl, ?y5⟩) hHeld ?r5
  case y5 =>
    rintro w' hSw
    go_simp
    try with_reducible rfl
  try simp only [Act.put, List.setIfInBounds_toArray, List.set_cons_zero, List.set_cons_succ]
  refine wpAnyH_take (i := 6) (oi := ⟨some 11, _, _, _, _, _⟩) (v := ?v6) rfl (by kernel_rfl) (by kernel_rfl) (by kernel_rfl) (fun _ _ _ h => h) (Or.inl ⟨by rfl, ?y6⟩) hHeld ?r6
  case y6 =>
    rintro w' hSw
    go_simp
    try with_reducible rfl
  try simp only [Act.put, List.setIfInBounds_toArray, List.set_cons_zero, List.set_cons_succ]
  refine wpAnyH_ready (rs := [7]) (by kernel_rfl) (by simp) ?_
  refine AllReadyH.cons rfl (fun K hK => ?_) AllReadyH.nil
  go_simp
  refine (clone_own A2 b c2 m w1.drew (show Sl w1.drew w1.heap.size _ _ _ _ from ⟨HS1.out.len, HS1.out.cap, HS1.out.most, HS1.out.nil, HS1.out.bs.drew⟩) (by omega)).mono ?_
  rintro e w2 ⟨A', c', rfl, hsl, hown, hb2⟩
  replace hb2 : Below w1.heap.size w1 w2 := undrew hb2
  replace hown : ∀ k, (Value.slice A' m c').ownBlock = some k → w1.heap.size ≤ k := hown
  have R12 := Lib.hid (R1.out.below hb2 R1.out.lt)
  have R32 := Lib.hid (R3.out.below hb2 R3.out.lt)
  have HB2 := Lib.hid (HB1.out.trans (hb2.mono HB1.out.size))
  have HSL := Lib.hid hsl
  have HOW := Lib.hid hown
  clear hb2 hsl hown
  refine hK _ _ R12.out (fun _ => ?_)
  clear hK K
  try simp only [Act.put, List.setIfInBounds_toArray, List.set_cons_zero, List.set_cons_succ]
  refine wpAnyH_take (i := 8) (oi := ⟨some 13, _, _, _, _, _⟩) (v := ?v8) rfl (by kernel_rfl) (by kernel_rfl) (by kernel_rfl) (fun _ _ _ h => h) (Or.inl ⟨by rfl, ?y8⟩) R12.out ?r8
  case y8 =>
    rintro w' hSw
    go_simp
    try with_reducible rfl
  try simp only [Act.put, List.setIfInBounds_toArray, List.set_cons_zero, List.set_cons_succ]
  refine wpAnyH_ready (rs := [9]) (by kernel_rfl) (by simp) ?_
  refine AllReadyH.cons rfl (fun K hK => ?_) AllReadyH.nil
  have HLB : Hid ((Try.prog.info? 101).map (·.size) = some (fcs t n A' m c').length) := Lib.hid size101
  rw [if_pos (by rfl)]
  refine wp_store_whole 101 (.tmp 4) (.tmp 13) rfl (w.heap.size + 1) (fcs t n A' m c') rfl rfl _ _ R32.out (by rfl) (fcs_one _ _ _ _ _) HLB.out ?_
  intro w3 hr3 hg3
  have HB3 := Lib.hid (HB2.out.grown hg3 HB2.out.size (fun j hj => by cases hj; omega))
  have R13 := Lib.hid (R12.out.grown hg3 (by simp))
  have HSL3 := Lib.hid (own_kept HSL.out fun b' hb' _ => hg3.block b' (by assumption) (fun e => by cases e; have := HOW.out _ hb'; have := HSZ.out; omega))
  have HRES := Lib.hid (run_loadVar_mid (P := Try.prog) w3 (w.heap.size + 1) 0 101 (fcs t n A' m c') _ (Row.all hr3) Try.underlying101 rfl HLB.out)
  have HOW2 : Hid (∀ k, (Value.slice A' m c').ownBlock = some k → w.heap.size ≤ k) := Lib.hid fun k hk => by have := HOW.out k hk; have := HSZ.out; omega
  refine hK _ _ R13.out (fun _ => ?_)
  clear hK K
  try simp only [Act.put, List.setIfInBounds_toArray, List.set_cons_zero, List.set_cons_succ]
  refine wpAnyH_done (by kernel_rfl) ?_ _
  go_wp2
  exact bodyPost_ret (v := .agg (fcs t n A' m c').toArray) (results_cell (p := 4) (ty := 101) rfl _ _ ⟨w.heap.size + 1, 0, none⟩ _ rfl HRES.out) rfl ⟨A', c', rfl, HSL3.out, HOW2.out, HB3.out⟩
end Go.Proofs.Yteemdjamgbbjhaa.Wl

/-
  A chain with a frame behind it.
-/
namespace Go.Proofs.Yteemdjamgbbjhaa.Wl
set_option maxRecDepth 100000
open Go.RowKit Go.Shelf Go.Proofs.Yteemdjamgbbjhaa.Wd Go.Proofs.Yteemdjamgbbjhaa.Dsk Go.Proofs.Yteemdjamgbbjhaa.Oct Go.Proofs.Yteemdjamgbbjhaa.Sum

theorem info37 : (Try.prog.info? 37).map (fun i => (i.zero, i.size, i.bytes)) = some (some (.slice none 0 0), 1, 24) := by kernel_rfl
theorem own_below {w w' : World} {e : TypeId} {v : Value} {n : Nat} {xs : List Value} (h : w.ownsRow 0 e 1 v n xs) (hb : Below w.heap.size w w') : w'.ownsRow 0 e 1 v n xs := own_kept h fun g _ hg => hb.block g hg
theorem own_lt {w : World} {e : TypeId} {v : Value} {n g : Nat} {xs : List Value} (h : w.ownsRow 0 e 1 v n xs) (hv : v.ownBlock = some g) : g < w.heap.size := by
  rcases h with ⟨hl, hv' | ⟨g', cap, cur, hv', hb, hg, hr⟩⟩
  · rw [hv'.1] at hv; cases hv
  · rw [hv'] at hv
    cases hv
    exact (Array.getElem?_eq_some_iff.1 hg).1
theorem grown_of_below {w W W' : World} {row : Option Nat} (hb : Below w.heap.size w W) (hg : W.grownBy W' row) : w.grownBy W' row :=
  ⟨hg.os.trans hb.os, hg.tape.trans hb.tape, hg.output.trans hb.output, Nat.le_trans hb.size hg.size, fun k hk hn => (hg.block k (Nat.lt_of_lt_of_le hk hb.size) hn).trans (hb.block k hk)⟩
theorem grown_set {w W : World} {row : Option Nat} (hg : w.grownBy W row) {p : Addr} (hp : w.heap.size ≤ p.block) (v : Value) : w.grownBy (W.setCell p v) row :=
  ⟨hg.os, hg.tape, hg.output, by simpa [World.setCell] using hg.size, fun k hk hn => (Below.heap_setCell W p v k (by omega)).trans (hg.block k hk hn)⟩
theorem grown_far {w W W' : World} {row : Option Nat} {b : Nat} (hg : w.grownBy W row) (hg2 : W.grownBy W' (some b)) (hb : w.heap.size ≤ b) : w.grownBy W' row :=
  ⟨hg2.os.trans hg.os, hg2.tape.trans hg.tape, hg2.output.trans hg.output, Nat.le_trans hg.size hg2.size, fun k hk hn => (hg2.block k (Nat.lt_of_lt_of_le hk hg.size) (fun e => by cases e; omega)).trans (hg.block k hk hn)⟩
/-- where an append lies: in the row that was, or in a new block -/
theorem append_place {P : Program} {w w' : World} {t ty e : TypeId} {i : TypeInfo} {z : Value} {size bytes : Nat} (ht : P.underlying t = some (.slice e)) (hi : P.info? e = some i) (hz : i.zero = some z)
    (hsize : i.size = size) (hby : i.bytes = bytes) (hzs : z.cells.size = size) (hsz : 0 < size) {v v' : Value} {n : Nat} {xs : List Value} (hown : w.ownsRow 0 e size v n xs) {a : Addr} {m c : Nat} {news : List Value} (hl : news.length = m * size) (hnews : ∀ j u, news[j]? = some u → w.cell? (a.add j) = some u) (h1 : ∀ u ∈ news, u.oneCell' = true)
    (h63 : n + m ≤ maxLen) (hbytes : (n + m) * bytes ≤ 140737488355328) (hr : (Builtin.append_ #[t, t] ty #[v, .slice (some a) m c]).run P w = .ok v' w') : ∀ b, v'.ownBlock = some b → v.ownBlock = some b ∨ w.heap.size ≤ b := by
  subst hsize
  subst hby
  intro b hb
  rcases id hown.2 with ⟨rfl, rfl⟩ | ⟨g, cap, cur, rfl, hbg, hg, hnc, hcm, hcs, htake⟩
  · obtain ⟨v2, w2, hr2, ho2, _, _⟩ := run_append_own (P := P) w w.heap.size t ty e i z i.size i.bytes ht hi hz rfl rfl hzs hsz (.slice none 0 0) 0 [] (World.ownsRow_nil _ _ _ _) a m c news hl hnews h1 h63 hbytes (Nat.le_refl _)
    rw [hr] at hr2
    cases hr2
    rcases ho2.2 with ⟨hv, _⟩ | ⟨g, cap, cur, hv, hbg, _⟩
    · rw [hv] at hb; cases hb
    · rw [hv] at hb
      cases hb
      exact .inr hbg
  · by_cases hroom : n + m ≤ cap
    · have hfit : n * i.size + news.length ≤ cur.size := by rw [hl, hcs, ← Nat.add_mul]; exact Nat.mul_le_mul_right _ hroom
      have hr2 := run_append_room (P := P) w t ty e i ht hi g n cap cur hg a m c news hl hnews h1 hroom hfit
      rw [hr] at hr2
      cases hr2
      exact .inl hb
    · have holds : ∀ j u, xs[j]? = some u → w.cell? ((⟨g, 0, none⟩ : Addr).add j) = some u := hown.cells (g := g) rfl
      have hr2 := run_append_grow (P := P) w t ty e i z ht hi hz ⟨g, 0, none⟩ n cap xs hown.1 holds a m c news hl hnews (by omega) (by unfold maxLen at h63; omega) (growslice_fits (by omega) hbytes)
      rw [hr] at hr2
      cases hr2
      cases hb
      exact .inr (Nat.le_refl _)
/-- an append to an own row of single cells: where it lies, too -/
theorem wpList_append_placed {P : Program} {w : World} {ops : Array Oper} {rest : List Oper} {o : Oper} {a : Act} {Q : Exit → Act → World → Prop} (hgd : Region.wanted o (yielded ops a.tmps) = true) (s x : Operand) (t : TypeId)
    (ho : o.op = .call { callee := .builtin .append, args := #[s, x], argTypes := #[t, t] })
    (e : TypeId) (i : TypeInfo) (z : Value) (bytes : Nat) (ht : P.underlying t = some (.slice e)) (hi : P.info? e = some i) (hz : i.zero = some z) (hsize : i.size = 1) (hby : i.bytes = bytes) (hzs : z.cells.size = 1)
    (v : Value) (n : Nat) (xs : List Value) (hs : a.eval s = v) (hown : w.ownsRow 0 e 1 v n xs)
    (ad : Addr) (m c : Nat) (news : List Value) (hx : a.eval x = .slice (some ad) m c) (hl : news.length = m * 1) (hnews : ∀ j u, news[j]? = some u → w.cell? (ad.add j) = some u) (h1 : ∀ u ∈ news, u.oneCell' = true)
    (h63 : n + m ≤ maxLen) (hbytes : (n + m) * bytes ≤ 140737488355328)
    (h : ∀ v' w', w'.ownsRow 0 e 1 v' (n + m) (xs ++ news) → w.grownBy w' v.ownBlock → (∀ b, v'.ownBlock = some b → v.ownBlock = some b ∨ w.heap.size ≤ b) → wpList P ops Q rest (a.put o.dst v') w') : wpList P ops Q (o :: rest) a w := by
  obtain ⟨v', w', hr, h2, h3, h4⟩ := run_append_own (P := P) w 0 t o.type e i z 1 bytes ht hi hz hsize hby hzs (by decide) v n xs hown ad m c news hl hnews h1 h63 hbytes (Nat.zero_le _)
  have hp := append_place ht hi hz hsize hby hzs (by decide) hown hl hnews h1 h63 hbytes hr
  refine wpList_wanted hgd fun K hK => ?_
  unfold Oper.wp
  simp [execOp, ho, resolve, invoke, builtin, hs, hx, hr, Result.andThen]
  exact hK _ _ (h v' w' h2 h3 hp)
def noch : List Value := [.int .u32 0, .slice none 0 0, .int .i64 0]
set_option maxHeartbeats 4000000 in
theorem with_any (t n c u : Nat) (A : Option Addr) (xs : List Value) (t2 k : Nat) (A2 : Option Addr) (m c2 : Nat) (w : World) (hown : w.ownsRow 0 37 1 (.slice A n c) n xs) (hm : m ≤ 40000) (hu : u ≤ 100000) (hn : n ≤ 100000) :
    Calls Try.prog 59 #[.agg (ccs t A n c u).toArray, .agg (fcs t2 k A2 m c2).toArray] w fun e w' => ∃ A' c', e = .returned (.agg (ccs t A' (n + 1) c' (u + sects m)).toArray) ∧ w'.ownsRow 0 37 1 (.slice A' (n + 1) c') (n + 1) (xs ++ [.slice A2 m c2]) ∧
      (∀ b, (Value.slice A' (n + 1) c').ownBlock = some b → (Value.slice A n c).ownBlock = some b ∨ w.heap.size ≤ b) ∧ w.grownBy w' (Value.slice A n c).ownBlock := by
  have mixed : Try.prog.follows .mixedOrders = true := by kernel_rfl
  have HO := Lib.hid hown
  obtain ⟨i0, hi0, hz0, hz1, hz2⟩ := info_parts info37
  clear hown
  have k0 : (ccs t A n c u)[0]? = some (.int .u32 (t : Int)) := rfl
  have k1 : (ccs t A n c u)[1]? = some (.slice A n c) := rfl
  have k2 : (ccs t A n c u)[2]? = some (.int .i64 (u : Int)) := rfl
  have k3 : (fcs t2 k A2 m c2)[2]? = some (.slice A2 m c2) := rfl
  have HOB : Hid (∀ W, Below w.heap.size w W → W.ownsRow 0 37 1 (.slice A n c) n xs) := Lib.hid fun W hb => own_below HO.out hb
  go_enter Try.func59, Try.ntmps59
  go_wp2_with (at_builtin; refine wpList_append_placed rfl _ _ 58 rfl 37 i0 (.slice none 0 0) 24 Try.underlying58 hi0 hz0 hz1 hz2 rfl (.slice A n c) n xs rfl (HOB.out _ ((((Below.refl _ _).alloc (Nat.le_refl _) _).alloc (by simp) _).alloc (by simp; omega) _ |>.alloc (by simp; omega) _)) ⟨w.heap.size + 1 + 1 + 1, 0, none⟩ 1 1 [.slice A2 m c2] rfl rfl ?hnews (fun u hu => by cases hu with | head => rfl | tail _ h => cases h) (by unfold maxLen; omega) (by omega) ?_)
  case hnews =>
    intro j v hj
    cases j with
    | zero =>
      cases hj
      go_simp
    | succ j => cases hj
  intro v4 w4 hown4 hg4 hp4
  have hAw : ∀ b, (Value.slice A n c).ownBlock = some b → b < w.heap.size := fun b hb => own_lt HO.out hb
  obtain ⟨A4, c4, rfl⟩ : ∃ A4 c4, v4 = .slice A4 (n + 1) c4 := by
    rcases hown4.2 with ⟨_, h0⟩ | ⟨g', cap, cur, hv, _⟩
    · omega
    · exact ⟨_, _, hv⟩
  have r1 : Row w4 w.heap.size 81 (ccs t A n c u) := by
    refine Row.grown ?_ hg4 (fun e => by have := hAw _ e.symm; omega)
    exact (((Row.new w _ _).alloc _).alloc _).alloc _
  have r2 : Row w4 (w.heap.size + 1) 101 (fcs t2 k A2 m c2) := by
    refine Row.grown ?_ hg4 (fun e => by have := hAw _ e.symm; omega)
    have := Row.new (w.alloc (.cells (ccs t A n c u).toArray 81)) 101 (fcs t2 k A2 m c2)
    rw [World.size_alloc] at this
    exact (this.alloc _).alloc _
  have r3 : Row w4 (w.heap.size + 2) 81 noch := by
    refine Row.grown ?_ hg4 (fun e => by have := hAw _ e.symm; omega)
    have := Row.new ((w.alloc (.cells (ccs t A n c u).toArray 81)).alloc (.cells (fcs t2 k A2 m c2).toArray 101)) 81 noch
    rw [World.size_alloc, World.size_alloc] at this
    exact this.alloc _
  have hgw : w.grownBy w4 (Value.slice A n c).ownBlock := grown_of_below ((((Below.refl _ _).alloc (Nat.le_refl _) _).alloc (by simp) _).alloc (by simp; omega) _ |>.alloc (by simp; omega) _) hg4
  have hp5 : ∀ b, (Value.slice A4 (n + 1) c4).ownBlock = some b → (Value.slice A n c).ownBlock = some b ∨ w.heap.size ≤ b := fun b hb => by
    rcases hp4 b hb with h | h
    · exact .inl h
    · exact .inr (by omega)
  -- the own row is none of the boxes
  have hnb : ∀ b cs t', Row w4 b t' cs → t' ≠ 37 → (Value.slice A4 (n + 1) c4).ownBlock ≠ some b := fun b cs t' hr ht e => by
    rcases hown4.2 with ⟨hv, _⟩ | ⟨g', cap, cur, hv, _, hg', _⟩
    · rw [hv] at e; cases e
    · rw [hv] at e
      cases e
      have h0 : Row w4 g' 37 cur.toList := by show _ = _; simpa using hg'
      exact ht (row_type hr h0)
  have hn1 := hnb _ _ _ r1 (by decide)
  have hn3 := hnb _ _ _ r3 (by decide)
  have c1 : w4.cell? ⟨w.heap.size, 1, none⟩ = some (.slice A n c) := r1.cell 1
  have f1 : w4.frozen? ⟨w.heap.size, 1, none⟩ = false := r1.frozen 1
  have r15 : Row (w4.setCell ⟨w.heap.size, 1, none⟩ (.slice A4 (n + 1) c4)) w.heap.size 81 (ccs t A4 (n + 1) c4 u) := r1.store 1 _
  have r25 : Row (w4.setCell ⟨w.heap.size, 1, none⟩ (.slice A4 (n + 1) c4)) (w.heap.size + 1) 101 (fcs t2 k A2 m c2) := Row.far r2 (p := ⟨w.heap.size, 1, none⟩) (by show w.heap.size + 1 ≠ w.heap.size; omega) _
  have r35 : Row (w4.setCell ⟨w.heap.size, 1, none⟩ (.slice A4 (n + 1) c4)) (w.heap.size + 2) 81 noch := Row.far r3 (p := ⟨w.heap.size, 1, none⟩) (by show w.heap.size + 2 ≠ w.heap.size; omega) _
  have o5 : (w4.setCell ⟨w.heap.size, 1, none⟩ (.slice A4 (n + 1) c4)).ownsRow 0 37 1 (.slice A4 (n + 1) c4) (n + 1) (xs ++ [.slice A2 m c2]) := own_kept hown4 fun b hb _ => Below.heap_setCell w4 _ _ b (fun e => hn1 (by rw [hb]; exact congrArg some e))
  have g5 := grown_set hgw (p := ⟨w.heap.size, 1, none⟩) (Nat.le_refl _) (.slice A4 (n + 1) c4)
  obtain ⟨w5, hw5⟩ : ∃ w5, w4.setCell ⟨w.heap.size, 1, none⟩ (.slice A4 (n + 1) c4) = w5 := ⟨_, rfl⟩
  rw [hw5] at r15 r25 r35 o5 g5
  have R1 := Lib.hid r15
  have R2 := Lib.hid r25
  have R3 := Lib.hid r35
  have O5 := Lib.hid o5
  have G5 := Lib.hid g5
  have HP := Lib.hid hp5
  have HN1 := Lib.hid hn1
  have HN3 := Lib.hid hn3
  clear r15 r25 r35 o5 g5 hp5 hp4 hn1 hn3 hnb hgw hg4 hAw hown4 r1 r2 r3 HOB k0 k1 k2 k3
  go_wp2_with fail
  clear hw5 c1 f1
  have hsm : IntKind.i64.wrap ((u : Int) + (sects m : Int)) = ((u + sects m : Nat) : Int) := by
    rw [IntKind.wrap_i64]
    have := sects_most m hm
    omega
  refine wp_region_held_drew (S := (fun w' => Row w' (w.heap.size + 1) 101 (fcs t2 k A2 m c2))) (by kernel_rfl) R2.out (fun hHeld => ?_)
  refine wpAnyH_take (i := 0) (oi := ⟨some 12, _, _, _, _, _⟩) (v := ?v0) rfl (by kernel_rfl) (by kernel_rfl) (by kernel_rfl) (fun _ _ _ h => h) (Or.inl ⟨by rfl, ?y0⟩) hHeld ?r0
  case y0 =>
    rintro w' hSw
    go_simp
    try with_reducible rfl
  try simp only [Act.put, List.setIfInBounds_toArray, List.set_cons_zero, List.set_cons_succ]
  refine wpAnyH_take (i := 2) (oi := ⟨some 14, _, _, _, _, _⟩) (v := ?v2) rfl (by kernel_rfl) (by kernel_rfl) (by kernel_rfl) (fun _ _ _ h => h) (Or.inl ⟨by rfl, ?y2⟩) hHeld ?r2
  case y2 =>
    rintro w' hSw
    go_simp
    try with_reducible rfl
  try simp only [Act.put, List.setIfInBounds_toArray, List.set_cons_zero, List.set_cons_succ]
  refine wpAnyH_take (i := 3) (oi := ⟨some 15, _, _, _, _, _⟩) (v := ?v3) rfl (by kernel_rfl) (by kernel_rfl) (by kernel_rfl) (fun _ _ _ h => h) (Or.inl ⟨by rfl, ?y3⟩) hHeld ?r3
  case y3 =>
    rintro w' hSw
    have e3 : w'.cell? ⟨w.heap.size + 1, 2, none⟩ = some (.slice A2 m c2) := hSw.cell 2
    go_simp
    try with_reducible rfl
  try simp only [Act.put, List.setIfInBounds_toArray, List.set_cons_zero, List.set_cons_succ]
  refine wpAnyH_take (i := 4) (oi := ⟨some 16, _, _, _, _, _⟩) (v := ?v4) rfl (by kernel_rfl) (by kernel_rfl) (by kernel_rfl) (fun _ _ _ h => h) (Or.inl ⟨by rfl, ?y4⟩) hHeld ?r4
  case y4 =>
    rintro w' hSw
    go_simp
    try with_reducible rfl
  try simp only [Act.put, List.setIfInBounds_toArray, List.set_cons_zero, List.set_cons_succ]
  have cc2 : w5.drew.cell? ⟨w.heap.size, 2, none⟩ = some (.int .i64 (u : Int)) := R1.out.cell 2
  have ff2 : w5.drew.frozen? ⟨w.heap.size, 2, none⟩ = false := R1.out.frozen 2
  have HSE := Lib.hid (sectors_any m w5.drew hm)
  have H2D : Hid (Row w5.drew (w.heap.size + 1) 101 (fcs t2 k A2 m c2)) := R2.out
  have hcast : ((u : Int) + (sects m : Int)) = ((u + sects m : Nat) : Int) := by simp
  have HCA := Lib.hid hcast
  clear hcast
  have R17 : Hid (Row (w5.setCell ⟨w.heap.size, 2, none⟩ (.int .i64 ((u : Int) + (sects m : Int)))).drew w.heap.size 81 (ccs t A4 (n + 1) c4 (u + sects m))) := by
    rw [HCA.out]
    exact Row.drew (Row.store R1.out 2 _)
  have R27 : Hid (Row (w5.setCell ⟨w.heap.size, 2, none⟩ (.int .i64 ((u : Int) + (sects m : Int)))).drew (w.heap.size + 1) 101 (fcs t2 k A2 m c2)) := Row.drew (Row.far R2.out (p := ⟨w.heap.size, 2, none⟩) (by show w.heap.size + 1 ≠ w.heap.size; omega) _)
  have R37 : Hid (Row (w5.setCell ⟨w.heap.size, 2, none⟩ (.int .i64 ((u : Int) + (sects m : Int)))).drew (w.heap.size + 2) 81 noch) := Row.drew (Row.far R3.out (p := ⟨w.heap.size, 2, none⟩) (by show w.heap.size + 2 ≠ w.heap.size; omega) _)
  have O7 : Hid ((w5.setCell ⟨w.heap.size, 2, none⟩ (.int .i64 ((u : Int) + (sects m : Int)))).drew.ownsRow 0 37 1 (.slice A4 (n + 1) c4) (n + 1) (xs ++ [.slice A2 m c2])) := own_kept O5.out fun b hb _ => Below.heap_setCell w5 _ _ b (fun e => HN1.out (by rw [hb]; exact congrArg some e))
  have G7 : Hid (w.grownBy (w5.setCell ⟨w.heap.size, 2, none⟩ (.int .i64 ((u : Int) + (sects m : Int)))).drew (Value.slice A n c).ownBlock) := ⟨G5.out.os, G5.out.tape, G5.out.output, by simpa [World.setCell] using G5.out.size, (grown_set G5.out (p := ⟨w.heap.size, 2, none⟩) (Nat.le_refl _) _).block⟩
  refine wpAnyH_ready (rs := [1, 5]) (by kernel_rfl) (by simp) ?_
  refine AllReadyH.cons rfl (fun K hK => ?_) (AllReadyH.cons rfl (fun K hK => ?_) AllReadyH.nil)
  · go_simp
    refine hK _ _ H2D.out (fun _ => ?_)
    clear hK K
    try simp only [Act.put, List.setIfInBounds_toArray, List.set_cons_zero, List.set_cons_succ]
    refine wpAnyH_ready (rs := [5]) (by kernel_rfl) (by simp) ?_
    refine AllReadyH.cons rfl (fun K hK => ?_) AllReadyH.nil
    go_simp
    refine (HSE.out).mono ?_
    rintro e w6 ⟨rfl, hw6⟩
    subst hw6
    refine hK _ _ H2D.out (fun _ => ?_)
    clear hK K
    try simp only [Act.put, List.setIfInBounds_toArray, List.set_cons_zero, List.set_cons_succ]
    refine wpAnyH_take (i := 6) (oi := ⟨some 18, _, _, _, _, _⟩) (v := ?v6p) rfl (by kernel_rfl) (by kernel_rfl) (by kernel_rfl) (fun _ _ _ h => h) (Or.inl ⟨by rfl, ?y6p⟩) H2D.out ?r6p
    case y6p =>
      rintro w' hSw
      go_simp
      try with_reducible rfl
    try simp only [Act.put, List.setIfInBounds_toArray, List.set_cons_zero, List.set_cons_succ]
    refine wpAnyH_take (i := 7) (oi := ⟨some 19, _, _, _, _, _⟩) (v := ?v7p) rfl (by kernel_rfl) (by kernel_rfl) (by kernel_rfl) (fun _ _ _ h => h) (Or.inl ⟨by rfl, ?y7p⟩) H2D.out ?r7p
    case y7p =>
      rintro w' hSw
      go_simp
      try with_reducible rfl
    try simp only [Act.put, List.setIfInBounds_toArray, List.set_cons_zero, List.set_cons_succ]
    refine wpAnyH_ready (rs := [8]) (by kernel_rfl) (by simp) ?_
    refine AllReadyH.cons rfl (fun K hK => ?_) AllReadyH.nil
    go_simp
    refine hK _ _ R27.out (fun _ => ?_)
    clear hK K
    try simp only [Act.put, List.setIfInBounds_toArray, List.set_cons_zero, List.set_cons_succ]
    refine wpAnyH_done (by kernel_rfl) ?_ _
    generalize (w5.setCell ⟨w.heap.size, 2, none⟩ (.int .i64 ((u : Int) + (sects m : Int)))).drew = w7 at R17 R27 R37 O7 G7 ⊢
    have HI := Lib.hid (show (Try.prog.info? 81).map (·.size) = some (ccs t A4 (n + 1) c4 (u + sects m)).length from size81)
    have HLE := Lib.hid (show (ccs t A4 (n + 1) c4 (u + sects m)).length = noch.length from rfl)
    go_wp2_with (first
      | (with_reducible refine wpList_load_row (op := ⟨some 20, _, _, _, _, _⟩) ?_ 81 (.tmp 2) ?_ w.heap.size 0 ?_ (ccs t A4 (n + 1) c4 (u + sects m)) _ (Row.all R17.out) Try.underlying81 ?_ HI.out ?_)
      | (with_reducible refine wpList_store_whole (op := ⟨none, _, _, _, _, _⟩) ?_ 81 (.tmp 4) (.tmp 20) ?_ (w.heap.size + 2) (ccs t A4 (n + 1) c4 (u + sects m)) ?_ ?_ 81 noch R37.out HLE.out (ccs_one _ _ _ _ _) HI.out ?_))
    all_goals try (first | rfl | (simp; done))
    intro w8 hr8 hg8
    have HRES := Lib.hid (run_loadVar_mid (P := Try.prog) w8 (w.heap.size + 2) 0 81 (ccs t A4 (n + 1) c4 (u + sects m)) _ (Row.all hr8) Try.underlying81 rfl HI.out)
    have O8 := Lib.hid (own_kept O7.out fun b hb hlt => hg8.block b hlt (fun e => HN3.out (hb.trans e)))
    have G8 := Lib.hid (grown_far G7.out hg8 (by omega))
    clear hr8 hg8
    go_wp2
    exact bodyPost_ret (v := .agg (ccs t A4 (n + 1) c4 (u + sects m)).toArray) (results_cell (p := 4) (ty := 81) rfl _ _ ⟨w.heap.size + 2, 0, none⟩ _ rfl HRES.out) rfl ⟨A4, c4, rfl, O8.out, HP.out, G8.out⟩
  · go_simp
    refine (HSE.out).mono ?_
    rintro e w6 ⟨rfl, hw6⟩
    subst hw6
    refine hK _ _ H2D.out (fun _ => ?_)
    clear hK K
    try simp only [Act.put, List.setIfInBounds_toArray, List.set_cons_zero, List.set_cons_succ]
    refine wpAnyH_ready (rs := [1]) (by kernel_rfl) (by simp) ?_
    refine AllReadyH.cons rfl (fun K hK => ?_) AllReadyH.nil
    go_simp
    refine hK _ _ H2D.out (fun _ => ?_)
    clear hK K
    try simp only [Act.put, List.setIfInBounds_toArray, List.set_cons_zero, List.set_cons_succ]
    refine wpAnyH_take (i := 6) (oi := ⟨some 18, _, _, _, _, _⟩) (v := ?v6q) rfl (by kernel_rfl) (by kernel_rfl) (by kernel_rfl) (fun _ _ _ h => h) (Or.inl ⟨by rfl, ?y6q⟩) H2D.out ?r6q
    case y6q =>
      rintro w' hSw
      go_simp
      try with_reducible rfl
    try simp only [Act.put, List.setIfInBounds_toArray, List.set_cons_zero, List.set_cons_succ]
    refine wpAnyH_take (i := 7) (oi := ⟨some 19, _, _, _, _, _⟩) (v := ?v7q) rfl (by kernel_rfl) (by kernel_rfl) (by kernel_rfl) (fun _ _ _ h => h) (Or.inl ⟨by rfl, ?y7q⟩) H2D.out ?r7q
    case y7q =>
      rintro w' hSw
      go_simp
      try with_reducible rfl
    try simp only [Act.put, List.setIfInBounds_toArray, List.set_cons_zero, List.set_cons_succ]
    refine wpAnyH_ready (rs := [8]) (by kernel_rfl) (by simp) ?_
    refine AllReadyH.cons rfl (fun K hK => ?_) AllReadyH.nil
    go_simp
    refine hK _ _ R27.out (fun _ => ?_)
    clear hK K
    try simp only [Act.put, List.setIfInBounds_toArray, List.set_cons_zero, List.set_cons_succ]
    refine wpAnyH_done (by kernel_rfl) ?_ _
    generalize (w5.setCell ⟨w.heap.size, 2, none⟩ (.int .i64 ((u : Int) + (sects m : Int)))).drew = w7 at R17 R27 R37 O7 G7 ⊢
    have HI := Lib.hid (show (Try.prog.info? 81).map (·.size) = some (ccs t A4 (n + 1) c4 (u + sects m)).length from size81)
    have HLE := Lib.hid (show (ccs t A4 (n + 1) c4 (u + sects m)).length = noch.length from rfl)
    go_wp2_with (first
      | (with_reducible refine wpList_load_row (op := ⟨some 20, _, _, _, _, _⟩) ?_ 81 (.tmp 2) ?_ w.heap.size 0 ?_ (ccs t A4 (n + 1) c4 (u + sects m)) _ (Row.all R17.out) Try.underlying81 ?_ HI.out ?_)
      | (with_reducible refine wpList_store_whole (op := ⟨none, _, _, _, _, _⟩) ?_ 81 (.tmp 4) (.tmp 20) ?_ (w.heap.size + 2) (ccs t A4 (n + 1) c4 (u + sects m)) ?_ ?_ 81 noch R37.out HLE.out (ccs_one _ _ _ _ _) HI.out ?_))
    all_goals try (first | rfl | (simp; done))
    intro w8 hr8 hg8
    have HRES := Lib.hid (run_loadVar_mid (P := Try.prog) w8 (w.heap.size + 2) 0 81 (ccs t A4 (n + 1) c4 (u + sects m)) _ (Row.all hr8) Try.underlying81 rfl HI.out)
    have O8 := Lib.hid (own_kept O7.out fun b hb hlt => hg8.block b hlt (fun e => HN3.out (hb.trans e)))
    have G8 := Lib.hid (grown_far G7.out hg8 (by omega))
    clear hr8 hg8
    go_wp2
    exact bodyPost_ret (v := .agg (ccs t A4 (n + 1) c4 (u + sects m)).toArray) (results_cell (p := 4) (ty := 81) rfl _ _ ⟨w.heap.size + 2, 0, none⟩ _ rfl HRES.out) rfl ⟨A4, c4, rfl, O8.out, HP.out, G8.out⟩
end Go.Proofs.Yteemdjamgbbjhaa.Wl

/-
  Disks by type, logs in memory; what iterators tell, as lay asks for it.
-/
namespace Go.Proofs.Yteemdjamgbbjhaa.Wl
set_option maxRecDepth 100000
open Go.RowKit Go.Shelf Go.Proofs.Yteemdjamgbbjhaa.Wd Go.Proofs.Yteemdjamgbbjhaa.Dsk Go.Proofs.Yteemdjamgbbjhaa.Oct Go.Proofs.Yteemdjamgbbjhaa.Sum

/-- the blocks of F are of a disk's types -/
def TyF (w : World) (F : Nat → Prop) : Prop := ∀ k t cs, Row w k t cs → F k → t = 77 ∨ t = 89 ∨ t = 121
def Dk (w : World) (F : Nat → Prop) (g : Nat) (d : DM) : Prop := Disk w F g d ∧ TyF w F
theorem dk_min {F : Nat → Prop} {g : Nat} {d : DM} {W : World} (h : Disk W F g d) : ∃ Fm : Nat → Prop, Dk W Fm g d ∧ ∀ k, Fm k → F k := by
  obtain ⟨⟨gs, A, c, hda⟩, hlt⟩ := h
  have hF : ∀ k, (k = g ∨ k = gs ∨ (Value.slice A d.pend.length c).ownBlock = some k) → F k := fun k hk => by
    rcases hk with rfl | rfl | hk
    · exact hda.fg
    · exact hda.fs
    · exact (hda.own k hk).1
  refine ⟨fun k => k = g ∨ k = gs ∨ (Value.slice A d.pend.length c).ownBlock = some k, ⟨⟨⟨gs, A, c, .inl rfl, .inr (.inl rfl), hda.ne, fun k hk => ⟨.inr (.inr hk), (hda.own k hk).2⟩, hda.row, hda.secs, hda.pend, hda.good⟩, fun k hk => hlt k (hF k hk)⟩, fun k t cs hr hk => ?_⟩, hF⟩
  rcases hk with rfl | rfl | hk
  · exact .inl (row_type hr hda.row)
  · exact .inr (.inl (row_type hr hda.secs))
  · rcases hda.pend with ⟨_, hv | ⟨gp, cap, cur, hv, _, hgp, _⟩⟩
    · rw [hv.1] at hk; cases hk
    · rw [hv] at hk
      cases hk
      have h0 : Row W gp 121 cur.toList := by show _ = _; simpa using hgp
      exact .inr (.inr (row_type hr h0))
theorem Dk.below {w w' : World} {F : Nat → Prop} {g : Nat} {d : DM} (h : Dk w F g d) (hb : Below w.heap.size w w') : Dk w' F g d :=
  ⟨h.1.below hb, fun k t cs hr hk => h.2 k t cs ((hb.block k (h.1.2 k hk)).symm.trans hr) hk⟩
theorem Dk.not {w : World} {F : Nat → Prop} {g k : Nat} {t : TypeId} {cs : List Value} {d : DM} (h : Dk w F g d) (hr : Row w k t cs) (h1 : t ≠ 77) (h2 : t ≠ 121) (h3 : t ≠ 89) : ¬ F k := fun hk => by
  rcases h.2 k t cs hr hk with e | e | e
  · exact h1 e
  · exact h3 e
  · exact h2 e
/-- lay, its disk by type -/
theorem lay_dk (g dg area turn m c used : Nat) (A : Option Addr) (br : Bool) (f : Nat) (gf : FuncId) (lb : Array Value) (L : List (Int × List UInt8)) (d : DM) (F : Nat → Prop) (w : World)
    (hw : Row w g 83 (wcs dg area turn A m c used br)) (hd : Dk w F dg d) (hp : d.pend.length + L.length ≤ 1000000) (hf : f ≤ 10000)
    (heg : ∀ args w, (callFunc gf args).run Try.prog w = .ok (.enter gf args) w)
    (hseq : ∀ w1, Below w.heap.size w w1 → SeqStopsK Fence.wide 8 Try.prog gf lb encI (KT (fun k => k < w.heap.size ∧ ¬ F k)) (fun xs => xs.map (·.1) = L) (fun pre => pre.map (·.1) <+: L) L.length w1) :
    Calls Try.prog 45 #[.pointer (some ⟨g, 0, none⟩), .int .i64 (f : Int), .func (.func gf) #[] lb] w fun e w' => e = .returned (.int .i64 (layM L f d).2) ∧
      ∃ F', Dk w' F' dg (layM L f d).1 ∧ Ext F F' w w' ∧ Off (fun k => F k ∨ k = g) w w' ∧ Row w' g 83 (wcs dg area turn A m c used (br || decide ((layM L f d).2 ≠ 0))) := by
  refine (lay_any g dg area turn m c used A br f gf lb L d F w hw (hd.not hw (by decide) (by decide) (by decide)) hd.1 hp hf heg hseq).mono ?_
  rintro e w' ⟨he, F', h1, h2, h3, h4, _⟩
  obtain ⟨Fm, h5, h6⟩ := dk_min h1
  exact ⟨he, Fm, h5, fun k hk => h2 k (h6 k hk), h3, h4⟩
theorem parts_seq {w : World} {F : Nat → Prop} {Bf t k m c : Nat} {A : Option Addr} {b : List UInt8} (hf : Row w Bf 101 (fcs t k A m c)) (hs : By w A m c b) (hm : m ≤ 40000) (ht : t < 4294967296) (hk : k < 4294967296) :
    ∀ w1, Below w.heap.size w w1 → SeqStopsK Fence.wide 8 Try.prog 78 #[.pointer (some ⟨Bf, 0, none⟩)] encI (KT (fun k => k < w.heap.size ∧ ¬ F k)) (fun xs => xs.map (·.1) = pairsM t k b) (fun pre => pre.map (·.1) <+: pairsM t k b) (pairsM t k b).length w1 := by
  intro w1 hb1 l J Jx W hW hJ hJx hY h0
  have hb : Below w.heap.size w W := hb1.trans (hW.mono hb1.size)
  have hl := hs.sl.len
  have hlen : (pairsM t k b).length = sects b.length := by simp [pairsM]
  rw [hlen] at hY
  exact parts_in l Bf t k 8 m c A b (by omega) (by omega) ht hk _ J Jx W hJ hY (hf.below hb hf.lt) ((hs.sl.below hb).more hb.size) h0
theorem all_seq {w : World} {F : Nat → Prop} {Bf c : Nat} {A : Option Addr} {L : List (List UInt8)} (hn : L.length ≤ 100000) (hf : Row w Bf 72 [.slice A L.length c]) (hs : Bls w (fun k => k < w.heap.size ∧ ¬ F k) A L) :
    ∀ w1, Below w.heap.size w w1 → SeqStopsK Fence.wide 8 Try.prog 71 #[.pointer (some ⟨Bf, 0, none⟩)] encI (KT (fun k => k < w.heap.size ∧ ¬ F k)) (fun xs => xs.map (·.1) = (List.range L.length).map (fun (i : Nat) => ((i : Int), L.getD i nought))) (fun pre => pre.map (·.1) <+: (List.range L.length).map (fun (i : Nat) => ((i : Int), L.getD i nought))) ((List.range L.length).map (fun (i : Nat) => ((i : Int), L.getD i nought))).length w1 := by
  intro w1 hb1 l J Jx W hW hJ hJx hY h0
  have hb : Below w.heap.size w W := hb1.trans (hW.mono hb1.size)
  rw [List.length_map, List.length_range] at hY
  refine all_in l Bf 8 c A L (by omega) hn _ J Jx W hJ hY ((hf.below hb hf.lt).cell 0) (fun hp => ?_) (fun k hk => Nat.lt_of_lt_of_le hk.1 hb.size) h0
  obtain ⟨g, o, e, hk, hbk⟩ := hs hp
  exact ⟨g, o, e, hk, hbk.same (hb.block g hk.1)⟩
end Go.Proofs.Yteemdjamgbbjhaa.Wl

/-
  A turn begins.
-/
namespace Go.Proofs.Yteemdjamgbbjhaa.Wl
set_option maxRecDepth 100000
open Go.RowKit Go.Shelf Go.Proofs.Yteemdjamgbbjhaa.Wd Go.Proofs.Yteemdjamgbbjhaa.Dsk Go.Proofs.Yteemdjamgbbjhaa.Oct Go.Proofs.Yteemdjamgbbjhaa.Sum

theorem size106 : (Try.prog.info? 106).map (·.size) = some 2 := by kernel_rfl
theorem hcs_one (t a : Nat) : ∀ v ∈ hcs t a, v.oneCell' = true := by
  intro v hv
  simp only [hcs, List.mem_cons, List.not_mem_nil, or_false] at hv
  rcases hv with rfl | rfl <;> rfl
theorem place_any (t a : Nat) (w : World) (ht : t < 4294967296) : Calls Try.prog 72 #[.agg (hcs t a).toArray] w fun e w' => e = .returned (.int .i64 ((t % 2 : Nat) : Int)) ∧ Below w.heap.size w w' := by
  have k0 : (hcs t a)[0]? = some (.int .u32 (t : Int)) := rfl
  go_enter Try.func72, Try.ntmps72
  go_wp2
  go_ret
  exact ⟨ret_int (by simp), (Below.refl _ _).alloc (Nat.le_refl _) _⟩
theorem info89 : ∃ ie, Try.prog.info? 89 = some ie ∧ ie.zero = some (.agg (bv nought).toArray) ∧ ie.size = 64 := by
  have h : (Try.prog.info? 89).map (fun i => (i.zero, i.size)) = some (some (.agg (bv nought).toArray), 64) := by kernel_rfl
  cases hi : Try.prog.info? 89 with
  | none => rw [hi] at h; cases h
  | some ie =>
    rw [hi] at h
    simp only [Option.map_some, Option.some.injEq, Prod.mk.injEq] at h
    exact ⟨ie, rfl, h.1, h.2⟩
theorem nought_len : (bv nought).length = 64 := rfl
/-- what a beginning of a turn does to a disk -/
def beginM (t area : Nat) (b : List UInt8) (d : DM) : DM × Int :=
  if (layM (pairsM t 0 b) ((2 + t % 2 * area : Nat) : Int) d).2 ≠ 0 then layM (pairsM t 0 b) ((2 + t % 2 * area : Nat) : Int) d
  else layM [(0, headB t area)] ((t % 2 : Nat) : Int) (layM (pairsM t 0 b) ((2 + t % 2 * area : Nat) : Int) d).1
/-- what a log has when a turn has begun -/
def Begun (w w' : World) (g dg area t : Nat) (b : List UInt8) (m : Nat) (br : Bool) : Prop :=
  ∃ A c Ab cb, Row w' g 83 (wcs dg area t A 1 c (sects m) br) ∧ w'.ownsRow 0 37 1 (.slice A 1 c) 1 [.slice Ab m cb] ∧ By w' Ab m cb b ∧
    (∀ k, (Value.slice A 1 c).ownBlock = some k → w.heap.size ≤ k) ∧ ∀ k, (Value.slice Ab m cb).ownBlock = some k → w.heap.size ≤ k
theorem lay_pend (L : List (Int × List UInt8)) (f : Int) (d : DM) : (layM L f d).1.pend.length ≤ d.pend.length + L.length := by
  have hW : ∀ (L : List (Int × List UInt8)) (d : DM), (layW L f d).1.pend.length ≤ d.pend.length + L.length := by
    intro L
    induction L with
    | nil => intro d; exact Nat.le_refl _
    | cons p ps ih =>
      intro d
      have h1 := write_pend d (f + p.1) p.2
      show (if _ then _ else _ : DM × Int).1.pend.length ≤ _
      split
      · simp only [List.length_cons]; omega
      · have := ih (d.writeM (f + p.1) p.2).1
        simp only [List.length_cons]; omega
  unfold layM
  split
  · exact hW L d
  · have h1 := hW L d
    have h2 : (layW L f d).1.syncM.1.pend.length ≤ (layW L f d).1.pend.length := by
      unfold DM.syncM
      split
      · exact Nat.zero_le _
      · rw [pre_pend]; exact Nat.le_refl _
    omega
set_option maxHeartbeats 8000000 in
theorem begin_any (g dg area turn n c used : Nat) (A : Option Addr) (br : Bool) (t : Nat) (A2 : Option Addr) (m c2 : Nat) (b : List UInt8) (d : DM) (F : Nat → Prop) (w : World)
    (hw : Row w g 83 (wcs dg area turn A n c used br)) (hd : Dk w F dg d) (hs : Sl w w.heap.size A2 m c2 b) (hm : m ≤ 40000) (ha : area ≤ 1000) (ht : t < 4294967296) (hp : d.pend.length ≤ 900000) :
    Calls Try.prog 47 #[.pointer (some ⟨g, 0, none⟩), .int .u32 (t : Int), .slice A2 m c2] w fun e w' => e = .returned (.int .i64 (beginM t area b d).2) ∧
      ∃ F', Dk w' F' dg (beginM t area b d).1 ∧ Ext F F' w w' ∧ Off (fun k => F k ∨ k = g) w w' ∧
        ((beginM t area b d).2 ≠ 0 → Row w' g 83 (wcs dg area turn A n c used true)) ∧ ((beginM t area b d).2 = 0 → Begun w w' g dg area t b m br) := by
  have mixed : Try.prog.follows .mixedOrders = true := by kernel_rfl
  have hml : b.length = m := hs.len
  have HS := Lib.hid hs
  have HW := Lib.hid hw
  have HD := Lib.hid hd
  have k1 : (ccs t none 0 0 0).length = 3 := rfl
  clear hs hw hd
  go_enter Try.func47, Try.ntmps47
  go_wp2_with fail
  have r1 : Row (w.alloc (.cells #[.int .u32 (t : Int), .slice none 0 0, .int .i64 0] 81)) w.heap.size 81 (ccs t none 0 0 0) := Row.new w _ _
  have hb1 : Below w.heap.size w (w.alloc (.cells #[.int .u32 (t : Int), .slice none 0 0, .int .i64 0] 81)) := (Below.refl _ _).alloc (Nat.le_refl _) _
  generalize w.alloc (.cells #[.int .u32 (t : Int), .slice none 0 0, .int .i64 0] 81) = w1 at r1 hb1 ⊢
  refine (next_any t 0 0 0 none A2 m c2 b w1 ((HS.out.below hb1).more hb1.size) hm (by omega) ht).mono ?_
  rintro e w2 ⟨Ab, cb, rfl, hby, hab, hb2⟩
  have R72 := Lib.hid (r1.below hb2 r1.lt)
  have HB2 := Lib.hid (hb1.trans (hb2.mono hb1.size))
  have HBY := Lib.hid hby
  have HAB : Hid (∀ k, (Value.slice Ab m cb).ownBlock = some k → w.heap.size ≤ k) := Lib.hid fun k hk => Nat.le_trans hb1.size (hab k hk)
  have HLC := Lib.hid (show (fcs t 0 Ab m cb).length = nofr.length from rfl)
  have HI := Lib.hid (show (Try.prog.info? 101).map (·.size) = some (fcs t 0 Ab m cb).length from size101)
  clear hby hab hb2 hb1 r1
  go_wp2_with (first
    | (with_reducible refine wpList_store_whole (op := ⟨none, _, _, _, _, _⟩) ?_ 101 (.tmp 8) (.tmp 16) ?_ w2.heap.size (fcs t 0 Ab m cb) ?_ ?_ 101 nofr ?hrow HLC.out (fcs_one _ _ _ _ _) HI.out ?_))
  case hrow => exact Row.new w2 _ nofr
  all_goals try (first | rfl | (simp; done))
  intro w3 hr3 hg3
  have hb3 : Below w2.heap.size w2 w3 := ((Below.refl _ _).alloc (Nat.le_refl _) _).grown hg3 (by simp) (fun k hk => by cases hk; exact Nat.le_refl _)
  have hs23 : w2.heap.size < w3.heap.size := hr3.lt
  obtain ⟨b8, hb8⟩ : ∃ b8, w2.heap.size = b8 := ⟨_, rfl⟩
  have hb8w : w.heap.size ≤ b8 := by rw [← hb8]; exact HB2.out.size
  rw [hb8] at hr3
  have R73 := Lib.hid (R72.out.below hb3 R72.out.lt)
  have R83 := Lib.hid hr3
  have HB3 := Lib.hid (HB2.out.trans (hb3.mono HB2.out.size))
  have HBY3 := Lib.hid (own_below HBY.out hb3)
  have HB8 := Lib.hid hb8w
  clear hr3 hg3 hb3 hs23 hb8w
  go_wp2_with fail
  rw [hb8]
  clear hb8
  obtain ⟨d1, hd1⟩ : ∃ d1, (layM (pairsM t 0 b) ((2 + t % 2 * area : Nat) : Int) d).1 = d1 := ⟨_, rfl⟩
  obtain ⟨er, her⟩ : ∃ er, (layM (pairsM t 0 b) ((2 + t % 2 * area : Nat) : Int) d).2 = er := ⟨_, rfl⟩
  have HD1 := Lib.hid hd1
  have HER := Lib.hid her
  have hpd1 : d1.pend.length ≤ 910000 := by
    rw [← hd1]
    have h1 := lay_pend (pairsM t 0 b) ((2 + t % 2 * area : Nat) : Int) d
    have h2 : (pairsM t 0 b).length = sects b.length := by simp [pairsM]
    have h3 := sects_most b.length (by omega)
    omega
  clear hd1 her
  have h0 : Row w3 g 83 (wcs dg area turn A n c used br) := HW.out.below HB3.out HW.out.lt
  have HF := Lib.hid (first_any g dg area turn used n c A br t w3.drew (Row.drew h0) ha ht)
  have HI8 := Lib.hid (show (Try.prog.info? 101).map (·.size) = some (fcs t 0 Ab m cb).length from size101)
  refine wp_region_held_drew (S := (fun w' => Row w' b8 101 (fcs t 0 Ab m cb))) (by kernel_rfl) R83.out (fun hHeld => ?_)
  refine wpAnyH_take (i := 0) (oi := ⟨some 17, _, _, _, _, _⟩) (v := ?v0) rfl (by kernel_rfl) (by kernel_rfl) (by kernel_rfl) (fun _ _ _ h => h) (Or.inl ⟨by rfl, ?y0⟩) hHeld ?r0
  case y0 =>
    rintro w' hSw
    go_simp
    try with_reducible rfl
  try simp only [Act.put, List.setIfInBounds_toArray, List.set_cons_zero, List.set_cons_succ]
  refine wpAnyH_take (i := 1) (oi := ⟨some 18, _, _, _, _, _⟩) (v := ?v1) rfl (by kernel_rfl) (by kernel_rfl) (by kernel_rfl) (fun _ _ _ h => h) (Or.inl ⟨by rfl, ?y1⟩) hHeld ?r1
  case y1 =>
    rintro w' hSw
    go_simp
    try with_reducible rfl
  try simp only [Act.put, List.setIfInBounds_toArray, List.set_cons_zero, List.set_cons_succ]
  refine wpAnyH_take (i := 2) (oi := ⟨some 19, _, _, _, _, _⟩) (v := ?v2) rfl (by kernel_rfl) (by kernel_rfl) (by kernel_rfl) (fun _ _ _ h => h) (Or.inl ⟨by rfl, ?y2⟩) hHeld ?r2
  case y2 =>
    rintro w' hSw
    go_simp
    try with_reducible rfl
  try simp only [Act.put, List.setIfInBounds_toArray, List.set_cons_zero, List.set_cons_succ]
  refine wpAnyH_take (i := 4) (oi := ⟨some 21, _, _, _, _, _⟩) rfl (by kernel_rfl) (by kernel_rfl) (by kernel_rfl) (fun _ _ _ h => h) (yieldsIf_load_mid (by rfl) 101 (.tmp 8) rfl b8 0 ?x4 (fcs t 0 Ab m cb) _ (fun _ hS => Row.all hS) Try.underlying101 rfl HI8.out) hHeld ?r4
  case x4 => first | rfl | (simp [Act.eval, go_sem]; done)
  try simp only [Act.put, List.setIfInBounds_toArray, List.set_cons_zero, List.set_cons_succ]
  refine wpAnyH_ready (rs := [3]) (by kernel_rfl) (by simp) ?_
  refine AllReadyH.cons rfl (fun K hK => ?_) AllReadyH.nil
  go_simp
  refine (HF.out).mono ?_
  rintro e w4 ⟨rfl, hw4⟩
  subst hw4
  refine hK _ _ R83.out (fun _ => ?_)
  clear hK K
  try simp only [Act.put, List.setIfInBounds_toArray, List.set_cons_zero, List.set_cons_succ]
  refine wpAnyH_ready (rs := [5]) (by kernel_rfl) (by simp) ?_
  refine AllReadyH.cons rfl (fun K hK => ?_) AllReadyH.nil
  go_simp
  refine (parts_any t 0 Ab m cb w3.drew).mono ?_
  rintro e w5 ⟨rfl, hw5⟩
  have r95 : Row w5 w3.heap.size 101 (fcs t 0 Ab m cb) := by rw [hw5]; exact Row.new w3.drew _ _
  have hb5 : Below w3.heap.size w3 w5 := by rw [hw5]; exact (Below.refl _ _).drew.alloc (Nat.le_refl _) _
  clear hw5
  have R75 := Lib.hid (R73.out.below hb5 R73.out.lt)
  have R85 := Lib.hid (R83.out.below hb5 R83.out.lt)
  have HB5 := Lib.hid (HB3.out.trans (hb5.mono HB3.out.size))
  have HBY5 := Lib.hid (own_below HBY3.out hb5)
  have R95 := Lib.hid r95
  clear hb5 r95
  refine hK _ _ R85.out (fun _ => ?_)
  clear hK K
  try simp only [Act.put, List.setIfInBounds_toArray, List.set_cons_zero, List.set_cons_succ]
  refine wpAnyH_ready (rs := [6]) (by kernel_rfl) (by simp) ?_
  refine AllReadyH.cons rfl (fun K hK => ?_) AllReadyH.nil
  go_simp
  have hl2 : (pairsM t 0 b).length = sects b.length := by simp [pairsM]
  have hl3 := sects_most b.length (by omega)
  have hf1 : 2 + t % 2 * area ≤ 10000 := by
    rcases Nat.mod_two_eq_zero_or_one t with e | e <;> rw [e] <;> omega
  refine (lay_dk g dg area turn n c used A br (2 + t % 2 * area) _ _ (pairsM t 0 b) d F w5 (HW.out.below HB5.out HW.out.lt) (HD.out.below HB5.out) (by omega) hf1 (enters_of Try.func78 (by kernel_rfl) rfl) (parts_seq R95.out HBY5.out hm ht (by omega))).mono ?_
  rintro e w6 ⟨rfl, F6, hd6, hx6, ho6, hr6⟩
  rw [HD1.out] at hd6
  rw [HER.out] at hr6 ⊢
  have hn7 : ¬ (F w.heap.size ∨ w.heap.size = g) := fun h => h.elim (fun h => by have := HD.out.1.2 _ h; omega) (fun e => by have := HW.out.lt; omega)
  have hn8 : ¬ (F b8 ∨ b8 = g) := fun h => h.elim (fun h => by have := HD.out.1.2 _ h; have := HB8.out; omega) (fun e => by have := HW.out.lt; have := HB8.out; omega)
  have R76 : Hid (Row w6 w.heap.size 81 (ccs t none 0 0 0)) := (ho6.block _ R75.out.lt hn7).trans R75.out
  have R86 : Hid (Row w6 b8 101 (fcs t 0 Ab m cb)) := (ho6.block _ R85.out.lt hn8).trans R85.out
  have HBY6 := Lib.hid (own_kept HBY5.out fun k hk hlt => ho6.block k hlt (fun h => h.elim (fun h => by have := HD.out.1.2 _ h; have := HAB.out k hk; omega) (fun e => by have := HW.out.lt; have := HAB.out k hk; omega)))
  have HO6 : Hid (Off (fun k => F k ∨ k = g) w w6) := Lib.hid ((Off.of_below HB5.out).trans (Ext.refl _ _ _) ho6)
  have HX6 : Hid (Ext F F6 w w6) := Lib.hid fun k hk => by
    rcases hx6 k hk with h | h
    · exact .inl h
    · exact .inr ⟨Nat.le_trans HB5.out.size h.1, h.2⟩
  have HD6 := Lib.hid hd6
  have HW6 := Lib.hid hr6
  clear hd6 hx6 ho6 hr6 hn7 hn8 hl2 hl3 hf1
  refine hK _ _ R86.out (fun _ => ?_)
  clear hK K
  try simp only [Act.put, List.setIfInBounds_toArray, List.set_cons_zero, List.set_cons_succ]
  refine wpAnyH_take (i := 7) (oi := ⟨some 9, _, _, _, _, _⟩) (v := ?v7) rfl (by kernel_rfl) (by kernel_rfl) (by kernel_rfl) (fun _ _ _ h => h) (Or.inl ⟨by rfl, ?y7⟩) R86.out ?r7
  case y7 =>
    rintro w' hSw
    go_simp
    try with_reducible rfl
  try simp only [Act.put, List.setIfInBounds_toArray, List.set_cons_zero, List.set_cons_succ]
  refine wpAnyH_done (by kernel_rfl) ?_ _
  by_cases h0 : er = 0
  · subst h0
    have c1 : w6.cell? ⟨g, 1, none⟩ = some (.int .i64 (area : Int)) := HW6.out.cell 1
    have hau : IntKind.u32.wrap (area : Int) = area := by rw [IntKind.wrap_u32]; omega
    have HLH := Lib.hid (show (hcs t area).length = ([.int .u32 0, .int .u32 0] : List Value).length from rfl)
    have HIH := Lib.hid (show (Try.prog.info? 106).map (·.size) = some (hcs t area).length from size106)
    go_wp2_with (first
      | (with_reducible refine wpList_store_whole (op := ⟨none, _, _, _, _, _⟩) ?_ 106 (.tmp 10) (.tmp 33) ?_ w6.heap.size (hcs t area) ?_ ?_ 106 [.int .u32 0, .int .u32 0] ?hrow2 HLH.out (hcs_one _ _) HIH.out ?_))
    case hrow2 => exact Row.new w6 _ [.int .u32 0, .int .u32 0]
    all_goals try (first | rfl | (simp; done))
    intro w7 hr7 hg7
    have hb7 : Below w6.heap.size w6 w7 := ((Below.refl _ _).alloc (Nat.le_refl _) _).grown hg7 (by simp) (fun k hk => by cases hk; exact Nat.le_refl _)
    obtain ⟨b10, hb10⟩ : ∃ b10, w6.heap.size = b10 := ⟨_, rfl⟩
    have R107 : Hid (Row w7 b10 106 (hcs t area)) := by rw [← hb10]; exact hr7
    have HB7 := Lib.hid hb7
    have HW7 := Lib.hid (HW6.out.below hb7 HW6.out.lt)
    clear hr7 hg7 hb7 c1
    go_wp2_with fail
    rw [hb10]
    clear hb10
    refine wp_region_held_drew (S := (fun w' => Row w' b10 106 (hcs t area))) (by kernel_rfl) R107.out (fun hHeld2 => ?_)
    refine wpAnyH_take (i := 0) (oi := ⟨some 34, _, _, _, _, _⟩) (v := ?v0z) rfl (by kernel_rfl) (by kernel_rfl) (by kernel_rfl) (fun _ _ _ h => h) (Or.inl ⟨by rfl, ?y0z⟩) hHeld2 ?r0z
    case y0z =>
      rintro w' hSw
      go_simp
      try with_reducible rfl
    try simp only [Act.put, List.setIfInBounds_toArray, List.set_cons_zero, List.set_cons_succ]
    refine wpAnyH_take (i := 1) (oi := ⟨some 35, _, _, _, _, _⟩) rfl (by kernel_rfl) (by kernel_rfl) (by kernel_rfl) (fun _ _ _ h => h) (yieldsIf_load_mid (by rfl) 106 (.tmp 10) rfl b10 0 ?x1z (hcs t area) _ (fun _ hS => Row.all hS) Try.underlying106 rfl HIH.out) hHeld2 ?r1z
    case x1z => first | rfl | (simp [Act.eval, go_sem]; done)
    try simp only [Act.put, List.setIfInBounds_toArray, List.set_cons_zero, List.set_cons_succ]
    refine wpAnyH_take (i := 3) (oi := ⟨some 37, _, _, _, _, _⟩) rfl (by kernel_rfl) (by kernel_rfl) (by kernel_rfl) (fun _ _ _ h => h) (yieldsIf_load_mid (by rfl) 106 (.tmp 10) rfl b10 0 ?x3z (hcs t area) _ (fun _ hS => Row.all hS) Try.underlying106 rfl HIH.out) hHeld2 ?r3z
    case x3z => first | rfl | (simp [Act.eval, go_sem]; done)
    try simp only [Act.put, List.setIfInBounds_toArray, List.set_cons_zero, List.set_cons_succ]
    refine wpAnyH_ready (rs := [2]) (by kernel_rfl) (by simp) ?_
    refine AllReadyH.cons rfl (fun K hK => ?_) AllReadyH.nil
    go_simp
    refine (place_any t area w7.drew ht).mono ?_
    rintro e w8 ⟨rfl, hb8⟩
    replace hb8 : Below w7.heap.size w7 w8 := undrew hb8
    have R108 := Lib.hid (R107.out.below hb8 R107.out.lt)
    have HB8' := Lib.hid (HB7.out.trans (hb8.mono HB7.out.size))
    clear hb8
    refine hK _ _ R108.out (fun _ => ?_)
    clear hK K
    try simp only [Act.put, List.setIfInBounds_toArray, List.set_cons_zero, List.set_cons_succ]
    refine wpAnyH_ready (rs := [4]) (by kernel_rfl) (by simp) ?_
    refine AllReadyH.cons rfl (fun K hK => ?_) AllReadyH.nil
    go_simp
    refine (sector_any t area w8 ht (by omega)).mono ?_
    rintro e w9 ⟨rfl, hb9⟩
    have R109 := Lib.hid (R108.out.below hb9 R108.out.lt)
    have HB9 := Lib.hid (HB8'.out.trans (hb9.mono HB8'.out.size))
    clear hb9
    refine hK _ _ R109.out (fun _ => ?_)
    clear hK K
    try simp only [Act.put, List.setIfInBounds_toArray, List.set_cons_zero, List.set_cons_succ]
    refine wpAnyH_ready (rs := [5]) (by kernel_rfl) (by simp) ?_
    refine AllReadyH.cons rfl (fun K hK => ?_) AllReadyH.nil
    rw [if_pos (by rfl)]
    obtain ⟨ie, hie, hie0, hie1⟩ := info89
    refine wp_buildOne 72 89 (.tmp 38) rfl (bv (headB t area)) (bv nought) ie rfl Try.underlying72 hie hie0 (hie1.trans nought_len.symm) (by rw [bv_length, headB_len]; rfl) (by rw [nought_len]; omega) (by rw [nought_len]; omega) ?_
    have ra : Row (w9.alloc (.cells (bv (headB t area)).toArray 89)) w9.heap.size 89 (bv (headB t area)) := Row.new w9 _ _
    have hba : Below w9.heap.size w9 (w9.alloc (.cells (bv (headB t area)).toArray 89)) := (Below.refl _ _).alloc (Nat.le_refl _) _
    generalize w9.alloc (.cells (bv (headB t area)).toArray 89) = wa at ra hba ⊢
    obtain ⟨gs, hgs⟩ : ∃ gs, w9.heap.size = gs := ⟨_, rfl⟩
    have R10a := Lib.hid (R109.out.below hba R109.out.lt)
    have HBa := Lib.hid (HB9.out.trans (hba.mono HB9.out.size))
    have HGS : Hid (w6.heap.size ≤ gs) := Lib.hid (by rw [← hgs]; exact HB9.out.size)
    rw [hgs] at ra
    have RA := Lib.hid ra
    rw [hgs]
    clear ra hba hgs hie hie0 hie1
    refine hK _ _ R10a.out (fun _ => ?_)
    clear hK K
    try simp only [Act.put, List.setIfInBounds_toArray, List.set_cons_zero, List.set_cons_succ]
    refine wpAnyH_ready (rs := [6]) (by kernel_rfl) (by simp) ?_
    refine AllReadyH.cons rfl (fun K hK => ?_) AllReadyH.nil
    go_simp
    refine (sall_any (some ⟨gs, 0, none⟩) 1 1 wa).mono ?_
    rintro e wb ⟨rfl, hwb⟩
    have rb : Row wb wa.heap.size 72 [.slice (some ⟨gs, 0, none⟩) 1 1] := by rw [hwb]; exact Row.new wa _ _
    have hbb : Below wa.heap.size wa wb := by rw [hwb]; exact (Below.refl _ _).alloc (Nat.le_refl _) _
    clear hwb
    have R10b := Lib.hid (R10a.out.below hbb R10a.out.lt)
    have HBb := Lib.hid (HBa.out.trans (hbb.mono HBa.out.size))
    have RAb := Lib.hid (RA.out.below hbb RA.out.lt)
    have RB := Lib.hid rb
    clear hbb rb
    refine hK _ _ R10b.out (fun _ => ?_)
    clear hK K
    try simp only [Act.put, List.setIfInBounds_toArray, List.set_cons_zero, List.set_cons_succ]
    refine wpAnyH_ready (rs := [7]) (by kernel_rfl) (by simp) ?_
    refine AllReadyH.cons rfl (fun K hK => ?_) AllReadyH.nil
    go_simp
    have hdb : Dk wb F6 dg d1 := HD6.out.below HBb.out
    have hdb' := hdb
    have hnF : ¬ F6 gs := fun h => by have := HD6.out.1.2 gs h; have := HGS.out; omega
    have hbls : Bls wb (fun k => k < wb.heap.size ∧ ¬ F6 k) (some ⟨gs, 0, none⟩) [headB t area] := fun _ => ⟨gs, 0, rfl, ⟨RAb.out.lt, hnF⟩, fun i hi => by
      have : i = 0 := by simp at hi; omega
      subst this
      exact ⟨headB_len _ _, Row.all RAb.out⟩⟩
    have h2b : t % 2 ≤ 10000 := by omega
    have hlst : (List.range [headB t area].length).map (fun (i : Nat) => ((i : Int), [headB t area].getD i nought)) = [(0, headB t area)] := rfl
    have hsq := all_seq (by simp) RB.out hbls
    rw [hlst] at hsq
    have hmod : ((t % 2 : Nat) : Int) = (t : Int) % 2 := by simp
    have HLY := lay_dk g dg area turn n c used A (br || decide ((0 : Int) ≠ 0)) (t % 2) _ _ [(0, headB t area)] d1 F6 wb (HW6.out.below HBb.out HW6.out.lt) hdb (by simp; omega) h2b (enters_of Try.func71 (by kernel_rfl) rfl) hsq
    have e1 : layM [(0, headB t area)] ((t : Int) % 2) d1 = layM [(0, headB t area)] ((t % 2 : Nat) : Int) d1 := by rw [hmod]
    rw [show ((t % 2 : Nat) : Int) = (t : Int) % 2 from hmod] at HLY
    rw [e1] at HLY
    refine HLY.mono ?_
    rintro e wc ⟨rfl, F9, hd9, hx9, ho9, hr9⟩
    clear HLY hsq hlst hbls hdb e1 hmod
    obtain ⟨d2, hd2⟩ : ∃ d2, (layM [(0, headB t area)] ((t % 2 : Nat) : Int) d1).1 = d2 := ⟨_, rfl⟩
    obtain ⟨e2, he2⟩ : ∃ e2, (layM [(0, headB t area)] ((t % 2 : Nat) : Int) d1).2 = e2 := ⟨_, rfl⟩
    rw [hd2] at hd9
    rw [he2] at hr9 ⊢
    have hB : beginM t area b d = (d2, e2) := by
      unfold beginM
      rw [if_neg (by rw [HER.out]; simp), HD1.out, ← hd2, ← he2]
    have HBG := Lib.hid hB
    have hneg : ∀ k, w.heap.size ≤ k → k ≠ g := fun k hk e => by have := HW.out.lt; omega
    have hkeep : ∀ k, k < w6.heap.size → ¬ F6 k → k ≠ g → wc.heap[k]? = w6.heap[k]? := fun k hk h1 h2 => (ho9.block k (Nat.lt_of_lt_of_le hk HBb.out.size) (fun h => h.elim h1 h2)).trans (HBb.out.block k hk)
    have R7c : Hid (Row wc w.heap.size 81 (ccs t none 0 0 0)) := (hkeep _ R76.out.lt (HD6.out.not R76.out (by decide) (by decide) (by decide)) (hneg _ (Nat.le_refl _))).trans R76.out
    have R8c : Hid (Row wc b8 101 (fcs t 0 Ab m cb)) := (hkeep _ R86.out.lt (HD6.out.not R86.out (by decide) (by decide) (by decide)) (hneg _ HB8.out)).trans R86.out
    have R10c : Hid (Row wc b10 106 (hcs t area)) := (ho9.block _ R10b.out.lt (fun h => h.elim (fun h => hdb'.not R10b.out (by decide) (by decide) (by decide) h) (fun e => by have h1 := row_type R10b.out (e ▸ HW6.out.below HBb.out HW6.out.lt); exact absurd h1 (by decide)))).trans R10b.out
    have HBYc := Lib.hid (own_kept HBY6.out fun k hk hlt => hkeep k hlt (fun hf => by
      rcases HBY6.out.2 with ⟨hv, _⟩ | ⟨g', cap, cur, hv, _, hg', _⟩
      · rw [hv] at hk; cases hk
      · rw [hv] at hk
        cases hk
        have h0 : Row w6 g' 5 cur.toList := by show _ = _; simpa using hg'
        exact HD6.out.not h0 (by decide) (by decide) (by decide) hf) (hneg k (HAB.out k hk)))
    have HOc : Hid (Off (fun k => F k ∨ k = g) w wc) := Lib.hid ⟨ho9.os.trans (HBb.out.os.trans HO6.out.os), ho9.tape.trans (HBb.out.tape.trans HO6.out.tape), ho9.output.trans (HBb.out.output.trans HO6.out.output), Nat.le_trans HO6.out.size (Nat.le_trans HBb.out.size ho9.size), fun k hk hn => by
      have hk6 : ¬ F6 k := fun hf => by
        rcases HX6.out k hf with h | h
        · exact hn (.inl h)
        · omega
      exact (hkeep k (Nat.lt_of_lt_of_le hk HO6.out.size) hk6 (fun e => hn (.inr e))).trans (HO6.out.block k hk hn)⟩
    have HXc : Hid (Ext F F9 w wc) := Lib.hid fun k hk => by
      rcases hx9 k hk with h | h
      · rcases HX6.out k h with h | h
        · exact .inl h
        · exact .inr ⟨h.1, Nat.lt_of_lt_of_le h.2 (Nat.le_trans HBb.out.size ho9.size)⟩
      · exact .inr ⟨Nat.le_trans HO6.out.size (Nat.le_trans HBb.out.size h.1), h.2⟩
    have HD9 := Lib.hid hd9
    have HW9 := Lib.hid hr9
    have HE2 := Lib.hid he2
    clear hd9 hr9 ho9 hx9 he2 hd2 hB hkeep
    refine hK _ _ R10c.out (fun _ => ?_)
    clear hK K
    try simp only [Act.put, List.setIfInBounds_toArray, List.set_cons_zero, List.set_cons_succ]
    refine wpAnyH_take (i := 8) (oi := ⟨some 11, _, _, _, _, _⟩) (v := ?v8z) rfl (by kernel_rfl) (by kernel_rfl) (by kernel_rfl) (fun _ _ _ h => h) (Or.inl ⟨by rfl, ?y8z⟩) R10c.out ?r8z
    case y8z =>
      rintro w' hSw
      go_simp
      try with_reducible rfl
    try simp only [Act.put, List.setIfInBounds_toArray, List.set_cons_zero, List.set_cons_succ]
    refine wpAnyH_done (by kernel_rfl) ?_ _
    by_cases h1 : e2 = 0
    · subst h1
      have HCI := Lib.hid (show (Try.prog.info? 81).map (·.size) = some (ccs t none 0 0 0).length from size81)
      have HFI := Lib.hid (show (Try.prog.info? 101).map (·.size) = some (fcs t 0 Ab m cb).length from size101)
      go_wp2_with (first
        | (with_reducible refine wpList_load_row (op := ⟨some 46, _, _, _, _, _⟩) ?_ 81 (.tmp 7) ?_ w.heap.size 0 ?_ (ccs t none 0 0 0) _ (Row.all R7c.out) Try.underlying81 ?_ HCI.out ?_)
        | (with_reducible refine wpList_load_row (op := ⟨some 47, _, _, _, _, _⟩) ?_ 101 (.tmp 8) ?_ b8 0 ?_ (fcs t 0 Ab m cb) _ (Row.all R8c.out) Try.underlying101 ?_ HFI.out ?_))
      all_goals try (first | rfl | (simp; done))
      go_wp2_with fail
      refine (with_any t 0 0 0 none [] t 0 Ab m cb wc (World.ownsRow_nil _ _ _ _) hm (by omega) (by omega)).mono ?_
      rintro e wd ⟨A', c', rfl, hown, hblk, hgd⟩
      rw [Nat.zero_add, Nat.zero_add] at *
      have RWd : Hid (Row wd g 83 (wcs dg area turn A n c used ((br || decide ((0 : Int) ≠ 0)) || decide ((0 : Int) ≠ 0)))) := (hgd.block g HW9.out.lt (by simp [Value.ownBlock])).trans HW9.out
      have HBYd := Lib.hid (own_kept HBYc.out fun k _ hlt => hgd.block k hlt (by simp [Value.ownBlock]))
      have HBK : Hid (∀ k, (Value.slice A' 1 c').ownBlock = some k → w.heap.size ≤ k) := Lib.hid fun k hk => by
        rcases hblk k hk with h | h
        · cases h
        · exact Nat.le_trans HOc.out.size h
      have HOW : Hid (wd.ownsRow 0 37 1 (.slice A' 1 c') 1 [.slice Ab m cb]) := hown
      have HDd := Lib.hid (HD9.out.below (show Below wc.heap.size wc wd from ⟨hgd.os, hgd.tape, hgd.output, hgd.size, fun k hk => hgd.block k hk (by simp [Value.ownBlock])⟩))
      have HOd : Hid (Off (fun k => F k ∨ k = g) w wd) := Lib.hid (HOc.out.grown hgd (by intro r e; cases e))
      have HZd := Lib.hid hgd.size
      clear hown hblk hgd
      have HCI2 := Lib.hid (show (Try.prog.info? 81).map (·.size) = some (ccs t A' 1 c' (sects m)).length from size81)
      go_wp2_with (first
        | (with_reducible refine wpList_store_in (op := ⟨none, _, _, _, _, _⟩) ?_ 81 (.tmp 50) (.tmp 48) ?_ g 2 (ccs t A' 1 c' (sects m)) ?_ ?_ 83 (wcs dg area turn A n c used ((br || decide ((0 : Int) ≠ 0)) || decide ((0 : Int) ≠ 0))) RWd.out ?hfit (ccs_one _ _ _ _ _) HCI2.out ?_))
      case hfit => exact Nat.le_of_ble_eq_true rfl
      all_goals try (first | rfl | (simp; done))
      intro we hre hge
      have hgk : ∀ k t' cs, Row wd k t' cs → t' ≠ 83 → k ≠ g := fun k t' cs hr ht e => ht (row_type hr (e ▸ RWd.out))
      have hby_e : By we Ab m cb b := own_kept HBYd.out fun k hk hlt => hge.block k hlt (fun e => by
        rcases HBYd.out.2 with ⟨hv, _⟩ | ⟨g', cap, cur, hv, _, hg', _⟩
        · rw [hv] at hk; cases hk
        · rw [hv] at hk
          cases hk
          have h0 : Row wd g' 5 cur.toList := by show _ = _; simpa using hg'
          exact hgk _ _ _ h0 (by decide) (Option.some.inj e))
      have how_e : we.ownsRow 0 37 1 (.slice A' 1 c') 1 [.slice Ab m cb] := own_kept HOW.out fun k hk hlt => hge.block k hlt (fun e => by
        rcases HOW.out.2 with ⟨hv, _⟩ | ⟨g', cap, cur, hv, _, hg', _⟩
        · rw [hv] at hk; cases hk
        · rw [hv] at hk
          cases hk
          have h0 : Row wd g' 37 cur.toList := by show _ = _; simpa using hg'
          exact hgk _ _ _ h0 (by decide) (Option.some.inj e))
      have hd_e : Dk we F9 dg d2 := ⟨HDd.out.1.off (F' := fun k => k = g) (fun k hk e => HDd.out.not RWd.out (by decide) (by decide) (by decide) (e ▸ hk)) (Off.of_grown hge (fun k e => (Option.some.inj e).symm)), fun k t' cs hr hk => by
        have hkg : k ≠ g := fun e => HDd.out.not RWd.out (by decide) (by decide) (by decide) (e ▸ hk)
        exact HDd.out.2 k t' cs ((hge.block k (HDd.out.1.2 k hk) (fun e => hkg (Option.some.inj e))).symm.trans hr) hk⟩
      have HFIN : Hid (Dk we F9 dg d2 ∧ Off (fun k => F k ∨ k = g) w we ∧ Begun w we g dg area t b m br ∧ Ext F F9 w we) := Lib.hid ⟨hd_e, HOd.out.grown hge (fun r e => .inl (.inr (Option.some.inj e).symm)), ⟨A', c', Ab, cb, by simpa [splice, wcs, ccs] using hre, how_e, hby_e, HBK.out, HAB.out⟩, fun k hk => by
        rcases HXc.out k hk with h | h
        · exact .inl h
        · exact .inr ⟨h.1, Nat.lt_of_lt_of_le h.2 (Nat.le_trans HZd.out hge.size)⟩⟩
      clear hre hge hgk hby_e how_e hd_e
      go_wp2
      go_ret
      rw [HBG.out]
      exact ⟨rfl, F9, HFIN.out.1, HFIN.out.2.2.2, HFIN.out.2.1, fun h => absurd rfl h, fun _ => HFIN.out.2.2.1⟩
    · go_wp2
      go_ret
      rw [HBG.out]
      refine ⟨rfl, F9, HD9.out, HXc.out, HOc.out, fun _ => ?_, fun h => absurd h h1⟩
      have := HW9.out
      rwa [show ((br || decide ((0 : Int) ≠ 0)) || decide (e2 ≠ 0)) = true by simp [h1]] at this
  · go_wp2
    go_ret
    have hB : beginM t area b d = (d1, er) := by
      unfold beginM
      rw [if_pos (by rw [HER.out]; exact h0), ← HD1.out, ← HER.out]
    rw [hB]
    refine ⟨rfl, F6, HD6.out, HX6.out, HO6.out, fun _ => ?_, fun h => absurd h h0⟩
    have := HW6.out
    rwa [show (br || decide (er ≠ 0)) = true by simp [h0]] at this
end Go.Proofs.Yteemdjamgbbjhaa.Wl
