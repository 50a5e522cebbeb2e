/-
  Part 5 of the contracts that the law rests on.
-/
import Derived.Scope
import Derived.Deep.LoopGhost
import Derived.OrdersHeld
import Derived.Laws.BytesArg
import Derived.WideShapes
import Derived.Test.YteemdjamgbbjhaaWf1
import Derived.Test.YteemdjamgbbjhaaWf2
import Derived.Test.YteemdjamgbbjhaaWf3
import Derived.Test.YteemdjamgbbjhaaWf4
/-
  The frames that chainIn holds so far.
-/
namespace Go.Proofs.Yteemdjamgbbjhaa.Wl
set_option maxRecDepth 100000
open Go.RowKit Go.Shelf Go.Proofs.Yteemdjamgbbjhaa.Wd Go.Proofs.Yteemdjamgbbjhaa.Dsk Go.Proofs.Yteemdjamgbbjhaa.Oct Go.Proofs.Yteemdjamgbbjhaa.Sum

/-- the frames of a chain: a row of slices, each of bytes of its own, all in blocks from one on -/
def Frs (W : World) (base : Nat) (A : Option Addr) (cc : Nat) (fs : List (List UInt8)) : Prop :=
  ∃ xs, W.ownsRow 0 37 1 (.slice A fs.length cc) fs.length xs ∧ (∀ k, (Value.slice A fs.length cc).ownBlock = some k → base ≤ k) ∧
    ∀ i, i < fs.length → ∃ Ai ni ci, xs[i]? = some (.slice Ai ni ci) ∧ By W Ai ni ci (fs.getD i []) ∧ ni ≤ 40000 ∧ ∀ k, (Value.slice Ai ni ci).ownBlock = some k → base ≤ k
theorem Frs.keepR {W W' : World} {base cc : Nat} {A : Option Addr} {fs : List (List UInt8)} (h : Frs W base A cc fs) (hk : KeepR W W') : Frs W' base A cc fs := by
  obtain ⟨xs, h1, h2, h3⟩ := h
  refine ⟨xs, own_keepR h1 (.inl rfl) hk, h2, fun i hi => ?_⟩
  obtain ⟨Ai, ni, ci, h4, h5, h6, h7⟩ := h3 i hi
  exact ⟨Ai, ni, ci, h4, own_keepR h5 (.inr rfl) hk, h6, h7⟩
theorem keepR_noncells {W W' : World} {row : Option Nat} (hg : W.grownBy W' row) (hr : ∀ r, row = some r → ∃ o : Obj, W.heap[r]? = some o ∧ o.isCells = false) : KeepR W W' := fun _ _ _ _ hk => row_kept hk hg hr
/-- what chainIn's rounds hold -/
structure CI (w : World) (t gs u c : Nat) (L fs : List (List UInt8)) (W : World) : Prop where
  b3 : Row W w.heap.size 72 [.slice (some ⟨gs, u * 64, none⟩) L.length c]
  b4 : Row W (w.heap.size + 1) 81 (ccs 0 none 0 0 0)
  b5 : ∃ A cc, Row W (w.heap.size + 2) 81 (ccs t A fs.length cc (usedM fs)) ∧ Frs W w.heap.size A cc fs
  below : Below w.heap.size w W
  sz : w.heap.size + 3 ≤ W.heap.size
theorem CI.own {w : World} {t gs u c : Nat} {L fs : List (List UInt8)} {W W' : World} {row : Option Nat} (h : CI w t gs u c L fs W) (hg : W.grownBy W' row) (hr : ∀ r, row = some r → w.heap.size ≤ r ∧ ∃ o : Obj, W.heap[r]? = some o ∧ o.isCells = false) : CI w t gs u c L fs W' := by
  obtain ⟨b3, b4, ⟨A, cc, b5, hf⟩, hb, sz⟩ := h
  have hr' := fun r e => (hr r e).2
  exact ⟨row_kept b3 hg hr', row_kept b4 hg hr', ⟨A, cc, row_kept b5 hg hr', hf.keepR (keepR_noncells hg hr')⟩, hb.grown hg hb.size (fun r e => (hr r e).1), Nat.le_trans sz hg.size⟩
theorem CI.more {w : World} {t gs u c : Nat} {L fs : List (List UInt8)} {W W' : World} (h : CI w t gs u c L fs W) (hb : Below W.heap.size W W') : CI w t gs u c L fs W' := by
  obtain ⟨b3, b4, ⟨A, cc, b5, hf⟩, hb0, sz⟩ := h
  exact ⟨b3.below hb b3.lt, b4.below hb b4.lt, ⟨A, cc, b5.below hb b5.lt, hf.keepR (keepR_below hb)⟩, hb0.trans (hb.mono hb0.size), Nat.le_trans sz hb.size⟩
theorem Frs.nil (W : World) (base : Nat) : Frs W base none 0 [] := by
  refine ⟨[], (show W.ownsRow 0 37 1 (.slice none 0 0) 0 [] from ⟨rfl, .inl ⟨rfl, rfl⟩⟩), ?_, ?_⟩
  · intro k h
    cases h
  · intro i hi
    exact absurd hi (by simp)
theorem usedM_snoc (fs : List (List UInt8)) (b : List UInt8) : usedM (fs ++ [b]) = usedM fs + sects b.length := by simp [usedM]
/-- one frame more -/
theorem Frs.snoc {W W' : World} {base cc cc' m c2 : Nat} {A A' A2 : Option Addr} {fs : List (List UInt8)} {b : List UInt8} {xs : List Value} (hbase : base ≤ W.heap.size)
    (hfs : ∀ i, i < fs.length → ∃ Ai ni ci, xs[i]? = some (.slice Ai ni ci) ∧ By W Ai ni ci (fs.getD i []) ∧ ni ≤ 40000 ∧ ∀ k, (Value.slice Ai ni ci).ownBlock = some k → base ≤ k)
    (hA : ∀ k, (Value.slice A fs.length cc).ownBlock = some k → base ≤ k) (hxl : xs.length = fs.length)
    (hb : By W A2 m c2 b) (hm : m ≤ 40000) (hb2 : ∀ k, (Value.slice A2 m c2).ownBlock = some k → base ≤ k)
    (ho : W'.ownsRow 0 37 1 (.slice A' (fs.length + 1) cc') (fs.length + 1) (xs ++ [.slice A2 m c2])) (hp : ∀ k, (Value.slice A' (fs.length + 1) cc').ownBlock = some k → (Value.slice A fs.length cc).ownBlock = some k ∨ W.heap.size ≤ k)
    (hk : ∀ k cs, Row W k 5 cs → Row W' k 5 cs) : Frs W' base A' cc' (fs ++ [b]) := by
  have hby : ∀ {Ai : Option Addr} {ni ci : Nat} {l : List UInt8}, By W Ai ni ci l → By W' Ai ni ci l := by
    intro Ai ni ci l h
    rcases h with ⟨hl, hv | ⟨g, cap, cur, hv, hb, hg, hr⟩⟩
    · exact ⟨hl, .inl hv⟩
    · have h0 : Row W g 5 cur.toList := by show _ = _; simpa using hg
      have h1 : W'.heap[g]? = _ := hk g _ h0
      exact ⟨hl, .inr ⟨g, cap, cur, hv, hb, by simpa using h1, hr⟩⟩
  refine ⟨xs ++ [.slice A2 m c2], by simpa using ho, fun k h => ?_, fun i hi => ?_⟩
  · rw [List.length_append] at h
    rcases hp k h with h | h
    · exact hA k h
    · omega
  · rw [List.length_append] at hi
    by_cases hlt : i < fs.length
    · obtain ⟨Ai, ni, ci, h4, h5, h6, h7⟩ := hfs i hlt
      refine ⟨Ai, ni, ci, ?_, ?_, h6, h7⟩
      · rw [List.getElem?_append_left (by omega)]; exact h4
      · have e : (fs ++ [b]).getD i [] = fs.getD i [] := by rw [List.getD_eq_getElem?_getD, List.getD_eq_getElem?_getD, List.getElem?_append_left hlt]
        rw [e]
        exact hby h5
    · have hie : i = fs.length := by simp at hi; omega
      subst hie
      refine ⟨A2, m, c2, ?_, ?_, hm, hb2⟩
      · rw [List.getElem?_append_right (by omega), hxl]; simp
      · have e : (fs ++ [b]).getD fs.length [] = b := by rw [List.getD_eq_getElem?_getD, List.getElem?_append_right (Nat.le_refl _)]; simp
        rw [e]
        exact hby hb
end Go.Proofs.Yteemdjamgbbjhaa.Wl

/-
  The parts as a sequence whose elements are known.
-/
namespace Go.Proofs.Yteemdjamgbbjhaa.Wl
set_option maxRecDepth 100000
open Go.RowKit Go.Shelf Go.Proofs.Yteemdjamgbbjhaa.Wd Go.Proofs.Yteemdjamgbbjhaa.Dsk Go.Proofs.Yteemdjamgbbjhaa.Oct Go.Proofs.Yteemdjamgbbjhaa.Sum

attribute [local go_sem] Oper.semAt_some

set_option maxHeartbeats 4000000 in
theorem parts_in_s (l Bf t k nn m c : Nat) (A : Option Addr) (b : List UInt8) (hnn : 1 ≤ nn) (hb : b.length ≤ 40000) (ht : t < 4294967296) (hk : k < 4294967296) (K0 : Nat → Prop) (J Jx : List IB → World → Prop) (W : World) (hJ : AbidesFrom W.heap.size J)
    (hY : ∀ pre x W1, J pre W1 → pre.length < sects b.length → (pre ++ [x]).map (·.1) <+: pairsM t k b → YieldAt Fence.wide (nn - 1) Try.prog l (encI x) W1 fun e W' =>
      (e = .returned (.bool true) ∧ J (pre ++ [x]) W' ∧ KT K0 W1 W') ∨ (e = .returned (.bool false) ∧ Jx (pre ++ [x]) W'))
    (hf : Row W Bf 101 (fcs t k A m c)) (hs : Sl W W.heap.size A m c b) (h0 : J [] W) :
    CallsIn Fence.wide nn Try.prog 78 #[.func (.yield l) #[] #[], .pointer (some ⟨Bf, 0, none⟩)] W fun e W' => (∃ v, e = .returned v) ∧
      ((∃ xs : List IB, xs.map (·.1) = pairsM t k b ∧ J xs W') ∨ (∃ pre : List IB, pre.map (·.1) <+: pairsM t k b ∧ Jx pre W')) := by
  obtain rfl : m = b.length := hs.len.symm
  have mixed : Try.prog.follows .mixedOrders = true := by kernel_rfl
  have HY := Lib.hid hY
  have HJ := Lib.hid hJ
  have RF := Lib.hid hf
  have HS := Lib.hid hs
  have hw32 : IntKind.u32.wrap (b.length : Int) = b.length := by rw [IntKind.wrap_u32]; omega
  have c0 : W.cell? ⟨Bf, 2, none⟩ = some (.slice A b.length c) := hf.cell 2
  clear hY hJ hf hs
  refine callsIn_of_wp Try.func78 rfl trivial ?_ rfl
  simp only [Try.ntmps78, List.size_toArray, List.length_cons, List.length_nil, Nat.reduceAdd, Nat.reduceSub, Array.replicate_succ, Array.replicate_zero, List.push_toArray, List.append_toArray, List.nil_append, List.cons_append]
  refine wpIn_wide.2 ?_
  go_wp2_with fail
  refine (sectors_any b.length W hb).mono ?_
  rintro e w1 ⟨rfl, rfl⟩
  go_wp2_with fail
  refine wp_region_held_drew (S := (fun w' => Row w' Bf 101 (fcs t k A b.length c))) (by kernel_rfl) RF.out (fun hHeld => ?_)
  refine wpAnyH_take (i := 0) (oi := ⟨some 11, _, _, _, _, _⟩) (v := ?v0) rfl (by kernel_rfl) (by kernel_rfl) (by kernel_rfl) (fun _ _ _ h => h) (Or.inl ⟨by rfl, ?y0⟩) hHeld ?r0
  case y0 =>
    rintro w' hSw
    go_simp
    try with_reducible rfl
  try simp only [Act.put, List.setIfInBounds_toArray, List.set_cons_zero, List.set_cons_succ]
  refine wpAnyH_take (i := 1) (oi := ⟨some 12, _, _, _, _, _⟩) (v := ?v1) rfl (by kernel_rfl) (by kernel_rfl) (by kernel_rfl) (fun _ _ _ h => h) (Or.inl ⟨by rfl, ?y1⟩) hHeld ?r1
  case y1 =>
    rintro w' hSw
    have c0 : w'.cell? ⟨Bf, 2, none⟩ = some (.slice A b.length c) := hSw.cell 2
    go_simp
    try with_reducible rfl
  try simp only [Act.put, List.setIfInBounds_toArray, List.set_cons_zero, List.set_cons_succ]
  refine wpAnyH_take (i := 2) (oi := ⟨some 13, _, _, _, _, _⟩) (v := ?v2) rfl (by kernel_rfl) (by kernel_rfl) (by kernel_rfl) (fun _ _ _ h => h) (Or.inl ⟨by rfl, ?y2⟩) hHeld ?r2
  case y2 =>
    rintro w' hSw
    go_simp
    try with_reducible rfl
  try simp only [Act.put, List.setIfInBounds_toArray, List.set_cons_zero, List.set_cons_succ]
  refine wpAnyH_take (i := 3) (oi := ⟨some 14, _, _, _, _, _⟩) (v := ?v3) rfl (by kernel_rfl) (by kernel_rfl) (by kernel_rfl) (fun _ _ _ h => h) (Or.inl ⟨by rfl, ?y3⟩) hHeld ?r3
  case y3 =>
    rintro w' hSw
    go_simp
    try with_reducible rfl
  try simp only [Act.put, List.setIfInBounds_toArray, List.set_cons_zero, List.set_cons_succ]
  refine wpAnyH_take (i := 5) (oi := ⟨some 16, _, _, _, _, _⟩) (v := ?v5) rfl (by kernel_rfl) (by kernel_rfl) (by kernel_rfl) (fun _ _ _ h => h) (Or.inl ⟨by rfl, ?y5⟩) hHeld ?r5
  case y5 =>
    rintro w' hSw
    go_simp
    try with_reducible rfl
  try simp only [Act.put, List.setIfInBounds_toArray, List.set_cons_zero, List.set_cons_succ]
  refine wpAnyH_take (i := 6) (oi := ⟨some 17, _, _, _, _, _⟩) (v := ?v6) rfl (by kernel_rfl) (by kernel_rfl) (by kernel_rfl) (fun _ _ _ h => h) (Or.inl ⟨by rfl, ?y6⟩) hHeld ?r6
  case y6 =>
    rintro w' hSw
    have c0 : w'.cell? ⟨Bf, 2, none⟩ = some (.slice A b.length c) := hSw.cell 2
    go_simp
    try with_reducible rfl
  try simp only [Act.put, List.setIfInBounds_toArray, List.set_cons_zero, List.set_cons_succ]
  refine wpAnyH_ready (rs := [4]) (by kernel_rfl) (by simp) ?_
  refine AllReadyH.cons rfl (fun K hK => ?_) AllReadyH.nil
  go_simp
  refine (put32_any none [] 0 0 b.length W.drew rfl (by omega) (by omega) (Bs.nil _ _ _)).mono ?_
  rintro e w2 ⟨g2, n2, rfl, hl2, hg2, hr2, hb2⟩
  replace hb2 : Below W.heap.size W w2 := undrew hb2
  have hn2 : n2 = 4 := by have := hl2.out; simp [hi_length] at this; omega
  subst hn2
  have R2 := Lib.hid (RF.out.below hb2 RF.out.lt)
  have HS2 := Lib.hid (HS.out.below hb2)
  have HB2 := Lib.hid hb2
  have HG2 := Lib.hid hr2
  have HGB := Lib.hid (show W.heap.size ≤ g2 from hg2)
  replace hg2 : W.heap.size ≤ g2 := hg2
  clear hb2 hr2 hg2 hl2
  refine hK _ _ R2.out (fun _ => ?_)
  clear hK K
  try simp only [Act.put, List.setIfInBounds_toArray, List.set_cons_zero, List.set_cons_succ]
  refine wpAnyH_ready (rs := [7]) (by kernel_rfl) (by simp) ?_
  refine AllReadyH.cons rfl (fun K hK => ?_) AllReadyH.nil
  obtain ⟨i0, hi0, hz0, hz1, hz2⟩ := info_parts info5
  have hown2 : w2.ownsRow W.heap.size 5 1 (.slice (some ⟨g2, 0, none⟩) 4 4) 4 (bv ([] ++ hi 4 b.length)) := Row.own HG2.out HGB.out (by rw [bv_length]; simp [hi_length]) (by unfold maxLen; omega)
  rw [if_pos (by rfl)]
  refine wp_append_any (.tmp 15) (.tmp 17) 37 rfl W.heap.size 5 i0 (.int .u8 0) Try.underlying37 hi0 hz0 hz1 hz2 rfl (.slice (some ⟨g2, 0, none⟩) 4 4) 4 _ rfl hown2 A b.length c b rfl rfl W.heap.size HS2.out.bs HS2.out.nil (by omega) HB2.out.size ?_
  clear hown2
  intro v3 w3 hown3 hg3
  have hall : bv ([] ++ hi 4 b.length) ++ bv b = bv (allB b) := by rw [← bv_append]; rfl
  rw [hall] at hown3
  have R3 := Lib.hid (R2.out.grown hg3 (by simp [Value.ownBlock]; have h1 := HGB.out; have h2 := RF.out.lt; omega))
  have HB3 := Lib.hid (HB2.out.grown hg3 HB2.out.size (fun j hj => by simp [Value.ownBlock] at hj; have := HGB.out; omega))
  obtain ⟨gr, cap, cur, rfl, hgr, hcur, hcn, hcm, hcs, htk⟩ : ∃ g cap cur, v3 = .slice (some ⟨g, 0, none⟩) (4 + b.length) cap ∧ W.heap.size ≤ g ∧ w3.heap[g]? = some (.cells cur 5 (0, 0)) ∧ 4 + b.length ≤ cap ∧ cap ≤ maxLen ∧ cur.size = cap * 1 ∧ cur.toList.take ((4 + b.length) * 1) = bv (allB b) := by
    rcases hown3 with ⟨_, ⟨hv, h0⟩ | h⟩
    · omega
    · exact h
  have RR := Lib.hid (show Row w3 gr 5 cur.toList by show _ = _; simpa using hcur)
  have HT := Lib.hid (show cur.toList.take (4 + b.length) = bv (allB b) by simpa using htk)
  have HC := Lib.hid (show cur.toList.length = cap by simpa using hcs)
  clear hcur hcs htk hown3 hg3 hall
  refine hK _ _ R3.out (fun _ => ?_)
  clear hK K
  try simp only [Act.put, List.setIfInBounds_toArray, List.set_cons_zero, List.set_cons_succ]
  refine wpAnyH_take (i := 8) (oi := ⟨some 4, _, _, _, _, _⟩) (v := ?v8) rfl (by kernel_rfl) (by kernel_rfl) (by kernel_rfl) (fun _ _ _ h => h) (Or.inl ⟨by rfl, ?y8⟩) R3.out ?r8
  case y8 =>
    rintro w' hSw
    go_simp
    try with_reducible rfl
  try simp only [Act.put, List.setIfInBounds_toArray, List.set_cons_zero, List.set_cons_succ]
  refine wpAnyH_done (by kernel_rfl) ?_ _
  go_wp2_with fail
  refine (wpIn_wide (n := nn)).1 ?_
  have HJ3 := Lib.hid (HJ.out _ _ _ none h0 (below_grown HB3.out) (fun r e => by cases e))
  gi_loopw [4, 20] (fun s i wr => ∃ r : Nat, r ≤ sects b.length ∧ i = .int .i64 (r : Int) ∧ Hid (r < sects b.length → s = .slice (some ⟨gr, 48 * r, none⟩) (4 + b.length - 48 * r) (cap - 48 * r)) ∧ J (upto (gI (partM t k b)) r) wr ∧ Hid (Row wr Bf 101 (fcs t k A b.length c) ∧ Row wr gr 5 cur.toList)) (fun _ i _ => sects b.length - (intOf i).toNat)
  case atStart => exact ⟨0, Nat.zero_le _, rfl, (fun _ => by simp), HJ3.out, R3.out, RR.out⟩
  case round =>
    obtain ⟨r, hrn, rfl, hsl, hJs, HK⟩ := hrel
    by_cases hlt : r < sects b.length
    · obtain rfl := hsl.out hlt
      clear hsl
      have h1 : (r : Int) < (sects b.length : Int) := by omega
      have h48 : 48 * r < 4 + b.length := by unfold sects at hlt; omega
      obtain ⟨o1, ho1⟩ : ∃ o1, 48 * r = o1 := ⟨_, rfl⟩
      obtain ⟨n1, hn1⟩ : ∃ n1, 4 + b.length - o1 = n1 := ⟨_, rfl⟩
      obtain ⟨c1, hc1⟩ : ∃ c1, cap - o1 = c1 := ⟨_, rfl⟩
      obtain ⟨x, hx⟩ : ∃ x, ((allB b).drop o1).take 48 = x := ⟨_, rfl⟩
      have hxl : x.length = min n1 48 := by rw [← hx, List.length_take, List.length_drop, allB_len]; omega
      obtain ⟨q, hq⟩ : ∃ q, x.length = q := ⟨_, rfl⟩
      have hq1 : q ≤ n1 := by omega
      have hq48 : q ≤ 48 := by omega
      have hqn : q < 48 → q = n1 := fun h => by omega
      have hnc : n1 ≤ c1 := by omega
      rw [ho1, hn1, hc1]
      have HSRC : Hid (∀ w', Row w' gr 5 cur.toList → ∀ j u, (bv x)[j]? = some u → w'.cell? ((⟨gr, o1, none⟩ : Addr).add j) = some u) := Lib.hid (fun w' hr => by rw [← hx]; exact src_bytes hr HT.out o1)
      have HX := Lib.hid hx
      have HO1 := Lib.hid ho1
      have HN1 := Lib.hid hn1
      have HC1 := Lib.hid hc1
      have HQ := Lib.hid hq
      have HXL := Lib.hid hxl
      have HQN := Lib.hid hqn
      clear hx ho1 hn1 hc1 hq hxl hqn
      gi_wp2_with fail
      refine nwui fun wa hwa => ?_
      have hra : Row wa wr.heap.size 131 (bv (List.replicate 48 0)) := by rw [← hwa]; exact Row.new wr _ (bv (List.replicate 48 0))
      have hba : Below wr.heap.size wr wa := by rw [← hwa]; exact (Below.refl _ _).alloc (Nat.le_refl _) _
      have hrun := run_copy_row (P := Try.prog) (w := wa) 37 37 3 5 wr.heap.size 0 48 48 ⟨gr, o1, none⟩ n1 c1 (bv (List.replicate 48 0)).toArray 131 (bv x) Try.underlying37 size5 hra ((bv_length _).trans HXL.out) (HSRC.out _ (HK.out.2.below hba HK.out.2.lt)) (by rw [bv_length, HQ.out, List.size_toArray, bv_length, List.length_replicate]; omega) bv_one
      rw [bv_length, HQ.out] at hrun
      rw [hrun]
      have hcells : (List.take 0 (bv (List.replicate 48 0)).toArray.toList ++ bv x ++ List.drop (0 + q) (bv (List.replicate 48 0)).toArray.toList) = bv (bodyB (allB b) r) := by
        unfold bodyB fill48
        rw [HO1.out, HX.out, bv_append, List.take_zero, List.nil_append, Nat.zero_add]
        congr 1
        show List.drop q (bv (List.replicate 48 0)) = _
        rw [← bv_zero, ← bv_zero, List.drop_replicate]
        congr 1
        have := HXL.out
        have h5 := HQ.out
        rw [List.length_drop, allB_len]
        have := HN1.out
        omega
      rw [hcells]
      obtain ⟨wc, hwc⟩ : ∃ wc, wa.setRow wr.heap.size (bv (bodyB (allB b) r)).toArray = wc := ⟨_, rfl⟩
      have hrc : Row wc wr.heap.size 131 (bv (bodyB (allB b) r)) := by
        rw [← hwc]
        exact setRow_heap wa wr.heap.size _ _ _ _ hra
      have hbc : Below wr.heap.size wr wc := hba.grown (by rw [← hwc]; exact grown_setRow _ _ _) hba.size (fun k hk => by cases hk; exact Nat.le_refl _)
      rw [hwc]
      have HRC := Lib.hid hrc
      have HBC := Lib.hid hbc
      have HF := Lib.hid (HK.out.1.below hbc HK.out.1.lt)
      have HG := Lib.hid (HK.out.2.below hbc HK.out.2.lt)
      clear hrun hcells hwc hrc hbc hra hba hwa HK HSRC
      have HI := Lib.hid (show (Try.prog.info? 101).map (·.size) = some (fcs t k A b.length c).length from size101)
      have HIB := Lib.hid (show (Try.prog.info? 131).map (·.size) = some (bv (bodyB (allB b) r)).length by rw [bv_length, bodyB_len]; exact size131)
      have hJc : J (upto (gI (partM t k b)) r) wc := HJ.out _ _ _ none hJs (below_grown HBC.out) (fun r e => by cases e)
      by_cases hcq : c1 = q
      · -- the row's end
        gi_wp2_with (first
          | (with_reducible refine wpListIn_load_mid (op := ⟨some 30, _, _, _, _, _⟩) ?_ 101 (.tmp 1) ?_ Bf 0 ?_ (fcs t k A b.length c) _ (Row.all HF.out) Try.underlying101 ?_ HI.out ?_)
          | (with_reducible refine wpListIn_load_mid (op := ⟨some 33, _, _, _, _, _⟩) ?_ 131 (.tmp 6) ?_ wr.heap.size 0 ?_ (bv (bodyB (allB b) r)) _ (Row.all HRC.out) Try.underlying131 ?_ HIB.out ?_))
        all_goals try (first | rfl | (simp; done))
        gi_wp2_with fail
        refine ⟨trivial, callsIn_wide.2 ?_⟩
        refine (part_any t k A b.length c r (sects b.length) (bodyB (allB b) r) wc ht hk (by have := sects_most _ hb; omega) (by have := sects_most _ hb; omega) (bodyB_len _ _)).mono ?_
        rintro e wd ⟨rfl, hbd⟩
        have hJd : J (upto (gI (partM t k b)) r) wd := HJ.out _ _ _ none hJc (below_grown hbd) (fun r e => by cases e)
        have hpm : partB t k r (sects b.length) (bodyB (allB b) r) = partM t k b r := rfl
        rw [hpm]
        have hgI := gI_eq (partM t k b) r (by have := sects_most _ hb; omega) (partM_len _ _ _ _)
        obtain ⟨fn, tmps, assign, body, hy, hR⟩ := HY.out _ (gI (partM t k b) r) wd hJd (by rw [upto_len]; exact hlt) (by rw [← upto_succ]; exact upto_pre (partM t k b) (r + 1) _ (by omega) (by have := sects_most _ hb; omega) (fun i _ => partM_len _ _ _ _))
        unfold encI at hy
        rw [hgI] at hy
        rw [← upto_succ] at hR
        dsimp only at hy
        have HFd := Lib.hid (HF.out.below hbd HF.out.lt)
        have HGd := Lib.hid (HG.out.below hbd HG.out.lt)
        clear hpm hgI hJd hJc hJs hbd HI HIB
        gi_wp2
        refine hR.mono ?_
        rintro e W3 (⟨rfl, hJ3, hk3⟩ | ⟨rfl, hJx3⟩)
        · have HF3 := Lib.hid (hk3.2 _ _ _ (.inr rfl) HFd.out)
          have HG3 := Lib.hid (hk3.2 _ _ _ (.inl rfl) HGd.out)
          clear hk3 hR hy
          gi_wp2
          go_roundw
          case rel =>
            refine ⟨r + 1, by omega, by go_num, (fun hlt2 => ?_), hJ3, HF3.out, HG3.out⟩
            exfalso
            have h5 := HN1.out
            have h6 := HO1.out
            unfold sects at hlt2
            omega
          case measure =>
            simp [intOf]
            omega
        · gi_wp2
          refine bodyPost_ret (results_none rfl _ _ _) rfl ?_
          exact ⟨⟨_, rfl⟩, .inr ⟨_, upto_pre (partM t k b) (r + 1) _ (by omega) (by have := sects_most _ hb; omega) (fun i _ => partM_len _ _ _ _), hJx3⟩⟩
      · -- there is more
        gi_wp2_with (first
          | (with_reducible refine wpListIn_load_mid (op := ⟨some 30, _, _, _, _, _⟩) ?_ 101 (.tmp 1) ?_ Bf 0 ?_ (fcs t k A b.length c) _ (Row.all HF.out) Try.underlying101 ?_ HI.out ?_)
          | (with_reducible refine wpListIn_load_mid (op := ⟨some 33, _, _, _, _, _⟩) ?_ 131 (.tmp 6) ?_ wr.heap.size 0 ?_ (bv (bodyB (allB b) r)) _ (Row.all HRC.out) Try.underlying131 ?_ HIB.out ?_))
        all_goals try (first | rfl | (simp; done))
        gi_wp2_with fail
        refine ⟨trivial, callsIn_wide.2 ?_⟩
        refine (part_any t k A b.length c r (sects b.length) (bodyB (allB b) r) wc ht hk (by have := sects_most _ hb; omega) (by have := sects_most _ hb; omega) (bodyB_len _ _)).mono ?_
        rintro e wd ⟨rfl, hbd⟩
        have hJd : J (upto (gI (partM t k b)) r) wd := HJ.out _ _ _ none hJc (below_grown hbd) (fun r e => by cases e)
        have hpm : partB t k r (sects b.length) (bodyB (allB b) r) = partM t k b r := rfl
        rw [hpm]
        have hgI := gI_eq (partM t k b) r (by have := sects_most _ hb; omega) (partM_len _ _ _ _)
        obtain ⟨fn, tmps, assign, body, hy, hR⟩ := HY.out _ (gI (partM t k b) r) wd hJd (by rw [upto_len]; exact hlt) (by rw [← upto_succ]; exact upto_pre (partM t k b) (r + 1) _ (by omega) (by have := sects_most _ hb; omega) (fun i _ => partM_len _ _ _ _))
        unfold encI at hy
        rw [hgI] at hy
        rw [← upto_succ] at hR
        dsimp only at hy
        have HFd := Lib.hid (HF.out.below hbd HF.out.lt)
        have HGd := Lib.hid (HG.out.below hbd HG.out.lt)
        clear hpm hgI hJd hJc hJs hbd HI HIB
        gi_wp2
        refine hR.mono ?_
        rintro e W3 (⟨rfl, hJ3, hk3⟩ | ⟨rfl, hJx3⟩)
        · have HF3 := Lib.hid (hk3.2 _ _ _ (.inr rfl) HFd.out)
          have HG3 := Lib.hid (hk3.2 _ _ _ (.inl rfl) HGd.out)
          clear hk3 hR hy
          gi_wp2
          go_roundw
          case rel =>
            refine ⟨r + 1, by omega, by go_num, (fun hlt2 => ?_), hJ3, HF3.out, HG3.out⟩
            have h5 := HN1.out
            have h6 := HO1.out
            have h7 := HC1.out
            have h8 : q = 48 := by
              rcases Nat.lt_or_ge q 48 with h9 | h9
              · have := HQN.out h9
                unfold sects at hlt2
                omega
              · omega
            have e1 : o1 + q = 48 * (r + 1) := by omega
            have e2 : n1 - q = 4 + b.length - 48 * (r + 1) := by omega
            have e3 : c1 - q = cap - 48 * (r + 1) := by omega
            rw [e1, e2, e3]
          case measure =>
            simp [intOf]
            omega
        · gi_wp2
          refine bodyPost_ret (results_none rfl _ _ _) rfl ?_
          exact ⟨⟨_, rfl⟩, .inr ⟨_, upto_pre (partM t k b) (r + 1) _ (by omega) (by have := sects_most _ hb; omega) (fun i _ => partM_len _ _ _ _), hJx3⟩⟩

    · have h1 : ¬ (r : Int) < (sects b.length : Int) := by omega
      obtain rfl : r = sects b.length := by omega
      gi_wp2
      go_end0
      exact ⟨⟨_, rfl⟩, .inl ⟨_, upto_map (partM t k b) _ (by have := sects_most _ hb; omega) (fun i _ => partM_len _ _ _ _), hJs⟩⟩
/-- the number of a part -/
abbrev PI (b : List UInt8) := { i : Nat // i < sects b.length }
def encP (t k : Nat) (b : List UInt8) (i : PI b) : Array Value := #[.int .i64 ((i.1 : Nat) : Int), blk (partM t k b i.1)]
def toIB (t k : Nat) (b : List UInt8) (hb : b.length ≤ 40000) (i : PI b) : IB := ⟨((i.1 : Int), partM t k b i.1), by show (0 : Int) ≤ (i.1 : Int); omega, by have h1 := i.2; have := sects_most b.length hb; show (i.1 : Int) ≤ 100000; omega, partM_len _ _ _ _⟩
theorem next_part {t k : Nat} {b : List UInt8} (hb : b.length ≤ 40000) {pre : List IB} {x : IB} (h : (pre ++ [x]).map (·.1) <+: pairsM t k b) : ∃ h : pre.length < sects b.length, x = toIB t k b hb ⟨pre.length, h⟩ := by
  have hl : (pairsM t k b).length = sects b.length := by simp [pairsM]
  have h1 := h.length_le
  simp only [List.length_map, List.length_append, List.length_cons, List.length_nil] at h1
  have h2 : pre.length < sects b.length := by omega
  refine ⟨h2, ?_⟩
  obtain ⟨q, hq⟩ := h
  have h3 : (pairsM t k b)[pre.length]? = some x.1 := by
    rw [← hq, List.map_append, List.append_assoc, List.getElem?_append_right (by simp)]
    simp
  have h4 : (pairsM t k b)[pre.length]? = some ((pre.length : Int), partM t k b pre.length) := by
    unfold pairsM
    rw [List.getElem?_map, List.getElem?_range h2]
    rfl
  exact Subtype.ext (Option.some.inj (h3.symm.trans h4))
theorem parts_known {w : World} {Bf t k m c : Nat} {A : Option Addr} {b : List UInt8} (hf : Row w Bf 101 (fcs t k A m c)) (hs : By w A m c b) (hm : m ≤ 40000) (ht : t < 4294967296) (hk : k < 4294967296) (K0 : Nat → Prop) :
    SeqStopsK Fence.wide 8 Try.prog 78 #[.pointer (some ⟨Bf, 0, none⟩)] (encP t k b) (KT K0) (fun xs => xs.map (·.1) = List.range (sects b.length)) (fun _ => True) (sects b.length) w := by
  intro l J Jx W hW hJ hJx hY h0
  have hl := hs.sl.len
  have hb : b.length ≤ 40000 := by omega
  have hS := parts_in_s l Bf t k 8 m c A b (by omega) hb ht hk K0 (fun pre W => ∃ ps : List (PI b), pre = ps.map (toIB t k b hb) ∧ J ps W) (fun pre W => ∃ ps : List (PI b), pre = ps.map (toIB t k b hb) ∧ Jx ps W) W
    (fun s X Y row hs hg hr => by
      obtain ⟨ps, h1, h2⟩ := hs
      exact ⟨ps, h1, hJ _ _ _ _ h2 hg hr⟩)
    (fun pre x W1 hj hlt hp => by
      obtain ⟨ps, rfl, h2⟩ := hj
      obtain ⟨h3, rfl⟩ := next_part hb hp
      have h4 : ps.length < sects b.length := by simpa using hlt
      have hyy := hY ps ⟨(ps.map (toIB t k b hb)).length, h3⟩ W1 h2 h4
      refine hyy.mono ?_
      rintro e W' (⟨he, hj', hk'⟩ | ⟨he, hj'⟩)
      · exact .inl ⟨he, ⟨_, by simp, hj'⟩, hk'⟩
      · exact .inr ⟨he, ⟨_, by simp, hj'⟩⟩)
    (hf.below hW hf.lt) ((hs.sl.below hW).more hW.size) ⟨[], rfl, h0⟩
  refine hS.mono ?_
  rintro e W' ⟨hv, h | h⟩
  · obtain ⟨xs, h1, ps, rfl, h2⟩ := h
    refine ⟨hv, .inl ⟨ps, ?_, h2⟩⟩
    have h5 : (ps.map (·.1)).map (fun i : Nat => ((i : Int), partM t k b i)) = (List.range (sects b.length)).map (fun i : Nat => ((i : Int), partM t k b i)) := by
      have : ((ps.map (toIB t k b hb)).map (·.1)) = (ps.map (·.1)).map (fun i : Nat => ((i : Int), partM t k b i)) := by
        rw [List.map_map, List.map_map]; rfl
      rw [← this]; exact h1
    have h6 := congrArg (List.map (fun p : Int × List UInt8 => p.1.toNat)) h5
    have hid : ((fun p : Int × List UInt8 => p.1.toNat) ∘ fun i : Nat => ((i : Int), partM t k b i)) = id := by funext i; simp
    rw [List.map_map (l := List.range (sects b.length)), List.map_map (l := ps.map (·.1)), hid, List.map_id, List.map_id] at h6
    exact h6
  · obtain ⟨pre, _, ps, rfl, h2⟩ := h
    exact ⟨hv, .inr ⟨ps, trivial, h2⟩⟩
end Go.Proofs.Yteemdjamgbbjhaa.Wl

/-
  The chain of a turn.
-/
namespace Go.Proofs.Yteemdjamgbbjhaa.Wl
set_option maxRecDepth 100000
open Go.RowKit Go.Shelf Go.Proofs.Yteemdjamgbbjhaa.Wd Go.Proofs.Yteemdjamgbbjhaa.Dsk Go.Proofs.Yteemdjamgbbjhaa.Oct Go.Proofs.Yteemdjamgbbjhaa.Sum

attribute [local go_sem] Oper.semAt_some

def ChP (w w' : World) (t : Nat) (fs : List (List UInt8)) (e : Ending) : Prop :=
  ∃ A cc, e = .returned (.agg (ccs t A fs.length cc (usedM fs)).toArray) ∧ Frs w' w.heap.size A cc fs ∧ Below w.heap.size w w'
theorem Sect.drop {w : World} {gs u : Nat} {L : List (List UInt8)} (h : Sect w gs u L) (k : Nat) (hk : k ≤ L.length) : Sect w gs (u + k) (L.drop k) := by
  have hf : L.flatten.length = L.length * 64 := flat_len L h.1
  have hf2 : (L.take k).flatten.length = k * 64 := by
    rw [flat_len _ (fun b hb => h.1 b (List.mem_of_mem_take hb)), List.length_take, Nat.min_eq_left hk]
  refine ⟨fun b hb => h.1 b (List.mem_of_mem_drop hb), ?_⟩
  have h2 := h.2.cut (k * 64) (L.length * 64 - k * 64) (by omega)
  have e : (L.flatten.drop (k * 64)).take (L.length * 64 - k * 64) = (L.drop k).flatten := by
    rw [List.take_of_length_le (by rw [List.length_drop]; omega)]
    have : L.flatten = (L.take k).flatten ++ (L.drop k).flatten := by rw [← List.flatten_append, List.take_append_drop]
    rw [this, ← hf2, List.drop_left]
  rw [e] at h2
  rw [Nat.add_mul]
  simpa [Addr.add_lit] using h2
theorem chain_end {w W : World} {t : Nat} {fs M : List (List UInt8)} {A : Option Addr} {cc : Nat} {tmps : Array Value} (ds : List Nat) (hfs : M = fs) (hM : Mks w.heap.size ds W) (hr : Row W (w.heap.size + 1) 81 (ccs t A fs.length cc (usedM fs))) (hf : Frs W w.heap.size A cc fs) (hb : Below w.heap.size w W)
    (ht : tmps.getD 4 undef = .pointer (some ⟨w.heap.size + 1, 0, none⟩)) :
    LeavesInM Fence.wide 9 Try.prog Try.f63 tmps (fun e w' => ChP w w' t M e) (marksOf ds) .returning W := by
  refine leaves_marks (base := w.heap.size) (J := fun W => Row W (w.heap.size + 1) 81 (ccs t A fs.length cc (usedM fs)) ∧ Frs W w.heap.size A cc fs ∧ Below w.heap.size w W) ?_ ?_ ds W hM ⟨hr, hf, hb⟩
  · rintro X Y row ⟨h1, h2, h3⟩ hg hr
    have hr' := fun r e => (hr r e).2
    exact ⟨row_kept h1 hg hr', h2.keepR (keepR_noncells hg hr'), h3.grown hg h3.size (fun r e => (hr r e).1)⟩
  · rintro W ⟨h1, h2, h3⟩
    have hl := run_loadVar_mid (P := Try.prog) W (w.heap.size + 1) 0 81 (ccs t A fs.length cc (usedM fs)) _ (Row.all h1) Try.underlying81 rfl (show (Try.prog.info? 81).map (·.size) = some 3 from size81)
    exact ⟨_, results_cell (p := 4) (ty := 81) rfl _ _ _ _ ht hl, A, cc, by rw [hfs], by rw [hfs]; exact h2, h3⟩
theorem claimed_some {s : List (List UInt8)} {b : List UInt8} (h64 : ∀ x ∈ s, x.length = 64) (h : claimedM s = some b) : b.length ≤ 40000 ∧ sects b.length ≤ s.length := by
  cases s with
  | nil => cases h
  | cons x s =>
    have hcl : claimedM (x :: s) = if 40000 < num ((x.drop 16).take 4) then none else if (x :: s).length < sects (num ((x.drop 16).take 4)) then none else some (((((x :: s).take (sects (num ((x.drop 16).take 4)))).flatMap (List.drop 16)).drop 4).take (num ((x.drop 16).take 4))) := rfl
    rw [hcl] at h
    obtain ⟨N, hN⟩ : ∃ N, num ((x.drop 16).take 4) = N := ⟨_, rfl⟩
    rw [hN] at h
    split at h
    · cases h
    · split at h
      · cases h
      · rename_i h1 h2
        have e := Option.some.inj h
        have hfl : ∀ l : List (List UInt8), (∀ y ∈ l, y.length = 64) → (l.flatMap (List.drop 16)).length = 48 * l.length := by
          intro l
          induction l with
          | nil => intro _; rfl
          | cons y l ih =>
            intro hl
            rw [List.flatMap_cons, List.length_append, ih (fun z hz => hl z (by simp [hz])), List.length_drop, hl y (by simp), List.length_cons]
            omega
        have hb : b.length = N := by
          have e2 : min (sects N) (x :: s).length = sects N := Nat.min_eq_left (by omega)
          rw [← e, List.length_take, List.length_drop, hfl _ (fun y hy => h64 y (List.mem_of_mem_take hy)), List.length_take, e2]
          unfold sects
          omega
        rw [hb]
        exact ⟨by omega, by omega⟩
theorem stands_other {t k : Nat} {s : List (List UInt8)} {b : List UInt8} (hc : claimedM s = some b) {i : Nat} (h : s.getD i nought ≠ partM t k b i ∧ i < sects b.length) : standsM t k s = none := by
  unfold standsM
  rw [hc]
  show (if _ then some b else none) = none
  rw [if_neg]
  intro he
  refine h.1 ?_
  have h1 : (partsM t k b)[i]? = some (partM t k b i) := by
    unfold partsM
    rw [List.getElem?_map, List.getElem?_range h.2]
    rfl
  rw [he, List.getElem?_take, if_pos h.2] at h1
  rw [List.getD_eq_getElem?_getD, h1]
  rfl
theorem stands_all {t k : Nat} {s : List (List UInt8)} {b : List UInt8} (hc : claimedM s = some b) (hn : sects b.length ≤ s.length) (h : ∀ j, j < sects b.length → s.getD j nought = partM t k b j) : standsM t k s = some b := by
  unfold standsM
  rw [hc]
  show (if _ then some b else none) = some b
  rw [if_pos]
  refine List.ext_getElem? (fun j => ?_)
  unfold partsM
  by_cases hj : j < sects b.length
  · rw [List.getElem?_map, List.getElem?_range hj, List.getElem?_take, if_pos hj]
    have h1 := h j hj
    rw [List.getD_eq_getElem?_getD, List.getElem?_eq_getElem (by omega)] at h1
    rw [List.getElem?_eq_getElem (by omega)]
    exact congrArg some h1.symm
  · rw [List.getElem?_eq_none (by simp; omega), List.getElem?_take, if_neg hj]
theorem own_apart2 {W W2 : World} {v : Value} {n : Nat} {xs : List Value} (ho : W.ownsRow 0 37 1 v n xs) (hg : W.grownBy W2 v.ownBlock) {k : Nat} {o : Obj} (hk : W.heap[k]? = some o) (hne : o.isCells = false) : W2.heap[k]? = some o :=
  (hg.block k (Array.getElem?_eq_some_iff.1 hk).1 (fun e => by
    rcases ho with ⟨_, hv | ⟨g, cap, cur, hv, _, hg2, _⟩⟩
    · rw [hv.1] at e; cases e
    · rw [hv] at e
      cases e
      rw [hg2] at hk
      cases hk
      cases hne)).trans hk
theorem own_apart {W W2 : World} {v : Value} {n : Nat} {xs : List Value} (ho : W.ownsRow 0 37 1 v n xs) (hg : W.grownBy W2 v.ownBlock) {k : Nat} {t : TypeId} {cs : List Value} (hk : Row W k t cs) (hne : t ≠ 37) : Row W2 k t cs :=
  (hg.block k hk.lt (fun e => by
    rcases ho with ⟨_, hv | ⟨g, cap, cur, hv, _, hg2, _⟩⟩
    · rw [hv.1] at e; cases e
    · rw [hv] at e
      cases e
      exact hne (row_type hk (show Row W _ 37 cur.toList by show _ = _; simpa using hg2)))).trans hk
theorem yields_neq_blk {ops : Array Oper} {S : World → Prop} {o : Oper} {a : Act} (hw : Region.wanted o (yielded ops a.tmps) = true) (x y : Operand) (ho : o.op = .binOp .neq 89 x y 89) (l m : List UInt8) (hx : a.eval x = blk l) (hy : a.eval y = blk m) (hl : l.length = 64) (hm : m.length = 64) :
    YieldsIf Try.prog ops S o (.bool (!decide (l = m))) a :=
  Or.inl ⟨hw, fun w _ => by
    have hr := run_neq_blk w x y l m hl hm
    rw [Sem.run_bind] at hr
    unfold execOp
    simp only [ho, hx, hy, Sem.run_bind]
    revert hr
    generalize (eqGuard .neq 89 x y (blk l) (blk m)).run Try.prog w = r
    intro hr
    cases r with
    | halt e u => simp [Result.andThen] at hr
    | ok z u =>
      simp only [Result.andThen_ok] at hr ⊢
      rw [hr]
      rfl⟩
theorem wrap_two {a b : Nat} (h : a + b ≤ 100000) : wrap64 ((a : Int) + (b : Int)) = ((a + b : Nat) : Int) := by unfold wrap64; omega
theorem wrap_two2 {a b : Nat} (h : a + b ≤ 100000) : IntKind.i64.wrap ((a : Int) + (b : Int)) = ((a + b : Nat) : Int) := by rw [IntKind.wrap_i64]; omega
theorem il_lt {us i n l : Nat} (h : i < n) (h2 : n ≤ l - us) (hul : us ≤ l) : us + i < l := by omega
/-- what the rounds over the parts hold -/
structure CH (w : World) (t gs u c : Nat) (L fs : List (List UInt8)) (b8 : Nat) (Ab : Option Addr) (m cb : Nat) (b : List UInt8) (ds : List Nat) (W : World) : Prop where
  ci : CI w t gs u c L fs W
  b8 : Row W b8 101 (fcs t fs.length Ab m cb)
  by_ : By W Ab m cb b
  mks : Mks w.heap.size ds W
theorem by_kept {W W' : World} {A : Option Addr} {n c : Nat} {l : List UInt8} (h : By W A n c l) (hk : KeepR W W') : By W' A n c l := own_keepR h (.inr rfl) hk
theorem CH.own {w : World} {t gs u c : Nat} {L fs : List (List UInt8)} {b8 : Nat} {Ab : Option Addr} {m cb : Nat} {b : List UInt8} {ds : List Nat} {W W' w8 : World} {row : Option Nat} (h : CH w t gs u c L fs b8 Ab m cb b ds W) (hg : W.grownBy W' row) (hr : ∀ r, row = some r → w.heap.size ≤ r ∧ ∃ o : Obj, W.heap[r]? = some o ∧ o.isCells = false) (hr8 : ∀ r, row = some r → w8.heap.size ≤ r) (hM8 : Mks w.heap.size ds w8) : CH w t gs u c L fs b8 Ab m cb b ds W' := by
  have hr' := fun r e => (hr r e).2
  refine ⟨h.ci.own hg hr, row_kept h.b8 hg hr', by_kept h.by_ (keepR_noncells hg hr'), ⟨h.mks.nodup, fun D hD => ⟨(h.mks.open_ D hD).1, ?_⟩⟩⟩
  have hlt : D < w8.heap.size := (Array.getElem?_eq_some_iff.1 (hM8.open_ D hD).2).1
  exact (hg.block D (Array.getElem?_eq_some_iff.1 (h.mks.open_ D hD).2).1 (fun e => by have := hr8 D e.symm; omega)).trans (h.mks.open_ D hD).2
set_option maxHeartbeats 1000000 in
theorem chain_any (t gs u c : Nat) (L : List (List UInt8)) (w : World) (ht : t < 4294967296) (hs : Sect w gs u L) (hc : L.length ≤ c) (hm : L.length ≤ 1000) :
    Calls Try.prog 63 #[.int .u32 (t : Int), .slice (some ⟨gs, u * 64, none⟩) L.length c] w fun e w' => ChP w w' t (chainM t (L.length + 1) 0 L) e := by
  have mixed : Try.prog.follows .mixedOrders = true := by kernel_rfl
  refine (callsIn_wide (n := 9)).1 ?_
  refine callsIn_of_wp_marks Try.func63 rfl trivial ?_ rfl
  refine wpIn_wide.2 ?_
  simp only [Try.ntmps63, List.size_toArray, List.length_cons, List.length_nil, Nat.reduceAdd, Nat.reduceSub, Array.replicate_succ, Array.replicate_zero, List.push_toArray, List.append_toArray, List.nil_append, List.cons_append]
  go_wp2_with fail
  refine nw fun w1 hw1 => ?_
  have hb1 : Below w.heap.size w w1 := by
    rw [← hw1]
    exact ((Below.refl _ _).alloc (Nat.le_refl _) _).alloc (by simp) _
  have hs1 : w1.heap.size = w.heap.size + 2 := by rw [← hw1]; simp
  have hr3 : Row w1 w.heap.size 72 [.slice (some ⟨gs, u * 64, none⟩) L.length c] := by rw [← hw1]; exact (Row.new w _ _).alloc _
  have hr4 : Row w1 (w.heap.size + 1) 81 (ccs 0 none 0 0 0) := by
    rw [← hw1]
    have := Row.new (w.alloc (.cells #[.slice (some ⟨gs, u * 64, none⟩) L.length c] 72)) 81 (ccs 0 none 0 0 0)
    rw [World.size_alloc] at this
    exact this
  clear hw1
  have HLC := Lib.hid (show (ccs t none 0 0 0).length = (ccs 0 none 0 0 0).length from rfl)
  have HI81 := Lib.hid fun (a : Nat) A (b c d : Nat) => (show (Try.prog.info? 81).map (·.size) = some (ccs a A b c d).length from size81)
  refine wp_scope_straight ?_
  go_wp2_with (first
    | (with_reducible refine wpList_store_whole (op := ⟨none, _, _, _, _, _⟩) ?_ 81 (.tmp 5) (.tmp 12) ?_ (w.heap.size + 2) (ccs t none 0 0 0) ?_ ?_ 81 (ccs 0 none 0 0 0) ?hrow HLC.out (ccs_one _ _ _ _ _) (HI81.out _ _ _ _ _) ?_))
  case hrow =>
    have := Row.new w1 81 (ccs 0 none 0 0 0)
    rw [hs1] at this
    exact this
  all_goals try (first | rfl | (simp; done))
  intro w2 hr5 hg2
  have hb2 : Below w1.heap.size w1 w2 := ((Below.refl _ _).alloc (Nat.le_refl _) _).grown hg2 (by simp) (fun k hk => by have := Option.some.inj hk; omega)
  have hs2 : w.heap.size + 3 ≤ w2.heap.size := by have := hr5.lt; omega
  have hCI : CI w t gs u c L [] w2 := ⟨hr3.below hb2 hr3.lt, hr4.below hb2 hr4.lt, ⟨none, 0, hr5, Frs.nil _ _⟩, hb1.trans (hb2.mono hb1.size), hs2⟩
  have HCI := Lib.hid hCI
  clear hr3 hr4 hr5 hg2 hb2 hs2 hCI hb1
  go_wp2_with fail
  refine wp_label ?_
  go_wp2_with fail
  refine wp_loop_ghost (fun m a W => ∃ (u6 u7 u8 u9 u10 u13 u14 u15 u16 u17 u18 u19 u20 u21 u22 u23 u24 u25 u26 u27 u28 u29 u30 u31 u32 u33 u34 u35 u36 u37 u38 u39 u40 u41 : Value) (ds : List Nat) (fs : List (List UInt8)), a = { tmps := #[.int .u32 (t : Int), .slice (some ⟨gs, u * 64, none⟩) L.length c, undef, .pointer (some ⟨w.heap.size, 0, none⟩), .pointer (some ⟨w.heap.size + 1, 0, none⟩), .pointer (some ⟨w.heap.size + 2, 0, none⟩), u6, u7, u8, u9, u10, .int .u32 (t : Int), .agg (ccs t none 0 0 0).toArray, u13, u14, u15, u16, u17, u18, u19, u20, u21, u22, u23, u24, u25, u26, u27, u28, u29, u30, u31, u32, u33, u34, u35, u36, u37, u38, u39, u40, u41, undef], defers := marksOf ds } ∧ Mks w.heap.size ds W ∧ CI w t gs u c L fs W ∧ m = L.length - usedM fs ∧ usedM fs ≤ L.length ∧ fs.length ≤ usedM fs ∧ chainM t (L.length + 1) 0 L = fs ++ chainM t (L.length + 1 - fs.length) fs.length (L.drop (usedM fs))) L.length ?_ ?_
  · refine ⟨_, _, _, _, _, _, _, _, _, _, _, _, _, _, _, _, _, _, _, _, _, _, _, _, _, _, _, _, _, _, _, _, _, _, [], [], rfl, Mks.nil _ _, HCI.out, rfl, Nat.zero_le _, Nat.le_refl _, rfl⟩
  · rintro m a W ⟨u6, u7, u8, u9, u10, u13, u14, u15, u16, u17, u18, u19, u20, u21, u22, u23, u24, u25, u26, u27, u28, u29, u30, u31, u32, u33, u34, u35, u36, u37, u38, u39, u40, u41, ds, fs, rfl, hM, hCI, rfl, hul, hfl, hch⟩
    have HMK := Lib.hid hM
    have HCJ := Lib.hid hCI
    have HCH0 := Lib.hid hch
    obtain ⟨A, cc, b5, hfr⟩ := hCI.b5
    have HFR := Lib.hid hfr
    have B5 := Lib.hid b5
    have e3 : W.cell? ⟨w.heap.size, 0, none⟩ = some (.slice (some ⟨gs, u * 64, none⟩) L.length c) := hCI.b3.cell 0
    have e52 : W.cell? ⟨w.heap.size + 2, 2, none⟩ = some (.int .i64 (usedM fs : Int)) := b5.cell 2
    clear hM hCI hch hfr b5
    obtain ⟨us, hus⟩ : ∃ us, usedM fs = us := ⟨_, rfl⟩
    rw [hus] at e52 hul hfl
    have HUS := Lib.hid hus
    clear hus
    have g1 : (us : Int) ≤ (L.length : Int) := by omega
    have g2 : (0 : Int) ≤ (us : Int) := by omega
    have g3 : (L.length : Int) ≤ (c : Int) := by omega
    have HSW := Lib.hid (hs.below HCJ.out.below)
    by_cases hcu : us = c
    · have hll : L.length - us = 0 := by omega
      have HCL := Lib.hid (claimed_any gs u 0 [] W ⟨fun _ h => by simp at h, Bs.nil _ _ _⟩ (Nat.le_refl _) (by simp))
      have HCE := Lib.hid (show claimedM (L.drop us) = none by rw [List.drop_eq_nil_of_le (by omega)]; rfl)
      go_wp2_with fail
      refine HCL.out.mono ?_
      rintro e w5 ⟨hcl, hb5⟩
      rcases hcl with ⟨_, rfl⟩ | ⟨l, _, _, hx, _⟩
      · have HCK := Lib.hid (HCJ.out.more hb5)
        have HMK5 := Lib.hid (HMK.out.kept (fun k o h _ _ => (hb5.block k (Array.getElem?_eq_some_iff.1 h).1).trans h))
        clear hb5
        obtain ⟨A5, cc5, b55, hf5⟩ := HCK.out.b5
        have B55 := Lib.hid b55
        have B54 := Lib.hid HCK.out.b4
        have HF5 := Lib.hid hf5
        have HB5 := Lib.hid HCK.out.below
        have HLD := Lib.hid (show (ccs t A5 fs.length cc5 (usedM fs)).length = (ccs 0 none 0 0 0).length from rfl)
        have HFS : Hid (chainM t (L.length + 1) 0 L = fs) := Lib.hid (by
          rw [HCH0.out]
          obtain ⟨f, hf⟩ : ∃ f, L.length + 1 - fs.length = f + 1 := ⟨L.length - fs.length, by omega⟩
          rw [hf, HUS.out]
          simp [chainM, standsM, HCE.out])
        clear b55 hf5
        go_wp2_with (first
          | (with_reducible refine wpList_load_row (op := ⟨some 42, _, _, _, _, _⟩) ?_ 81 (.tmp 5) ?_ (w.heap.size + 2) 0 ?_ (ccs t A5 fs.length cc5 (usedM fs)) _ (Row.all B55.out) Try.underlying81 ?_ (HI81.out _ _ _ _ _) ?_)
          | (with_reducible refine wpList_store_whole (op := ⟨none, _, _, _, _, _⟩) ?_ 81 (.tmp 4) (.tmp 42) ?_ (w.heap.size + 1) (ccs t A5 fs.length cc5 (usedM fs)) ?_ ?_ 81 (ccs 0 none 0 0 0) B54.out HLD.out (ccs_one _ _ _ _ _) (HI81.out _ _ _ _ _) ?_))
        all_goals try (first | rfl | (simp; done))
        intro w6 hr6 hg6
        have hM6 : Mks w.heap.size ds w6 := HMK5.out.kept (fun k o h ho _ => (hg6.block k (Array.getElem?_eq_some_iff.1 h).1 (fun e => by
          cases e
          rw [show w5.heap[w.heap.size + 1]? = _ from B54.out] at h
          cases h
          cases ho)).trans h)
        have hk6 : KeepR w5 w6 := keepR_grown B54.out ⟨by decide, by decide⟩ hg6
        have hb6 : Below w.heap.size w w6 := HB5.out.grown hg6 HB5.out.size (fun j e => by have := Option.some.inj e; omega)
        go_wp2_with fail
        show LeavesInM Fence.wide 9 Try.prog _ _ _ _ .returning w6
        exact chain_end ds HFS.out hM6 hr6 (HF5.out.keepR hk6) hb6 rfl
      · cases hx
    · have hul2 : (L.drop us).length = L.length - us := List.length_drop
      have hcl : Sect W gs (u + us) (L.drop us) := HSW.out.drop us hul
      have HCL := Lib.hid (claimed_any gs (u + us) (c - us) (L.drop us) W hcl (by omega) (by omega))
      rw [hul2, Nat.add_mul] at HCL
      have hne : (us : Int) ≠ (c : Int) := by omega
      clear hcl hul2
      go_wp2_with fail
      refine HCL.out.mono ?_
      rintro e w5 ⟨hcl, hb5⟩
      have HCK := Lib.hid (HCJ.out.more hb5)
      have HMK5 := Lib.hid (HMK.out.kept (fun k o h _ _ => (hb5.block k (Array.getElem?_eq_some_iff.1 h).1).trans h))
      clear hb5
      rcases hcl with ⟨hce, rfl⟩ | ⟨b, A2, c2, hx, rfl, hsl⟩
      · have HCE := Lib.hid hce
        clear hce
        obtain ⟨A5, cc5, b55, hf5⟩ := HCK.out.b5
        have B55 := Lib.hid b55
        have B54 := Lib.hid HCK.out.b4
        have HF5 := Lib.hid hf5
        have HB5 := Lib.hid HCK.out.below
        have HLD := Lib.hid (show (ccs t A5 fs.length cc5 (usedM fs)).length = (ccs 0 none 0 0 0).length from rfl)
        have HFS : Hid (chainM t (L.length + 1) 0 L = fs) := Lib.hid (by
          rw [HCH0.out]
          obtain ⟨f, hf⟩ : ∃ f, L.length + 1 - fs.length = f + 1 := ⟨L.length - fs.length, by omega⟩
          rw [hf, HUS.out]
          simp [chainM, standsM, HCE.out])
        clear b55 hf5
        go_wp2_with (first
          | (with_reducible refine wpList_load_row (op := ⟨some 42, _, _, _, _, _⟩) ?_ 81 (.tmp 5) ?_ (w.heap.size + 2) 0 ?_ (ccs t A5 fs.length cc5 (usedM fs)) _ (Row.all B55.out) Try.underlying81 ?_ (HI81.out _ _ _ _ _) ?_)
          | (with_reducible refine wpList_store_whole (op := ⟨none, _, _, _, _, _⟩) ?_ 81 (.tmp 4) (.tmp 42) ?_ (w.heap.size + 1) (ccs t A5 fs.length cc5 (usedM fs)) ?_ ?_ 81 (ccs 0 none 0 0 0) B54.out HLD.out (ccs_one _ _ _ _ _) (HI81.out _ _ _ _ _) ?_))
        all_goals try (first | rfl | (simp; done))
        intro w6 hr6 hg6
        have hM6 : Mks w.heap.size ds w6 := HMK5.out.kept (fun k o h ho _ => (hg6.block k (Array.getElem?_eq_some_iff.1 h).1 (fun e => by
          cases e
          rw [show w5.heap[w.heap.size + 1]? = _ from B54.out] at h
          cases h
          cases ho)).trans h)
        have hk6 : KeepR w5 w6 := keepR_grown B54.out ⟨by decide, by decide⟩ hg6
        have hb6 : Below w.heap.size w w6 := HB5.out.grown hg6 HB5.out.size (fun j e => by have := Option.some.inj e; omega)
        go_wp2_with fail
        show LeavesInM Fence.wide 9 Try.prog _ _ _ _ .returning w6
        exact chain_end ds HFS.out hM6 hr6 (HF5.out.keepR hk6) hb6 rfl
      · have HSL := Lib.hid hsl
        have HCE := Lib.hid hx
        clear hsl hx
        obtain ⟨A5, cc5, b55, hf5⟩ := HCK.out.b5
        have B55 := Lib.hid b55
        have HF5 := Lib.hid hf5
        clear b55 hf5
        go_wp2_with (first
          | (with_reducible refine wpList_load_row (op := ⟨some 23, _, _, _, _, _⟩) ?_ 81 (.tmp 5) ?_ (w.heap.size + 2) 0 ?_ (ccs t A5 fs.length cc5 (usedM fs)) _ (Row.all B55.out) Try.underlying81 ?_ (HI81.out _ _ _ _ _) ?_))
        all_goals try (first | rfl | (simp; done))
        go_wp2_with fail
        have hcs := claimed_some (fun x hx => HSW.out.1 x (List.mem_of_mem_drop hx)) HCE.out
        have HCS : Hid (b.length ≤ 40000 ∧ sects b.length ≤ L.length - us) := Lib.hid ⟨hcs.1, by have := hcs.2; rw [List.length_drop] at this; exact this⟩
        clear hcs
        have hk32 : fs.length < 4294967296 := by omega
        refine (next_any t fs.length cc5 (usedM fs) A5 A2 b.length c2 b w5 HSL.out HCS.out.1 hk32 ht).mono ?_
        rintro e w6 ⟨Ab, cb, rfl, hby, hab, hb6⟩
        have HBY := Lib.hid hby
        have HAB := Lib.hid hab
        have HC6 := Lib.hid (HCK.out.more hb6)
        have HM6 := Lib.hid (HMK5.out.kept (fun k o h _ _ => (hb6.block k (Array.getElem?_eq_some_iff.1 h).1).trans h))
        have HSZ6 := Lib.hid hb6.size
        clear hby hab hb6
        have HLF := Lib.hid (show (fcs t fs.length Ab b.length cb).length = nofr.length from rfl)
        have HI101 := Lib.hid (show (Try.prog.info? 101).map (·.size) = some (fcs t fs.length Ab b.length cb).length from size101)
        go_wp2_with (first
          | (with_reducible refine wpList_store_whole (op := ⟨none, _, _, _, _, _⟩) ?_ 101 (.tmp 8) (.tmp 25) ?_ w6.heap.size (fcs t fs.length Ab b.length cb) ?_ ?_ 101 nofr ?hrowf HLF.out (fcs_one _ _ _ _ _) HI101.out ?_))
        case hrowf => exact Row.new w6 _ nofr
        all_goals try (first | rfl | (simp; done))
        intro w7 hr7 hg7
        have hb7 : Below w6.heap.size w6 w7 := ((Below.refl _ _).alloc (Nat.le_refl _) _).grown hg7 (by simp) (fun k hk => by cases hk; exact Nat.le_refl _)
        have R87 := Lib.hid hr7
        have HC7 := Lib.hid (HC6.out.more hb7)
        have HM7 := Lib.hid (HM6.out.kept (fun k o h _ _ => (hb7.block k (Array.getElem?_eq_some_iff.1 h).1).trans h))
        have HBY7 := Lib.hid (own_below HBY.out hb7)
        clear hr7 hg7 hb7
        go_wp2_with (first
          | (with_reducible refine wpList_load_row (op := ⟨some 26, _, _, _, _, _⟩) ?_ 101 (.tmp 8) ?_ w6.heap.size 0 ?_ (fcs t fs.length Ab b.length cb) _ (Row.all R87.out) Try.underlying101 ?_ HI101.out ?_))
        all_goals try (first | rfl | (simp; done))
        go_wp2_with fail
        refine (parts_any t fs.length Ab b.length cb w7).mono ?_
        rintro e w8 ⟨rfl, hw8⟩
        have r9 : Row w8 w7.heap.size 101 (fcs t fs.length Ab b.length cb) := by rw [hw8]; exact Row.new w7 _ _
        have hb9 : Below w7.heap.size w7 w8 := by rw [hw8]; exact (Below.refl _ _).alloc (Nat.le_refl _) _
        clear hw8
        have R88 := Lib.hid (R87.out.below hb9 R87.out.lt)
        have R98 := Lib.hid r9
        have HC8 := Lib.hid (HC7.out.more hb9)
        have HM8 := Lib.hid (HM7.out.kept (fun k o h _ _ => (hb9.block k (Array.getElem?_eq_some_iff.1 h).1).trans h))
        have HBY8 := Lib.hid (own_below HBY7.out hb9)
        clear hb9 r9
        obtain ⟨b8, hb8⟩ : ∃ b8, w6.heap.size = b8 := ⟨_, rfl⟩
        obtain ⟨b9, hb9⟩ : ∃ b9, w7.heap.size = b9 := ⟨_, rfl⟩
        have HB8 : Hid (w.heap.size + 3 ≤ b8) := Lib.hid (by rw [← hb8]; exact HC6.out.sz)
        rw [hb8] at R88 HSZ6 ⊢
        rw [hb9] at R98 ⊢
        clear hb8 hb9
        go_wp2_with fail
        obtain ⟨w0, hw0⟩ : ∃ w0, w0 = w8 := ⟨_, rfl⟩
        have HW0 := Lib.hid hw0
        have hpl : (pairsM t fs.length b).length = sects b.length := by simp [pairsM]
        refine (wpIn_wide (n := 9)).1 ?_
        refine wpIn_rangeFunc_ownH (F := Fence.wide) (n := 9) rfl (by omega) (gf := 78) (lb := #[.pointer (some ⟨b9, 0, none⟩)]) rfl trivial (enters_of Try.func78 (by kernel_rfl) rfl)
          (encs := encP t fs.length b) (Kp := KT (fun k => k < w8.heap.size)) (S := fun xs => xs.map (·.1) = List.range (sects b.length)) (Sp := fun _ => True) (N := sects b.length) (w0 := w8) (parts_known R98.out HBY8.out HCS.out.1 ht hk32 (fun k => k < w8.heap.size)) (fun h k => h.trans k) ?hKb (Below.refl _ _) (fun _ => rfl)
          (fun pre W => CH w t gs u c L fs b8 Ab b.length cb b ds W ∧ w8.heap.size ≤ W.heap.size ∧ ∀ x ∈ pre, L.getD (us + x.1) nought = partM t fs.length b x.1)
          (fun cd pre W => cd = .exit 0 ∧ CH w t gs u c L fs b8 Ab b.length cb b ds W ∧ ∃ x ∈ pre, L.getD (us + x.1) nought ≠ partM t fs.length b x.1)
          (fun s X Y row hs hg hr => ⟨CH.own hs.1 hg (fun r e => ⟨Nat.le_trans HC8.out.below.size (hr r e).1, (hr r e).2⟩) (fun r e => (hr r e).1) HM8.out, Nat.le_trans hs.2.1 hg.size, hs.2.2⟩) (fun cd s X Y row hs hg hr => ⟨hs.1, CH.own hs.2.1 hg (fun r e => ⟨Nat.le_trans HC8.out.below.size (hr r e).1, (hr r e).2⟩) (fun r e => (hr r e).1) HM8.out, hs.2.2⟩) ⟨⟨HC8.out, R88.out, HBY8.out, HM8.out⟩, Nat.le_refl _, fun x hx => absurd hx (by simp)⟩
          (fun x a' W => ∃ b10, w8.heap.size ≤ b10 ∧ Row W b10 89 (bv (partM t fs.length b x.1)) ∧ ∃ v28 v29 : Value, v28 = .int .i64 ((x.1 : Nat) : Int) ∧ a' = { tmps := #[.int .u32 (t : Int), .slice (some ⟨gs, u * 64, none⟩) L.length c, undef, .pointer (some ⟨w.heap.size, 0, none⟩), .pointer (some ⟨w.heap.size + 1, 0, none⟩), .pointer (some ⟨w.heap.size + 2, 0, none⟩), .slice A2 b.length c2, .bool true, .pointer (some ⟨b8, 0, none⟩), v28, .pointer (some ⟨b10, 0, none⟩), .int .u32 (t : Int), .agg (ccs t none 0 0 0).toArray, .tuple #[.slice A2 b.length c2, .bool true], .slice (some ⟨gs, u * 64, none⟩) L.length c, .pointer (some ⟨w.heap.size + 2, 2, none⟩), .int .i64 (us : Int), .slice (some ⟨gs, u * 64 + us * 64, none⟩) (L.length - us) (c - us), .tuple #[.slice A2 b.length c2, .bool true], .slice A2 b.length c2, .bool true, .bool true, .bool false, .agg (ccs t A5 fs.length cc5 (usedM fs)).toArray, .slice A2 b.length c2, .agg (fcs t fs.length Ab b.length cb).toArray, .agg (fcs t fs.length Ab b.length cb).toArray, .func (.func 78) #[] #[.pointer (some ⟨b9, 0, none⟩)], v28, v29, u30, u31, u32, u33, u34, u35, u36, u37, u38, u39, u40, u41, undef], defers := [] }) ?hAx ?assign ?body ?done ?stop
        case hKb =>
          intro W l o o' hl ho hc _
          refine ⟨fun k hk => World.putObj_heap_other (by omega), fun k cs t _ hr => ?_⟩
          have hne : k ≠ l := fun e => by
            subst e
            rw [show W.heap[k]? = _ from hr] at ho
            cases ho
            cases hc
          exact (World.putObj_heap_other hne).trans hr
        case hAx =>
          rintro x a' _ X Y row ⟨b10, n1, r10, rest⟩ hg hr
          exact ⟨b10, n1, row_kept r10 hg (fun q e => (hr q e).2), rest⟩
        case assign =>
          intro l pre x W K hI hK
          have hx64 : (partM t fs.length b x.1).length = 64 := partM_len _ _ _ _
          have HRN := Lib.hid (Row.new W 89 (bv nought))
          have HFT : Hid (0 + (bv (partM t fs.length b x.1)).length ≤ (bv nought).length) := (show _ ≤ _ by rw [bv_length, bv_length, hx64]; exact Nat.le_refl _)
          have HSZ : Hid ((Try.prog.info? 89).map (·.size) = some (bv (partM t fs.length b x.1)).length) := (show _ = _ by rw [bv_length, hx64]; exact size39)
          have HI := Lib.hid hI
          unfold encP blk
          clear hI
          gi_wp2_with (first
            | (with_reducible refine wpListIn_store_in (op := ⟨none, _, _, _, _, _⟩) ?_ 89 (.tmp 10) (.tmp 29) ?_ W.heap.size 0 (bv (partM t fs.length b x.1)) ?_ ?_ 89 (bv nought) ?_ HFT.out bv_one HSZ.out ?_))
          all_goals try (first | rfl | exact HRN.out)
          intro W3 hr3 hg3
          rw [splice_all (bv nought) (bv (partM t fs.length b x.1)) (by rw [bv_length, bv_length, hx64]; rfl)] at hr3
          have hb3 : Below W.heap.size W W3 := ((Below.refl _ _).alloc (Nat.le_refl _) _).grown hg3 (by simp) (fun j e => Nat.le_of_eq (Option.some.inj e))
          have hsz8 := HI.out.2.1
          refine hK _ W3 ⟨hb3.size, fun k o _ hk _ => (hb3.block k (Array.getElem?_eq_some_iff.1 hk).1).trans hk⟩ ⟨fun k hk => hb3.block k (Nat.lt_of_lt_of_le hk hsz8), fun k cs t _ hr => hr.below hb3 hr.lt⟩ ⟨⟨HI.out.1.ci.more hb3, HI.out.1.b8.below hb3 HI.out.1.b8.lt, by_kept HI.out.1.by_ (keepR_below hb3), HI.out.1.mks.kept (fun k o h _ _ => (hb3.block k (Array.getElem?_eq_some_iff.1 h).1).trans h)⟩, Nat.le_trans hsz8 hb3.size, HI.out.2.2⟩ ⟨W.heap.size, hsz8, hr3, _, _, rfl, rfl⟩
        case body =>
          rintro l pre x a' W hl ⟨rr, hrr⟩ ⟨hCH, hsz, hall⟩ ⟨b10, n1, r10, v28, v29, hv28, rfl⟩ hlt
          have HCH := Lib.hid hCH
          have hci := hCH.ci
          obtain ⟨A7, cc7, b57, _⟩ := hci.b5
          have hil : us + x.1 < L.length := il_lt x.2 HCS.out.2 hul
          have hi3 : us + x.1 ≤ 100000 := Nat.le_trans (Nat.le_of_lt hil) (Nat.le_trans hm (by decide))
          have hsw := hs.below hci.below
          have HY64 := Lib.hid (hsw.len64 (us + x.1) hil)
          have HYR := Lib.hid (hsw.at (us + x.1) hil)
          have R3 := Lib.hid hci.b3
          have R5 := Lib.hid b57
          have R10 := Lib.hid r10
          have HALL := Lib.hid hall
          have HSZW := Lib.hid hsz
          have HRR := Lib.hid hrr
          have HPL0 : (partM t fs.length b x.1).length = 64 := partM_len _ _ _ _
          clear hCH hci b57 hsw r10 hall hrr
          obtain ⟨i, hie⟩ : ∃ i, x.1 = i := ⟨_, rfl⟩
          have HIE := Lib.hid hie
          rw [hie] at hil hi3 HY64 HYR R10 hv28 HPL0
          subst hv28
          clear hie
          obtain ⟨y, hy⟩ : ∃ y, L.getD (us + i) nought = y := ⟨_, rfl⟩
          have HYE := Lib.hid hy
          rw [hy] at HY64 HYR
          clear hy
          obtain ⟨pm, hpm⟩ : ∃ pm, partM t fs.length b i = pm := ⟨_, rfl⟩
          have HPE := Lib.hid hpm
          rw [hpm] at R10 HPL0
          clear hpm
          have HPL := Lib.hid HPL0
          clear HPL0
          have HIY : Hid ((Try.prog.info? 89).map (·.size) = some (bv y).length) := (show _ = _ by rw [bv_length, HY64.out]; exact size39)
          have HIP : Hid ((Try.prog.info? 89).map (·.size) = some (bv pm).length) := (show _ = _ by rw [bv_length, HPL.out]; exact size39)
          have hwr : wrap64 ((us : Int) + (i : Int)) = ((us + i : Nat) : Int) := wrap_two hi3
          have hwr2 : IntKind.i64.wrap ((us : Int) + (i : Int)) = ((us + i : Nat) : Int) := wrap_two2 hi3
          have hix : ((us + i : Nat) : Int) < (L.length : Int) := Int.ofNat_lt.2 hil
          obtain ⟨j, hj⟩ : ∃ j, us + i = j := ⟨_, rfl⟩
          rw [hj] at hwr hwr2 hix HYR hil
          have HJE := Lib.hid hj
          clear hj hi3
          gi_wp2_with fail
          refine region_in2 (S := fun w' : World => Row w' w.heap.size 72 [.slice (some ⟨gs, u * 64, none⟩) L.length c] ∧ Row w' (w.heap.size + 2) 81 (ccs t A7 fs.length cc7 (usedM fs)) ∧ Row w' b10 89 (bv pm) ∧ w'.rangeAt gs (u * 64 + j * 64) (bv y)) (by kernel_rfl) (by rfl) (by rintro ⟨_, _, h⟩; exact h) ⟨R3.out, R5.out, R10.out, HYR.out⟩ (fun hHeld => ?_)
          refine wpAnyH_take (i := 0) (oi := ⟨some 30, _, _, _, _, _⟩) (v := ?v0y) rfl (by kernel_rfl) (by kernel_rfl) (by kernel_rfl) (fun _ _ _ h => h) (Or.inl ⟨by rfl, ?y0y⟩) hHeld ?r0y
          case y0y =>
            rintro w' ⟨q0, q1, q2, q3⟩
            have e3 : w'.cell? ⟨w.heap.size, 0, none⟩ = some (.slice (some ⟨gs, u * 64, none⟩) L.length c) := q0.cell 0
            go_simp
            try with_reducible rfl
          try simp only [Act.put, List.setIfInBounds_toArray, List.set_cons_zero, List.set_cons_succ]
          refine wpAnyH_take (i := 1) (oi := ⟨some 31, _, _, _, _, _⟩) (v := ?v1y) rfl (by kernel_rfl) (by kernel_rfl) (by kernel_rfl) (fun _ _ _ h => h) (Or.inl ⟨by rfl, ?y1y⟩) hHeld ?r1y
          case y1y =>
            rintro w' ⟨q0, q1, q2, q3⟩
            go_simp
            try with_reducible rfl
          try simp only [Act.put, List.setIfInBounds_toArray, List.set_cons_zero, List.set_cons_succ]
          refine wpAnyH_take (i := 2) (oi := ⟨some 32, _, _, _, _, _⟩) (v := ?v2y) rfl (by kernel_rfl) (by kernel_rfl) (by kernel_rfl) (fun _ _ _ h => h) (Or.inl ⟨by rfl, ?y2y⟩) hHeld ?r2y
          case y2y =>
            rintro w' ⟨q0, q1, q2, q3⟩
            have e5 : w'.cell? ⟨w.heap.size + 2, 2, none⟩ = some (.int .i64 (us : Int)) := by
              have h := q1.cell 2
              rw [HUS.out] at h
              exact h
            go_simp
            try with_reducible rfl
          try simp only [Act.put, List.setIfInBounds_toArray, List.set_cons_zero, List.set_cons_succ]
          refine wpAnyH_take (i := 3) (oi := ⟨some 33, _, _, _, _, _⟩) (v := ?v3y) rfl (by kernel_rfl) (by kernel_rfl) (by kernel_rfl) (fun _ _ _ h => h) (Or.inl ⟨by rfl, ?y3y⟩) hHeld ?r3y
          case y3y =>
            rintro w' ⟨q0, q1, q2, q3⟩
            go_simp
            try with_reducible rfl
          try simp only [Act.put, List.setIfInBounds_toArray, List.set_cons_zero, List.set_cons_succ]
          refine wpAnyH_take (i := 4) (oi := ⟨some 34, _, _, _, _, _⟩) (v := ?v4y) rfl (by kernel_rfl) (by kernel_rfl) (by kernel_rfl) (fun _ _ _ h => h) (Or.inl ⟨by rfl, ?y4y⟩) hHeld ?r4y
          case y4y =>
            rintro w' ⟨q0, q1, q2, q3⟩
            go_simp
            try with_reducible rfl
          try simp only [Act.put, List.setIfInBounds_toArray, List.set_cons_zero, List.set_cons_succ]
          refine wpAnyH_take (i := 5) (oi := ⟨some 35, _, _, _, _, _⟩) (v := ?v5y) rfl (by kernel_rfl) (by kernel_rfl) (by kernel_rfl) (fun _ _ _ h => h) (Or.inl ⟨by rfl, ?y5y⟩) hHeld ?r5y
          case y5y =>
            rintro w' ⟨q0, q1, q2, q3⟩
            go_simp
            try with_reducible rfl
          try simp only [Act.put, List.setIfInBounds_toArray, List.set_cons_zero, List.set_cons_succ]
          refine wpAnyH_take (i := 6) (oi := ⟨some 36, _, _, _, _, _⟩) rfl (by kernel_rfl) (by kernel_rfl) (by kernel_rfl) (fun _ _ _ h => h) (yieldsIf_load_mid (by rfl) 89 (.tmp 35) rfl gs (u * 64 + j * 64) ?x6y (bv y) _ (fun _ hS => hS.2.2.2) Try.underlying89 rfl HIY.out) hHeld ?r6y
          case x6y => first | rfl | (simp [Act.eval, go_sem]; done)
          try simp only [Act.put, List.setIfInBounds_toArray, List.set_cons_zero, List.set_cons_succ]
          refine wpAnyH_take (i := 7) (oi := ⟨some 37, _, _, _, _, _⟩) rfl (by kernel_rfl) (by kernel_rfl) (by kernel_rfl) (fun _ _ _ h => h) (yieldsIf_load_mid (by rfl) 89 (.tmp 10) rfl b10 0 ?x7y (bv pm) _ (fun _ hS => Row.all hS.2.2.1) Try.underlying89 rfl HIP.out) hHeld ?r7y
          case x7y => first | rfl | (simp [Act.eval, go_sem]; done)
          try simp only [Act.put, List.setIfInBounds_toArray, List.set_cons_zero, List.set_cons_succ]
          refine wpAnyH_take (i := 8) (oi := ⟨some 38, _, _, _, _, _⟩) rfl (by kernel_rfl) (by kernel_rfl) (by kernel_rfl) (fun _ _ _ h => h) (yields_neq_blk (by rfl) (.tmp 36) (.tmp 37) rfl y pm rfl rfl HY64.out HPL.out) hHeld ?r8y
          try simp only [Act.put, List.setIfInBounds_toArray, List.set_cons_zero, List.set_cons_succ]
          refine wpAnyH_done (by kernel_rfl) ?_ _
          have hgr : W.grownBy W.drew none := below_grown (Below.refl _ _).drew
          have HC2 : Hid (CH w t gs u c L fs b8 Ab b.length cb b ds W.drew) := Lib.hid (CH.own HCH.out hgr (fun r e => by cases e) (fun r e => by cases e) HM8.out)
          clear hgr
          by_cases hyp : y = pm
          · rw [show (!decide (y = pm)) = false by simp [hyp]]
            have HPP : Hid (∀ z ∈ pre ++ [x], L.getD (us + z.1) nought = partM t fs.length b z.1) := Lib.hid fun z hz => by
              rcases List.mem_append.1 hz with h | h
              · exact HALL.out z h
              · rw [List.mem_singleton.1 h, HIE.out, HYE.out, HPE.out, hyp]
            clear hyp
            gi_wp2
            exact ⟨⟨Nat.le_refl _, fun k o _ h _ => h⟩, KT.refl _ _, HC2.out, HSZW.out, HPP.out⟩
          · rw [show (!decide (y = pm)) = true by simp [hyp]]
            have HPP : Hid (∃ z ∈ pre ++ [x], L.getD (us + z.1) nought ≠ partM t fs.length b z.1) := Lib.hid ⟨x, by simp, by rw [HIE.out, HYE.out, HPE.out]; exact hyp⟩
            clear hyp
            gi_wp2
            exact ⟨⟨Nat.le_refl _, fun k o _ h _ => h⟩, rfl, HC2.out, HPP.out⟩
        case done =>
          rintro D xs W hD hS ⟨hCH, hsz, hall⟩ hK
          have HMK9 : Hid (Mks w.heap.size (D :: ds) W) := Lib.hid (hCH.mks.cons (Nat.le_trans HC8.out.below.size hD) hK (fun h => by have := (Array.getElem?_eq_some_iff.1 (HM8.out.open_ D h).2).1; omega))
          have HST : Hid (standsM t fs.length (L.drop us) = some b) := Lib.hid (stands_all HCE.out (by rw [List.length_drop]; exact HCS.out.2) (fun j hj => by
            have hm2 : j ∈ xs.map (·.1) := by rw [hS]; exact List.mem_range.2 hj
            obtain ⟨y, hy, rfl⟩ := List.mem_map.1 hm2
            rw [List.getD_eq_getElem?_getD, List.getElem?_drop, ← List.getD_eq_getElem?_getD]
            exact hall y hy))
          have HCH := Lib.hid hCH
          obtain ⟨A7, cc7, b57, hf7⟩ := hCH.ci.b5
          have B57 := Lib.hid b57
          have B87 := Lib.hid hCH.b8
          obtain ⟨xv, ho7, ha7, hx7⟩ := hf7
          have HO7 := Lib.hid ho7
          have HA7 := Lib.hid ha7
          have HX7 := Lib.hid hx7
          clear hCH hsz hall hK hS b57 ho7 ha7 hx7
          have hu7 : usedM fs ≤ 100000 := by rw [HUS.out]; omega
          have hn7 : fs.length ≤ 100000 := by omega
          gi_wp2_with fail
          go_wp2_with (first
            | (with_reducible refine wpList_load_row (op := ⟨some 39, _, _, _, _, _⟩) ?_ 81 (.tmp 5) ?_ (w.heap.size + 2) 0 ?_ (ccs t A7 fs.length cc7 (usedM fs)) _ (Row.all B57.out) Try.underlying81 ?_ (HI81.out _ _ _ _ _) ?_)
            | (with_reducible refine wpList_load_row (op := ⟨some 40, _, _, _, _, _⟩) ?_ 101 (.tmp 8) ?_ b8 0 ?_ (fcs t fs.length Ab b.length cb) _ (Row.all B87.out) Try.underlying101 ?_ HI101.out ?_))
          all_goals try (first | rfl | (simp; done))
          go_wp2_with fail
          refine (with_any t fs.length cc7 (usedM fs) A7 xv t fs.length Ab b.length cb W HO7.out HCS.out.1 hu7 hn7).mono ?_
          rintro e W2 ⟨A9, c9, rfl, ho9, hp9, hg9⟩
          have hci := HCH.out.ci
          have q3 := own_apart HO7.out hg9 hci.b3 (by decide)
          have q4 := own_apart HO7.out hg9 hci.b4 (by decide)
          have q5 := own_apart HO7.out hg9 B57.out (by decide)
          have qm : Mks w.heap.size (D :: ds) W2 := HMK9.out.kept (fun k o h ho _ => own_apart2 HO7.out hg9 h ho)
          have qu : ∀ k cs, Row W k 5 cs → Row W2 k 5 cs := fun k cs h => own_apart HO7.out hg9 h (by decide)
          have qb : Below w.heap.size w W2 := hci.below.grown hg9 hci.below.size (fun j hj => HA7.out j hj)
          have Q3 := Lib.hid q3
          have Q4 := Lib.hid q4
          have Q5 := Lib.hid q5
          have QM := Lib.hid qm
          have QU := Lib.hid qu
          have QB := Lib.hid qb
          have HO9 := Lib.hid ho9
          have HP9 := Lib.hid hp9
          have hs9 := Nat.le_trans hci.sz hg9.size
          clear hci q3 q4 q5 qm qu qb ho9 hp9 hg9
          have HL9 := Lib.hid (show (ccs t A9 (fs.length + 1) c9 (usedM fs + sects b.length)).length = (ccs t A7 fs.length cc7 (usedM fs)).length from rfl)
          go_wp2_with (first
            | (with_reducible refine wpList_store_whole (op := ⟨none, _, _, _, _, _⟩) ?_ 81 (.tmp 5) (.tmp 41) ?_ (w.heap.size + 2) (ccs t A9 (fs.length + 1) c9 (usedM fs + sects b.length)) ?_ ?_ 81 (ccs t A7 fs.length cc7 (usedM fs)) Q5.out HL9.out (ccs_one _ _ _ _ _) (HI81.out _ _ _ _ _) ?_))
          all_goals try (first | rfl | (simp; done))
          intro W3 hr3 hg3
          have hk3 : KeepR W2 W3 := keepR_grown Q5.out ⟨by decide, by decide⟩ hg3
          have hfr : Frs W3 w.heap.size A9 c9 (fs ++ [b]) := Frs.snoc (W := W) HCH.out.ci.below.size HX7.out HA7.out (by have := HO7.out.1; omega) HCH.out.by_ HCS.out.1 (fun k hk => Nat.le_trans HCK.out.below.size (HAB.out k hk)) (own_keepR HO9.out (.inl rfl) hk3) HP9.out (fun k cs h => hk3 k _ cs (.inr rfl) (QU.out k cs h))
          have hul3 : usedM (fs ++ [b]) ≤ L.length := by rw [usedM_snoc, HUS.out]; have := HCS.out.2; omega
          have hr3' : Row W3 (w.heap.size + 2) 81 (ccs t A9 (fs ++ [b]).length c9 (usedM (fs ++ [b]))) := by
            rw [usedM_snoc, List.length_append]; exact hr3
          have hCI3 : CI w t gs u c L (fs ++ [b]) W3 := ⟨Q3.out.grown hg3 (fun e => by have := Option.some.inj e; omega), Q4.out.grown hg3 (fun e => by have := Option.some.inj e; omega), ⟨A9, c9, hr3', hfr⟩, QB.out.grown hg3 QB.out.size (fun j e => by have := Option.some.inj e; omega), Nat.le_trans hs9 hg3.size⟩
          have hM3 : Mks w.heap.size (D :: ds) W3 := QM.out.kept (fun k o h ho _ => (hg3.block k (Array.getElem?_eq_some_iff.1 h).1 (fun e => by
            cases e
            rw [show W2.heap[w.heap.size + 2]? = _ from Q5.out] at h
            cases h
            cases ho)).trans h)
          have hch3 : chainM t (L.length + 1) 0 L = (fs ++ [b]) ++ chainM t (L.length + 1 - (fs ++ [b]).length) (fs ++ [b]).length (L.drop (usedM (fs ++ [b]))) := by
            rw [HCH0.out, usedM_snoc, HUS.out, List.length_append]
            obtain ⟨f, hf⟩ : ∃ f, L.length + 1 - fs.length = f + 1 := ⟨L.length - fs.length, by omega⟩
            have hf2 : L.length + 1 - (fs.length + [b].length) = f := by simp only [List.length_cons, List.length_nil]; omega
            rw [hf, hf2, List.append_assoc]
            congr 1
            simp only [chainM, HST.out, List.drop_drop, List.length_cons, List.length_nil, List.cons_append, List.nil_append]
          have hfl3 : (fs ++ [b]).length ≤ usedM (fs ++ [b]) := by
            rw [usedM_snoc, HUS.out, List.length_append]; have := sects_pos b.length; simp only [List.length_cons, List.length_nil]; omega
          have hms : L.length - usedM (fs ++ [b]) < L.length - usedM fs := by
            rw [usedM_snoc, HUS.out]; have := sects_pos b.length; have := HCS.out.2; omega
          have HALL := Lib.hid (And.intro hms (And.intro hM3 (And.intro hCI3 (And.intro hul3 (And.intro hfl3 hch3)))))
          clear hr3 hg3 hk3 hfr hul3 hr3' hCI3 hM3 hch3 hfl3 hms
          go_wp2_with fail
          exact ⟨_, HALL.out.1, _, _, _, _, _, _, _, _, _, _, _, _, _, _, _, _, _, _, _, _, _, _, _, _, _, _, _, _, _, _, _, _, _, _, D :: ds, fs ++ [b], rfl, HALL.out.2.1, HALL.out.2.2.1, rfl, HALL.out.2.2.2.1, HALL.out.2.2.2.2.1, HALL.out.2.2.2.2.2⟩
        case stop =>
          rintro D cd pre W hD hS ⟨rfl, hCH, hbad⟩ hK
          have HCK := Lib.hid hCH.ci
          obtain ⟨x, _, hbad⟩ := hbad
          have HBAD : Hid ((L.drop us).getD x.1 nought ≠ partM t fs.length b x.1 ∧ x.1 < sects b.length) := Lib.hid ⟨by
            rw [List.getD_eq_getElem?_getD, List.getElem?_drop, ← List.getD_eq_getElem?_getD]; exact hbad, x.2⟩
          clear hbad
          have HMK5 : Hid (Mks w.heap.size (D :: ds) W) := Lib.hid (hCH.mks.cons (Nat.le_trans HC8.out.below.size hD) hK (fun h => by have := (Array.getElem?_eq_some_iff.1 (HM8.out.open_ D h).2).1; omega))
          gi_wp2_with fail
          obtain ⟨A7, cc7, b57, hf7⟩ := HCK.out.b5
          have B57 := Lib.hid b57
          have B54 := Lib.hid HCK.out.b4
          have HF7 := Lib.hid hf7
          have HB7 := Lib.hid HCK.out.below
          have HLD := Lib.hid (show (ccs t A7 fs.length cc7 (usedM fs)).length = (ccs 0 none 0 0 0).length from rfl)
          have HFS : Hid (chainM t (L.length + 1) 0 L = fs) := Lib.hid (by
            rw [HCH0.out]
            obtain ⟨f, hf⟩ : ∃ f, L.length + 1 - fs.length = f + 1 := ⟨L.length - fs.length, by omega⟩
            rw [hf, HUS.out]
            simp [chainM, stands_other HCE.out HBAD.out])
          clear b57 hf7
          go_wp2_with (first
            | (with_reducible refine wpList_load_row (op := ⟨some 42, _, _, _, _, _⟩) ?_ 81 (.tmp 5) ?_ (w.heap.size + 2) 0 ?_ (ccs t A7 fs.length cc7 (usedM fs)) _ (Row.all B57.out) Try.underlying81 ?_ (HI81.out _ _ _ _ _) ?_)
            | (with_reducible refine wpList_store_whole (op := ⟨none, _, _, _, _, _⟩) ?_ 81 (.tmp 4) (.tmp 42) ?_ (w.heap.size + 1) (ccs t A7 fs.length cc7 (usedM fs)) ?_ ?_ 81 (ccs 0 none 0 0 0) B54.out HLD.out (ccs_one _ _ _ _ _) (HI81.out _ _ _ _ _) ?_))
          all_goals try (first | rfl | (simp; done))
          intro w6 hr6 hg6
          have hM6 : Mks w.heap.size (D :: ds) w6 := HMK5.out.kept (fun k o h ho _ => (hg6.block k (Array.getElem?_eq_some_iff.1 h).1 (fun e => by
            cases e
            rw [show W.heap[w.heap.size + 1]? = _ from B54.out] at h
            cases h
            cases ho)).trans h)
          have hk6 : KeepR W w6 := keepR_grown B54.out ⟨by decide, by decide⟩ hg6
          have hb6 : Below w.heap.size w w6 := HB7.out.grown hg6 HB7.out.size (fun j e => by have := Option.some.inj e; omega)
          go_wp2_with fail
          show LeavesInM Fence.wide 9 Try.prog _ _ _ _ .returning w6
          exact chain_end (D :: ds) HFS.out hM6 hr6 (HF7.out.keepR hk6) hb6 rfl
end Go.Proofs.Yteemdjamgbbjhaa.Wl

/-
  Noughts for those sectors of a row that hold anything, as a sequence; the sweep behind a chain.
-/
namespace Go.Proofs.Yteemdjamgbbjhaa.Wl
set_option maxRecDepth 100000
open Go.RowKit Go.Shelf Go.Proofs.Yteemdjamgbbjhaa.Wd Go.Proofs.Yteemdjamgbbjhaa.Dsk Go.Proofs.Yteemdjamgbbjhaa.Oct Go.Proofs.Yteemdjamgbbjhaa.Sum

attribute [local go_sem] Oper.semAt_some

/-- noughts for those of the first k that hold anything -/
def nfL (L : List (List UInt8)) (k : Nat) : List (Int × List UInt8) := (List.range k).filterMap fun (i : Nat) => if L.getD i nought = nought then none else some ((i : Int), nought)
theorem nfL_zero (L : List (List UInt8)) : nfL L 0 = [] := rfl
theorem nfL_same {L : List (List UInt8)} {k : Nat} (h : L.getD k nought = nought) : nfL L (k + 1) = nfL L k := by
  unfold nfL
  rw [List.range_succ, List.filterMap_append]
  simp only [List.filterMap_cons, List.filterMap_nil, if_pos h, List.append_nil]
theorem nfL_more {L : List (List UInt8)} {k : Nat} (h : ¬ L.getD k nought = nought) : nfL L (k + 1) = nfL L k ++ [((k : Int), nought)] := by
  unfold nfL
  rw [List.range_succ, List.filterMap_append]
  simp only [List.filterMap_cons, List.filterMap_nil, if_neg h]
theorem nfL_pre (L : List (List UInt8)) (j k : Nat) : nfL L j <+: nfL L (j + k) := by
  induction k with
  | zero => exact List.prefix_refl _
  | succ k ih =>
    refine ih.trans ?_
    rw [← Nat.add_assoc]
    by_cases h : L.getD (j + k) nought = nought
    · rw [nfL_same h]; exact List.prefix_refl _
    · rw [nfL_more h]; exact List.prefix_append _ _
theorem nfL_lt {L : List (List UInt8)} {k n : Nat} (h : ¬ L.getD k nought = nought) (hk : k < n) : (nfL L k).length < (nfL L n).length := by
  have h1 := (nfL_pre L (k + 1) (n - (k + 1))).length_le
  rw [nfL_more h, List.length_append, show k + 1 + (n - (k + 1)) = n by omega] at h1
  simp only [List.length_cons, List.length_nil] at h1
  omega
theorem nfL_most (L : List (List UInt8)) (k : Nat) : (nfL L k).length ≤ k := by
  have := List.length_filterMap_le (fun (i : Nat) => if L.getD i nought = nought then none else some ((i : Int), nought)) (List.range k)
  rw [List.length_range] at this
  exact this
theorem nfL_nil {L : List (List UInt8)} (h : ∀ x ∈ L, x = nought) (k : Nat) : nfL L k = [] := by
  induction k with
  | zero => rfl
  | succ k ih =>
    rw [nfL_same, ih]
    by_cases hk : k < L.length
    · rw [List.getD_eq_getElem?_getD, List.getElem?_eq_getElem hk]
      exact h _ (List.getElem_mem hk)
    · rw [List.getD_eq_getElem?_getD, List.getElem?_eq_none (by omega)]; rfl
set_option maxHeartbeats 4000000 in
theorem nfor_in (l Bf nn c : Nat) (A : Option Addr) (L : List (List UInt8)) (hnn : 1 ≤ nn) (hn : L.length ≤ 100000) (K0 : Nat → Prop) (J Jx : List IB → World → Prop) (W : World) (hJ : AbidesFrom W.heap.size J)
    (hY : ∀ pre x W1, J pre W1 → pre.length < (nfL L L.length).length → YieldAt Fence.wide (nn - 1) Try.prog l (encI x) W1 fun e W' =>
      (e = .returned (.bool true) ∧ J (pre ++ [x]) W' ∧ KT K0 W1 W') ∨ (e = .returned (.bool false) ∧ Jx (pre ++ [x]) W'))
    (hf : W.cell? ⟨Bf, 0, none⟩ = some (.slice A L.length c)) (hs : Bls W K0 A L) (hlt : ∀ k, K0 k → k < W.heap.size) (h0 : J [] W) :
    CallsIn Fence.wide nn Try.prog 99 #[.func (.yield l) #[] #[], .pointer (some ⟨Bf, 0, none⟩)] W fun e W' => (∃ v, e = .returned v) ∧
      ((∃ xs : List IB, xs.map (·.1) = nfL L L.length ∧ J xs W') ∨ (∃ pre : List IB, pre.map (·.1) <+: nfL L L.length ∧ Jx pre W')) := by
  have HY := Lib.hid hY
  have HJ := Lib.hid hJ
  have HS := Lib.hid hs
  have HLT := Lib.hid hlt
  clear hY hJ hs hlt
  refine callsIn_of_wp Try.func99 rfl trivial ?_ rfl
  simp only [Try.ntmps99, List.size_toArray, List.length_cons, List.length_nil, Nat.reduceAdd, Nat.reduceSub, Array.replicate_succ, Array.replicate_zero, List.push_toArray, List.append_toArray, List.nil_append, List.cons_append]
  gi_wp2_with fail
  have hlen : ∀ i, i < L.length → (L.getD i nought).length = 64 := fun i hi => by
    obtain ⟨g, o, _, _, hb⟩ := HS.out (by omega)
    exact (hb i hi).1
  gi_loopw [7] (fun i wr => ∃ (r : Nat) (xs : List IB), r ≤ L.length ∧ i = .int .i64 (r : Int) ∧ Hid (xs.map (·.1) = nfL L r) ∧ J xs wr ∧ Hid (∀ k, K0 k → wr.heap[k]? = W.heap[k]?)) (fun i _ => L.length - (intOf i).toNat)
  case atStart => exact ⟨0, [], Nat.zero_le _, rfl, (show _ = _ from rfl), h0, (fun _ _ => rfl)⟩
  case round =>
    obtain ⟨r, xs, hrn, rfl, HXS, hJs, HK⟩ := hrel
    by_cases hlt : r < L.length
    · have h1 : (r : Int) < (L.length : Int) := by omega
      obtain ⟨g, o, rfl, hK, hbk⟩ := HS.out (by omega)
      obtain ⟨x, hx⟩ : ∃ x, x = L.getD r nought := ⟨_, rfl⟩
      have hb := hbk r hlt
      rw [← hx] at hb
      have HB := Lib.hid (range_same hb.2 (HK.out g hK))
      have HX := Lib.hid hb.1
      have HIX : Hid ((Try.prog.info? 89).map (·.size) = some (bv x).length) := (show _ = _ by rw [bv_length, HX.out]; exact size39)
      have HGX := Lib.hid hx
      clear hb hbk hx
      gi_wp2_with (first
        | (with_reducible refine wpListIn_load_mid (op := ⟨some 11, _, _, _, _, _⟩) ?_ 89 (.tmp 10) ?_ g (o + r * 64) ?_ (bv x) _ HB.out Try.underlying89 ?_ HIX.out ?_)
        | (with_reducible refine wpListIn_store_in (op := ⟨none, _, _, _, _, _⟩) ?_ 89 (.tmp 4) (.tmp 11) ?_ wr.heap.size 0 (bv x) ?_ ?_ 89 (bv nought) ?hrow ?hfit bv_one HIX.out ?_))
      case hrow => exact Row.new wr 89 (bv nought)
      case hfit => rw [bv_length, bv_length, HX.out]; exact Nat.le_refl _
      all_goals try (first | rfl | (simp; done))
      intro wa hra hga
      rw [splice_all (bv nought) (bv x) (by rw [bv_length, bv_length, HX.out]; rfl)] at hra
      have hba : Below wr.heap.size wr wa := ((Below.refl wr.heap.size wr).alloc (Nat.le_refl _) _).grown hga (by simp) (fun k hk => by cases hk; exact Nat.le_refl _)
      have hJa : J xs wa := HJ.out _ _ _ none hJs (below_grown hba) (fun r e => by cases e)
      have RA := Lib.hid hra
      have HJA := Lib.hid hJa
      have HKA : Hid (∀ k, K0 k → wa.heap[k]? = W.heap[k]?) := (fun k hk => (hba.block k (kept_lt (HK.out k hk) (HLT.out k hk))).trans (HK.out k hk))
      clear hra hga hJa hJs hba
      have HHL := Lib.hid hlen
      clear hlen
      gi_wp2_with (first
        | (with_reducible refine wpListIn_load_mid (op := ⟨some 12, _, _, _, _, _⟩) ?_ 89 (.tmp 4) ?_ wr.heap.size 0 ?_ (bv x) _ (Row.all RA.out) Try.underlying89 ?_ HIX.out ?_))
      all_goals try (first | rfl | (simp; done))
      gi_wp2_with fail
      refine ⟨trivial, callsIn_wide.2 ?_⟩
      refine (written_any x wa HX.out).mono ?_
      rintro e wd ⟨rfl, hbd⟩
      have HJD : Hid (J xs wd) := HJ.out _ _ _ none HJA.out (below_grown hbd) (fun r e => by cases e)
      have HKD : Hid (∀ k, K0 k → wd.heap[k]? = W.heap[k]?) := (fun k hk => (hbd.block k (kept_lt (HKA.out k hk) (HLT.out k hk))).trans (HKA.out k hk))
      clear hbd
      by_cases hnx : x = nought
      · rw [show decide (x ≠ nought) = false by simp [hnx]]
        have hsame : nfL L (r + 1) = nfL L r := nfL_same (by rw [← HGX.out]; exact hnx)
        have HXS2 : Hid (xs.map (·.1) = nfL L (r + 1)) := (show _ = _ by rw [hsame]; exact HXS.out)
        clear hsame hnx
        gi_wp2_with fail
        refine ⟨fun f h => (by cases h), ?_⟩
        gi_wp2
        go_roundw
        case rel => exact ⟨r + 1, xs, by omega, by go_num, HXS2, HJD.out, HKD⟩
        case measure =>
          simp [intOf]
          omega
      · rw [show decide (x ≠ nought) = true by simp [hnx]]
        have hnx2 : ¬ L.getD r nought = nought := by rw [← HGX.out]; exact hnx
        have hlx : xs.length < (nfL L L.length).length := by
          have := congrArg List.length HXS.out
          rw [List.length_map] at this
          rw [this]
          exact nfL_lt hnx2 hlt
        obtain ⟨y, hy0⟩ : ∃ y : IB, y.1 = ((r : Int), nought) := ⟨⟨((r : Int), nought), by omega, by omega, rfl⟩, rfl⟩
        have HXS2 : Hid ((xs ++ [y]).map (·.1) = nfL L (r + 1)) := (show _ = _ by rw [List.map_append, nfL_more hnx2, HXS.out]; simp [hy0])
        obtain ⟨fn, tmps, assign, body, hy, hR⟩ := HY.out _ y wd HJD.out hlx
        unfold encI at hy
        rw [hy0] at hy
        dsimp only at hy
        rw [show blk nought = .agg #[.int .u8 0, .int .u8 0, .int .u8 0, .int .u8 0, .int .u8 0, .int .u8 0, .int .u8 0, .int .u8 0, .int .u8 0, .int .u8 0, .int .u8 0, .int .u8 0, .int .u8 0, .int .u8 0, .int .u8 0, .int .u8 0, .int .u8 0, .int .u8 0, .int .u8 0, .int .u8 0, .int .u8 0, .int .u8 0, .int .u8 0, .int .u8 0, .int .u8 0, .int .u8 0, .int .u8 0, .int .u8 0, .int .u8 0, .int .u8 0, .int .u8 0, .int .u8 0, .int .u8 0, .int .u8 0, .int .u8 0, .int .u8 0, .int .u8 0, .int .u8 0, .int .u8 0, .int .u8 0, .int .u8 0, .int .u8 0, .int .u8 0, .int .u8 0, .int .u8 0, .int .u8 0, .int .u8 0, .int .u8 0, .int .u8 0, .int .u8 0, .int .u8 0, .int .u8 0, .int .u8 0, .int .u8 0, .int .u8 0, .int .u8 0, .int .u8 0, .int .u8 0, .int .u8 0, .int .u8 0, .int .u8 0, .int .u8 0, .int .u8 0, .int .u8 0] from rfl] at hy
        clear hnx hnx2 hlx hy0
        gi_wp2
        refine hR.mono ?_
        rintro e W3 (⟨rfl, hJ3, hk3⟩ | ⟨rfl, hJx3⟩)
        · have HK3 : Hid ((∀ k, K0 k → W3.heap[k]? = W.heap[k]?)) := (fun k hk => (hk3.1 k hk).trans (HKD.out k hk))
          clear hk3 hR hy
          gi_wp2
          go_roundw
          case rel => exact ⟨r + 1, _, by omega, by go_num, HXS2, hJ3, HK3⟩
          case measure =>
            simp [intOf]
            omega
        · gi_wp2
          refine bodyPost_ret (results_none rfl _ _ _) rfl ?_
          refine ⟨⟨_, rfl⟩, .inr ⟨_, ?_, hJx3⟩⟩
          rw [HXS2.out]
          have := nfL_pre L (r + 1) (L.length - (r + 1))
          rwa [show r + 1 + (L.length - (r + 1)) = L.length by omega] at this
    · have h1 : ¬ (r : Int) < (L.length : Int) := by omega
      obtain rfl : r = L.length := by omega
      gi_wp2
      go_end0
      exact ⟨⟨_, rfl⟩, .inl ⟨_, HXS.out, hJs⟩⟩
theorem nfor_seq {w : World} {F : Nat → Prop} {Bf c : Nat} {A : Option Addr} {L : List (List UInt8)} (hn : L.length ≤ 100000) (hf : Row w Bf 72 [.slice A L.length c]) (hs : Bls w (fun k => k < w.heap.size ∧ ¬ F k) A L) :
    ∀ w1, Below w.heap.size w w1 → SeqStopsK Fence.wide 8 Try.prog 99 #[.pointer (some ⟨Bf, 0, none⟩)] encI (KT (fun k => k < w.heap.size ∧ ¬ F k)) (fun xs => xs.map (·.1) = nfL L L.length) (fun pre => pre.map (·.1) <+: nfL L L.length) (nfL L L.length).length w1 := by
  intro w1 hb1 l J Jx W hW hJ hJx hY h0
  have hb : Below w.heap.size w W := hb1.trans (hW.mono hb1.size)
  refine nfor_in l Bf 8 c A L (by omega) hn _ J Jx W hJ hY ((hf.below hb hf.lt).cell 0) (fun hp => ?_) (fun k hk => Nat.lt_of_lt_of_le hk.1 hb.size) h0
  obtain ⟨g, o, e, hk, hbk⟩ := hs hp
  exact ⟨g, o, e, hk, hbk.same (hb.block g hk.1)⟩
end Go.Proofs.Yteemdjamgbbjhaa.Wl

/-
  The sweep behind a chain.
-/
namespace Go.Proofs.Yteemdjamgbbjhaa.Wl
set_option maxRecDepth 100000
open Go.RowKit Go.Shelf Go.Proofs.Yteemdjamgbbjhaa.Wd Go.Proofs.Yteemdjamgbbjhaa.Dsk Go.Proofs.Yteemdjamgbbjhaa.Oct Go.Proofs.Yteemdjamgbbjhaa.Sum

/-- the sweep over the sectors L -/
def sweepM (L : List (List UInt8)) (f : Int) (d : DM) : DM × Int := if (∀ x ∈ L, x = nought) ∧ d.pend = [] then (d, 0) else layM (nfL L L.length) f d
theorem Sect.bls {w : World} {K : Nat → Prop} {gs u : Nat} {L : List (List UInt8)} (h : Sect w gs u L) (hk : K gs) : Bls w K (some ⟨gs, u * 64, none⟩) L := fun _ => ⟨gs, u * 64, rfl, hk, fun i hi => ⟨h.len64 i hi, h.at i hi⟩⟩
/-- what a sweep answers and leaves -/
def Swp (w w' : World) (F : Nat → Prop) (g dg area t n c used : Nat) (A : Option Addr) (br : Bool) (x : DM × Int) (e : Ending) : Prop :=
  e = .returned (.int .i64 x.2) ∧ ∃ F', Dk w' F' dg x.1 ∧ Ext F F' w w' ∧ Off (fun k => F k ∨ k = g) w w' ∧ Row w' g 83 (wcs dg area t A n c used (br || decide (x.2 ≠ 0)))
set_option maxHeartbeats 4000000 in
theorem sweep_any (g dg area t n c used gs u cc : Nat) (A : Option Addr) (br : Bool) (L : List (List UInt8)) (d : DM) (F : Nat → Prop) (w : World)
    (hw : Row w g 83 (wcs dg area t A n c used br)) (hd : Dk w F dg d) (hs : Sect w gs u L) (hc : L.length ≤ cc) (hgs : gs < w.heap.size ∧ ¬ F gs) (hm : L.length ≤ 1000) (ha : area ≤ 1000) (ht : t < 4294967296) (hu : used ≤ 2000) (hp : d.pend.length ≤ 900000) :
    Calls Try.prog 64 #[.pointer (some ⟨g, 0, none⟩), .slice (some ⟨gs, u * 64, none⟩) L.length cc] w fun e w' => Swp w w' F g dg area t n c used A br (sweepM L ((2 + t % 2 * area + used : Nat) : Int) d) e := by
  have mixed : Try.prog.follows .mixedOrders = true := by kernel_rfl
  have HW := Lib.hid hw
  have HD := Lib.hid hd
  have HS := Lib.hid hs
  have HG := Lib.hid hgs
  clear hw hd hs hgs
  have hf : 2 + t % 2 * area + used ≤ 10000 := by
    have : t % 2 * area ≤ 1 * 1000 := Nat.mul_le_mul (by omega) ha
    omega
  have HF := Lib.hid hf
  clear hf
  go_enter Try.func64, Try.ntmps64
  go_wp2_with fail
  refine (contains_any gs u cc L w HS.out hc hm).mono ?_
  rintro e w1 ⟨⟨r, rfl, hr⟩, hb1⟩
  have HB1 := Lib.hid hb1
  have HR := Lib.hid hr
  have HW1 := Lib.hid (HW.out.below hb1 HW.out.lt)
  have HD1 := Lib.hid (HD.out.below hb1)
  have HS1 := Lib.hid (HS.out.below hb1)
  clear hb1 hr
  cases r with
  | true =>
    have HM : Hid (sweepM L ((2 + t % 2 * area + used : Nat) : Int) d = layM (nfL L L.length) ((2 + t % 2 * area + used : Nat) : Int) d) := Lib.hid (by
      unfold sweepM
      rw [if_neg]
      rintro ⟨h, _⟩
      obtain ⟨x, hx, hn⟩ := HR.out.1 rfl
      exact hn (h x hx))
    go_wp2_with fail
    refine (end_any g dg area t n c used A br w1 HW1.out ha ht hu).mono ?_
    rintro e w2 ⟨rfl, rfl⟩
    go_wp2_with fail
    refine (nfor_any (some ⟨gs, u * 64, none⟩) L.length cc w1.drew).mono ?_
    rintro e w3 ⟨rfl, hw3⟩
    have rb : Row w3 w1.drew.heap.size 72 [.slice (some ⟨gs, u * 64, none⟩) L.length cc] := by rw [hw3]; exact Row.new _ _ _
    have hb3 : Below w1.heap.size w1 w3 := by rw [hw3]; exact ((Below.refl _ _).drew).alloc (Nat.le_refl _) _
    clear hw3
    have RB := Lib.hid rb
    have HB3 := Lib.hid (HB1.out.trans (hb3.mono HB1.out.size))
    have HW3 := Lib.hid (HW1.out.below hb3 HW1.out.lt)
    have HD3 := Lib.hid (HD1.out.below hb3)
    have HS3 := Lib.hid (HS1.out.below hb3)
    clear rb hb3
    go_wp2_with fail
    have hsq := nfor_seq (F := F) (by omega) RB.out (HS3.out.bls (K := fun k => k < w3.heap.size ∧ ¬ F k) ⟨Nat.lt_of_lt_of_le HG.out.1 HB3.out.size, HG.out.2⟩)
    have HLY := lay_dk g dg area t n c used A br (2 + t % 2 * area + used) _ _ (nfL L L.length) d F w3 HW3.out HD3.out (by have := nfL_most L L.length; omega) HF.out (enters_of Try.func99 (by kernel_rfl) rfl) hsq
    clear hsq
    refine HLY.mono ?_
    rintro e w4 ⟨rfl, F4, hd4, hx4, ho4, hr4⟩
    clear HLY
    rw [← HM.out] at hd4 hr4 ⊢
    have HE : Hid (Swp w w4 F g dg area t n c used A br (sweepM L ((2 + t % 2 * area + used : Nat) : Int) d) (.returned (.int .i64 (sweepM L ((2 + t % 2 * area + used : Nat) : Int) d).2))) := Lib.hid ⟨rfl, F4, hd4, (fun k hk => (hx4 k hk).imp id (fun h => ⟨Nat.le_trans HB3.out.size h.1, h.2⟩)), Off.behind HB3.out ho4 (fun k hk => .inl hk), hr4⟩
    clear hd4 hx4 ho4 hr4
    obtain ⟨x, hx⟩ : ∃ x, sweepM L ((2 + t % 2 * area + used : Nat) : Int) d = x := ⟨_, rfl⟩
    rw [hx] at HE ⊢
    have HX := Lib.hid hx
    clear hx
    go_wp2
    go_ret
    rw [HX.out]
    exact HE.out
  | false =>
    have c0 : w1.cell? ⟨g, 0, none⟩ = some (.pointer (some ⟨dg, 0, none⟩)) := HW1.out.cell 0
    have HN : Hid (∀ x ∈ L, x = nought) := Lib.hid fun x hx => by
      by_cases h : x = nought
      · exact h
      · have := HR.out.2 ⟨x, hx, h⟩; cases this
    go_wp2_with fail
    refine (pending_any dg d F w1 HD1.out.1 (by omega)).mono ?_
    rintro e wp ⟨rfl, _, hbp⟩
    have HBP := Lib.hid (HB1.out.trans (hbp.mono HB1.out.size))
    have HWP := Lib.hid (HW1.out.below hbp HW1.out.lt)
    have HDP := Lib.hid (HD1.out.below hbp)
    have HSP := Lib.hid (HS1.out.below hbp)
    clear hbp c0
    by_cases hz : d.pend.length = 0
    · have HM : Hid (sweepM L ((2 + t % 2 * area + used : Nat) : Int) d = (d, 0)) := Lib.hid (by
        unfold sweepM
        rw [if_pos ⟨HN.out, List.eq_nil_of_length_eq_zero hz⟩])
      have HO : Hid (Off (fun k => F k ∨ k = g) w wp) := Lib.hid (Off.of_below HBP.out)
      rw [hz]
      clear hz
      go_wp2
      go_ret
      unfold Swp
      rw [HM.out]
      exact ⟨rfl, F, HDP.out, Ext.refl _ _ _, HO.out, by simpa using HWP.out⟩
    · have HM : Hid (sweepM L ((2 + t % 2 * area + used : Nat) : Int) d = layM (nfL L L.length) ((2 + t % 2 * area + used : Nat) : Int) d) := Lib.hid (by
        unfold sweepM
        rw [if_neg]
        rintro ⟨_, h⟩
        exact hz (by rw [h]; rfl))
      have hz2 : ¬ (d.pend.length : Int) = 0 := by omega
      go_wp2_with fail
      refine (end_any g dg area t n c used A br wp HWP.out ha ht hu).mono ?_
      rintro e w2 ⟨rfl, rfl⟩
      go_wp2_with fail
      refine (nfor_any (some ⟨gs, u * 64, none⟩) L.length cc wp.drew).mono ?_
      rintro e w3 ⟨rfl, hw3⟩
      have rb : Row w3 wp.drew.heap.size 72 [.slice (some ⟨gs, u * 64, none⟩) L.length cc] := by rw [hw3]; exact Row.new _ _ _
      have hb3 : Below wp.heap.size wp w3 := by rw [hw3]; exact ((Below.refl _ _).drew).alloc (Nat.le_refl _) _
      clear hw3
      have RB := Lib.hid rb
      have HB3 := Lib.hid (HBP.out.trans (hb3.mono HBP.out.size))
      have HW3 := Lib.hid (HWP.out.below hb3 HWP.out.lt)
      have HD3 := Lib.hid (HDP.out.below hb3)
      have HS3 := Lib.hid (HSP.out.below hb3)
      clear rb hb3
      go_wp2_with fail
      have hsq := nfor_seq (F := F) (by omega) RB.out (HS3.out.bls (K := fun k => k < w3.heap.size ∧ ¬ F k) ⟨Nat.lt_of_lt_of_le HG.out.1 HB3.out.size, HG.out.2⟩)
      have HLY := lay_dk g dg area t n c used A br (2 + t % 2 * area + used) _ _ (nfL L L.length) d F w3 HW3.out HD3.out (by have := nfL_most L L.length; omega) HF.out (enters_of Try.func99 (by kernel_rfl) rfl) hsq
      clear hsq
      refine HLY.mono ?_
      rintro e w4 ⟨rfl, F4, hd4, hx4, ho4, hr4⟩
      clear HLY
      rw [← HM.out] at hd4 hr4 ⊢
      have HE : Hid (Swp w w4 F g dg area t n c used A br (sweepM L ((2 + t % 2 * area + used : Nat) : Int) d) (.returned (.int .i64 (sweepM L ((2 + t % 2 * area + used : Nat) : Int) d).2))) := Lib.hid ⟨rfl, F4, hd4, (fun k hk => (hx4 k hk).imp id (fun h => ⟨Nat.le_trans HB3.out.size h.1, h.2⟩)), Off.behind HB3.out ho4 (fun k hk => .inl hk), hr4⟩
      clear hd4 hx4 ho4 hr4
      obtain ⟨x, hx⟩ : ∃ x, sweepM L ((2 + t % 2 * area + used : Nat) : Int) d = x := ⟨_, rfl⟩
      rw [hx] at HE ⊢
      have HX := Lib.hid hx
      clear hx
      go_wp2
      go_ret
      rw [HX.out]
      exact HE.out
end Go.Proofs.Yteemdjamgbbjhaa.Wl

/-
  Open.
-/
namespace Go.Proofs.Yteemdjamgbbjhaa.Wl
set_option maxRecDepth 100000
open Go.RowKit Go.Shelf Go.Proofs.Yteemdjamgbbjhaa.Wd Go.Proofs.Yteemdjamgbbjhaa.Dsk Go.Proofs.Yteemdjamgbbjhaa.Oct Go.Proofs.Yteemdjamgbbjhaa.Sum

theorem rdM_pend (is : List Int) : ∀ d : DM, (rdM is d).1.pend = d.pend := by
  have h1 : ∀ (d : DM) (i : Int), (d.readM i).1.pend = d.pend := fun d i => by
    unfold DM.readM
    split
    · exact pre_pend d i false
    · exact pre_pend d i false
  induction is with
  | nil => intro d; rfl
  | cons j is ih =>
    intro d
    show (if _ then _ else _ : DM × List (List UInt8) × Int).1.pend = _
    split
    · exact h1 d j
    · exact (ih _).trans (h1 d j)
theorem stands_claims {t k : Nat} {s : List (List UInt8)} {b : List UInt8} (h : standsM t k s = some b) : claimedM s = some b := by
  unfold standsM at h
  revert h
  cases hc : claimedM s with
  | none => intro h; cases h
  | some c =>
    intro h
    have h2 : (if partsM t k c = s.take (sects c.length) then some c else none) = some b := h
    split at h2
    · rw [← Option.some.inj h2]
    · cases h2
theorem chain_fits (t : Nat) : ∀ (f k : Nat) (s : List (List UInt8)), (∀ x ∈ s, x.length = 64) → usedM (chainM t f k s) ≤ s.length ∧ ∀ b ∈ chainM t f k s, b.length ≤ 40000 := by
  intro f
  induction f with
  | zero => intro k s _; exact ⟨Nat.zero_le _, fun b hb => by cases hb⟩
  | succ f ih =>
    intro k s h64
    have hc : chainM t (f + 1) k s = match standsM t k s with | none => [] | some b => b :: chainM t f (k + 1) (s.drop (sects b.length)) := rfl
    cases hs : standsM t k s with
    | none => rw [hc, hs]; exact ⟨Nat.zero_le _, fun b hb => by cases hb⟩
    | some b =>
      rw [hc, hs]
      have h1 := claimed_some h64 (stands_claims hs)
      have h2 := ih (k + 1) (s.drop (sects b.length)) (fun x hx => h64 x (List.mem_of_mem_drop hx))
      rw [List.length_drop] at h2
      refine ⟨?_, fun c hc => ?_⟩
      · show usedM (b :: _) ≤ _
        have : ∀ l : List (List UInt8), usedM (b :: l) = sects b.length + usedM l := fun l => rfl
        rw [this]
        omega
      · rcases List.mem_cons.1 hc with rfl | hc
        · exact h1.1
        · exact h2.2 c hc
theorem used_most (fs : List (List UInt8)) : fs.length ≤ usedM fs := by
  induction fs with
  | nil => exact Nat.le_refl _
  | cons b fs ih =>
    have : usedM (b :: fs) = sects b.length + usedM fs := rfl
    have := sects_pos b.length
    rw [List.length_cons]
    omega
theorem heads_good {L : List (List UInt8)} {n : Nat} : ∀ {k : Nat} {m : Nat × Nat}, headsH L n k = some m → m.1 < 4294967296 ∧ 4 ≤ m.2 ∧ m.2 ≤ 1000 ∧ 2 + 2 * m.2 ≤ n := by
  intro k
  induction k with
  | zero => intro m h; cases h
  | succ k ih =>
    intro m h
    have hs : headsH L n (k + 1) = stepH (L.getD k nought) k n (headsH L n k) := rfl
    rw [hs] at h
    unfold stepH at h
    split at h
    · rename_i hr
      have e := Option.some.inj h
      rw [← e]
      have h1 := hr.1
      unfold rightH at h1
      simp only [Bool.and_eq_true, decide_eq_true_eq] at h1
      exact ⟨num4_lt _, h1.2.2⟩
    · exact ih h
/-- what an Open does: the disk, its error, and the log's turn, area and frames -/
def openM (d : DM) : DM × Int × (Nat × Nat × List (List UInt8)) :=
  if (rdM (idxs 0 2) d).2.2 ≠ 0 then ((rdM (idxs 0 2) d).1, (rdM (idxs 0 2) d).2.2, (0, 0, []))
  else match headsH (rdM (idxs 0 2) d).2.1 d.sec.length 2 with
  | none => ((rdM (idxs 0 2) d).1, 140, (0, 0, []))
  | some m =>
    if (rdM (idxs (2 + m.1 % 2 * m.2) m.2) (rdM (idxs 0 2) d).1).2.2 ≠ 0 then ((rdM (idxs (2 + m.1 % 2 * m.2) m.2) (rdM (idxs 0 2) d).1).1, (rdM (idxs (2 + m.1 % 2 * m.2) m.2) (rdM (idxs 0 2) d).1).2.2, (0, 0, []))
    else if chainM m.1 (m.2 + 1) 0 (rdM (idxs (2 + m.1 % 2 * m.2) m.2) (rdM (idxs 0 2) d).1).2.1 = [] then ((rdM (idxs (2 + m.1 % 2 * m.2) m.2) (rdM (idxs 0 2) d).1).1, 140, (0, 0, []))
    else
      ((sweepM ((rdM (idxs (2 + m.1 % 2 * m.2) m.2) (rdM (idxs 0 2) d).1).2.1.drop (usedM (chainM m.1 (m.2 + 1) 0 (rdM (idxs (2 + m.1 % 2 * m.2) m.2) (rdM (idxs 0 2) d).1).2.1))) ((2 + m.1 % 2 * m.2 + usedM (chainM m.1 (m.2 + 1) 0 (rdM (idxs (2 + m.1 % 2 * m.2) m.2) (rdM (idxs 0 2) d).1).2.1) : Nat) : Int) (rdM (idxs (2 + m.1 % 2 * m.2) m.2) (rdM (idxs 0 2) d).1).1).1,
       (sweepM ((rdM (idxs (2 + m.1 % 2 * m.2) m.2) (rdM (idxs 0 2) d).1).2.1.drop (usedM (chainM m.1 (m.2 + 1) 0 (rdM (idxs (2 + m.1 % 2 * m.2) m.2) (rdM (idxs 0 2) d).1).2.1))) ((2 + m.1 % 2 * m.2 + usedM (chainM m.1 (m.2 + 1) 0 (rdM (idxs (2 + m.1 % 2 * m.2) m.2) (rdM (idxs 0 2) d).1).2.1) : Nat) : Int) (rdM (idxs (2 + m.1 % 2 * m.2) m.2) (rdM (idxs 0 2) d).1).1).2,
       (m.1, m.2, chainM m.1 (m.2 + 1) 0 (rdM (idxs (2 + m.1 % 2 * m.2) m.2) (rdM (idxs 0 2) d).1).2.1))
/-- what an Open answers and leaves -/
def Opn (w w' : World) (F : Nat → Prop) (dg : Nat) (x : DM × Int × (Nat × Nat × List (List UInt8))) (e : Ending) : Prop :=
  ∃ p F', e = .returned (.tuple #[.pointer p, .int .i64 x.2.1]) ∧ Dk w' F' dg x.1 ∧ Ext F F' w w' ∧ Off F w w' ∧ (x.2.1 ≠ 0 → p = none) ∧
    (x.2.1 = 0 → ∃ g, p = some ⟨g, 0, none⟩ ∧ Log w' (fun k => w.heap.size ≤ k) g dg x.2.2.2.1 x.2.2.1 x.2.2.2.2 false ∧ x.2.2.1 < 4294967296 ∧ 4 ≤ x.2.2.2.1 ∧ x.2.2.2.1 ≤ 1000 ∧ 2 + 2 * x.2.2.2.1 ≤ x.1.sec.length ∧ usedM x.2.2.2.2 ≤ x.2.2.2.1 ∧ x.2.2.2.2 ≠ [] ∧ ∀ b ∈ x.2.2.2.2, b.length ≤ 40000)
theorem lay_sec (L : List (Int × List UInt8)) (f : Int) (d : DM) : (layM L f d).1.sec.length = d.sec.length := by
  have hw : ∀ (d : DM) (i : Int) (b : List UInt8), (d.writeM i b).1.sec.length = d.sec.length := fun d i b => by
    unfold DM.writeM
    split <;> simp [pre_sec, DM.put, DM.tally]
  have hl : ∀ (L : List (Int × List UInt8)) (d : DM), (layW L f d).1.sec.length = d.sec.length := by
    intro L
    induction L with
    | nil => intro d; rfl
    | cons p L ih =>
      intro d
      unfold layW
      split
      · exact hw _ _ _
      · exact (ih _).trans (hw _ _ _)
  have hs : ∀ d : DM, d.syncM.1.sec.length = d.sec.length := fun d => by
    unfold DM.syncM
    split <;> simp [pre_sec, DM.put, DM.tally]
  unfold layM
  split
  · exact hl _ _
  · exact (hs _).trans (hl _ _)
theorem sweep_sec (L : List (List UInt8)) (f : Int) (d : DM) : (sweepM L f d).1.sec.length = d.sec.length := by
  unfold sweepM
  split
  · rfl
  · exact lay_sec _ _ _
theorem size106b : (Try.prog.info? 106).map (·.size) = some 2 := size106
set_option maxHeartbeats 8000000 in
theorem open_any (dg : Nat) (d : DM) (F : Nat → Prop) (w : World) (hd : Dk w F dg d) (hp : d.pend.length ≤ 900000) :
    Calls Try.prog 20 #[.pointer (some ⟨dg, 0, none⟩)] w (fun e w' => Opn w w' F dg (openM d) e) := by
  have mixed : Try.prog.follows .mixedOrders = true := by kernel_rfl
  have HD := Lib.hid hd
  have HI6 := Lib.hid fun (x y : Nat) => (show (Try.prog.info? 106).map (·.size) = some (hcs x y).length from size106)
  clear hd
  go_enter Try.func20, Try.ntmps20
  go_wp2_with fail
  refine (heads_any dg d F w HD.out).mono ?_
  rintro e w1 ⟨F1, hd1, hx1, ho1, rfl⟩
  have hsec1 := rdM_sec (idxs 0 2) d
  have hpn1 := rdM_pend (idxs 0 2) d
  obtain ⟨d1, hd1e⟩ : ∃ d1, (rdM (idxs 0 2) d).1 = d1 := ⟨_, rfl⟩
  obtain ⟨L1, hL1⟩ : ∃ L1, (rdM (idxs 0 2) d).2.1 = L1 := ⟨_, rfl⟩
  obtain ⟨e1, he1⟩ : ∃ e1, (rdM (idxs 0 2) d).2.2 = e1 := ⟨_, rfl⟩
  have hr1 : rdM (idxs 0 2) d = (d1, L1, e1) := by rw [← hd1e, ← hL1, ← he1]
  rw [hd1e] at hd1 hsec1 hpn1
  rw [he1, hL1]
  have HR1 := Lib.hid hr1
  have HD1 := Lib.hid hd1
  have HX1 := Lib.hid hx1
  have HO1 := Lib.hid ho1
  have HSC := Lib.hid hsec1
  have HPN := Lib.hid (show d1.pend.length ≤ 900000 by rw [hpn1]; exact hp)
  clear hd1 hx1 ho1 hd1e hL1 he1 hr1 hsec1 hpn1 hp
  by_cases h0 : e1 = 0
  case neg =>
    rw [if_neg h0]
    have HM : Hid (openM d = (d1, e1, (0, 0, []))) := Lib.hid (by unfold openM; rw [HR1.out, if_pos h0])
    have HLH := Lib.hid fun (x y : Nat) => (show (hcs x y).length = (hcs 0 0).length from rfl)
    go_wp2_with (first
      | (with_reducible refine wpList_store_whole (op := ⟨none, _, _, _, _, _⟩) ?_ 106 (.tmp 4) (.tmp 14) ?_ w1.heap.size (hcs 0 0) ?_ ?_ 106 (hcs 0 0) ?hrow (HLH.out _ _) (hcs_one _ _) (HI6.out _ _) ?_))
    case hrow => exact Row.new w1 _ (hcs 0 0)
    all_goals try (first | rfl | (simp; done))
    intro w2 hr2 hg2
    have hb2 : Below w1.heap.size w1 w2 := ((Below.refl _ _).alloc (Nat.le_refl _) _).grown hg2 (by simp) (fun k hk => by cases hk; exact Nat.le_refl _)
    have HE : Hid (Opn w w2 F dg (openM d) (.returned (.tuple #[.pointer none, .int .i64 e1]))) := Lib.hid (by
      rw [HM.out]
      exact ⟨none, F1, rfl, HD1.out.below hb2, (fun k hk => (HX1.out k hk).imp id (fun h => ⟨h.1, Nat.lt_of_lt_of_le h.2 hb2.size⟩)), HO1.out.trans HX1.out (Off.of_below hb2), fun _ => rfl, fun h => absurd h h0⟩)
    clear hr2 hg2 hb2
    go_wp2
    exact bodyPost_ret (v := .tuple #[.pointer none, .int .i64 e1]) (by simp [results, Try.results20, go_sem]) rfl HE.out
  subst h0
  rw [if_pos rfl]
  unfold headsOut
  cases hh : headsH L1 d.sec.length 2 with
  | none =>
    have HM : Hid (openM d = (d1, 140, (0, 0, []))) := Lib.hid (by unfold openM; rw [HR1.out, if_neg (by simp)]; dsimp only; rw [hh])
    have HLH := Lib.hid fun (x y : Nat) => (show (hcs x y).length = (hcs 0 0).length from rfl)
    clear hh
    go_wp2_with (first
      | (with_reducible refine wpList_store_whole (op := ⟨none, _, _, _, _, _⟩) ?_ 106 (.tmp 4) (.tmp 14) ?_ w1.heap.size (hcs 0 0) ?_ ?_ 106 (hcs 0 0) ?hrow (HLH.out _ _) (hcs_one _ _) (HI6.out _ _) ?_))
    case hrow => exact Row.new w1 _ (hcs 0 0)
    all_goals try (first | rfl | (simp; done))
    intro w2 hr2 hg2
    have hb2 : Below w1.heap.size w1 w2 := ((Below.refl _ _).alloc (Nat.le_refl _) _).grown hg2 (by simp) (fun k hk => by cases hk; exact Nat.le_refl _)
    have HE : Hid (Opn w w2 F dg (openM d) (.returned (.tuple #[.pointer none, .int .i64 140]))) := Lib.hid (by
      rw [HM.out]
      exact ⟨none, F1, rfl, HD1.out.below hb2, (fun k hk => (HX1.out k hk).imp id (fun h => ⟨h.1, Nat.lt_of_lt_of_le h.2 hb2.size⟩)), HO1.out.trans HX1.out (Off.of_below hb2), fun _ => rfl, fun h => absurd (show (140 : Int) = 0 from h) (by decide)⟩)
    clear hr2 hg2 hb2
    go_wp2
    exact bodyPost_ret (v := .tuple #[.pointer none, .int .i64 140]) (by simp [results, Try.results20, go_sem]) rfl HE.out
  | some m =>
    obtain ⟨t, a⟩ := m
    obtain ⟨ht, ha4, ha, han⟩ := heads_good hh
    dsimp only at ht ha4 ha han
    have HH := Lib.hid hh
    have HAN := Lib.hid han
    clear hh han
    have HLH := Lib.hid fun (x y : Nat) => (show (hcs x y).length = (hcs 0 0).length from rfl)
    have hwa : IntKind.i64.wrap (a : Int) = (a : Int) := by rw [IntKind.wrap_i64]; omega
    go_wp2_with (first
      | (with_reducible refine wpList_store_whole (op := ⟨none, _, _, _, _, _⟩) ?_ 106 (.tmp 4) (.tmp 14) ?_ w1.heap.size (hcs t a) ?_ ?_ 106 (hcs 0 0) ?hrow (HLH.out _ _) (hcs_one _ _) (HI6.out _ _) ?_))
    case hrow => exact Row.new w1 _ (hcs 0 0)
    all_goals try (first | rfl | (simp; done))
    intro w2 hr2 hg2
    have hb2 : Below w1.heap.size w1 w2 := ((Below.refl _ _).alloc (Nat.le_refl _) _).grown hg2 (by simp) (fun k hk => by cases hk; exact Nat.le_refl _)
    have c1 : w2.cell? ⟨w1.heap.size, 1, none⟩ = some (.int .u32 (a : Int)) := hr2.cell 1
    have HB2 := Lib.hid hb2
    have RH2 := Lib.hid hr2
    clear hr2 hg2 hb2
    go_wp2_with fail
    refine nw fun w3 hw3 => ?_
    have rg3 : Row w3 w2.heap.size 83 (wcs dg a 0 none 0 0 0 false) := by rw [← hw3]; exact Row.new w2 _ _
    have hb3 : Below w2.heap.size w2 w3 := by rw [← hw3]; exact (Below.refl _ _).alloc (Nat.le_refl _) _
    obtain ⟨gw, hgw⟩ : ∃ gw, w2.heap.size = gw := ⟨_, rfl⟩
    obtain ⟨b4, hb4⟩ : ∃ b4, w1.heap.size = b4 := ⟨_, rfl⟩
    have HGW : Hid (w.heap.size ≤ gw) := Lib.hid (by rw [← hgw]; exact Nat.le_trans HO1.out.size HB2.out.size)
    have HB3 := Lib.hid (HB2.out.trans (hb3.mono HB2.out.size))
    have RH3 : Hid (Row w3 b4 106 (hcs t a)) := Lib.hid (by rw [← hb4]; exact RH2.out.below hb3 RH2.out.lt)
    rw [hgw] at rg3 ⊢
    rw [hb4] at c1 ⊢
    have RG3 := Lib.hid rg3
    have HD3 := Lib.hid (HD1.out.below HB3.out)
    clear hw3 rg3 hb3 hgw c1 RH2 hb4 HB2
    obtain ⟨f, hf⟩ : ∃ f, 2 + t % 2 * a = f := ⟨_, rfl⟩
    have hf10 : f ≤ 10000 := by
      have : t % 2 * a ≤ 1 * 1000 := Nat.mul_le_mul (by omega) ha
      omega
    have HFI := Lib.hid (fun W (h : Row W gw 83 (wcs dg a 0 none 0 0 0 false)) => (first_any gw dg a 0 0 0 0 none false t W h ha ht))
    rw [hf] at HFI
    have HF := Lib.hid hf
    clear hf
    refine wp_region_held_drew (S := fun W => Row W gw 83 (wcs dg a 0 none 0 0 0 false) ∧ Row W b4 106 (hcs t a)) (by kernel_rfl) ⟨RG3.out, RH3.out⟩ (fun hHeld => ?_)
    have S0 := Lib.hid hHeld
    clear hHeld
    refine wpAnyH_take (i := 0) (oi := ⟨some 26, _, _, _, _, _⟩) (v := ?vr1) rfl (by kernel_rfl) (by kernel_rfl) (by kernel_rfl) (fun _ _ _ h => h) (Or.inl ⟨by rfl, ?yr1⟩) S0.out ?rr1
    case yr1 =>
      rintro w' ⟨q0, q1⟩
      go_simp
      try with_reducible rfl
    try simp only [Act.put, List.setIfInBounds_toArray, List.set_cons_zero, List.set_cons_succ]
    refine wpAnyH_take (i := 1) (oi := ⟨some 27, _, _, _, _, _⟩) (v := ?vr2) rfl (by kernel_rfl) (by kernel_rfl) (by kernel_rfl) (fun _ _ _ h => h) (Or.inl ⟨by rfl, ?yr2⟩) S0.out ?rr2
    case yr2 =>
      rintro w' ⟨q0, q1⟩
      go_simp
      try with_reducible rfl
    try simp only [Act.put, List.setIfInBounds_toArray, List.set_cons_zero, List.set_cons_succ]
    refine wpAnyH_take (i := 2) (oi := ⟨some 28, _, _, _, _, _⟩) (v := ?vr3) rfl (by kernel_rfl) (by kernel_rfl) (by kernel_rfl) (fun _ _ _ h => h) (Or.inl ⟨by rfl, ?yr3⟩) S0.out ?rr3
    case yr3 =>
      rintro w' ⟨q0, q1⟩
      go_simp
      try with_reducible rfl
    try simp only [Act.put, List.setIfInBounds_toArray, List.set_cons_zero, List.set_cons_succ]
    refine wpAnyH_take (i := 3) (oi := ⟨some 29, _, _, _, _, _⟩) (v := ?vr4) rfl (by kernel_rfl) (by kernel_rfl) (by kernel_rfl) (fun _ _ _ h => h) (Or.inl ⟨by rfl, ?yr4⟩) S0.out ?rr4
    case yr4 =>
      rintro w' ⟨q0, q1⟩
      have c1 : w'.cell? ⟨b4, 0, none⟩ = some (.int .u32 (t : Int)) := q1.cell 0
      go_simp
      try with_reducible rfl
    try simp only [Act.put, List.setIfInBounds_toArray, List.set_cons_zero, List.set_cons_succ]
    refine wpAnyH_take (i := 5) (oi := ⟨some 31, _, _, _, _, _⟩) (v := ?vr5) rfl (by kernel_rfl) (by kernel_rfl) (by kernel_rfl) (fun _ _ _ h => h) (Or.inl ⟨by rfl, ?yr5⟩) S0.out ?rr5
    case yr5 =>
      rintro w' ⟨q0, q1⟩
      go_simp
      try with_reducible rfl
    try simp only [Act.put, List.setIfInBounds_toArray, List.set_cons_zero, List.set_cons_succ]
    refine wpAnyH_take (i := 6) (oi := ⟨some 32, _, _, _, _, _⟩) (v := ?vr6) rfl (by kernel_rfl) (by kernel_rfl) (by kernel_rfl) (fun _ _ _ h => h) (Or.inl ⟨by rfl, ?yr6⟩) S0.out ?rr6
    case yr6 =>
      rintro w' ⟨q0, q1⟩
      go_simp
      try with_reducible rfl
    try simp only [Act.put, List.setIfInBounds_toArray, List.set_cons_zero, List.set_cons_succ]
    refine wpAnyH_take (i := 7) (oi := ⟨some 33, _, _, _, _, _⟩) (v := ?vr7) rfl (by kernel_rfl) (by kernel_rfl) (by kernel_rfl) (fun _ _ _ h => h) (Or.inl ⟨by rfl, ?yr7⟩) S0.out ?rr7
    case yr7 =>
      rintro w' ⟨q0, q1⟩
      go_simp
      try with_reducible rfl
    try simp only [Act.put, List.setIfInBounds_toArray, List.set_cons_zero, List.set_cons_succ]
    refine wpAnyH_take (i := 8) (oi := ⟨some 34, _, _, _, _, _⟩) (v := ?vr8) rfl (by kernel_rfl) (by kernel_rfl) (by kernel_rfl) (fun _ _ _ h => h) (Or.inl ⟨by rfl, ?yr8⟩) S0.out ?rr8
    case yr8 =>
      rintro w' ⟨q0, q1⟩
      have c2 : w'.cell? ⟨gw, 1, none⟩ = some (.int .i64 (a : Int)) := q0.cell 1
      go_simp
      try with_reducible rfl
    try simp only [Act.put, List.setIfInBounds_toArray, List.set_cons_zero, List.set_cons_succ]
    refine wpAnyH_ready (rs := [4]) (by kernel_rfl) (by simp) ?_
    refine (AllReadyH.cons rfl (fun K hK => ?_) AllReadyH.nil)
    go_simp
    refine (HFI.out w3.drew RG3.out).mono ?_
    rintro e wx ⟨rfl, rfl⟩
    refine hK _ _ S0.out (fun _ => ?_)
    clear hK K
    try simp only [Act.put, List.setIfInBounds_toArray, List.set_cons_zero, List.set_cons_succ]
    refine wpAnyH_ready (rs := [9]) (by kernel_rfl) (by simp) ?_
    refine (AllReadyH.cons rfl (fun K hK => ?_) AllReadyH.nil)
    go_simp
    refine (rd_any dg f a d1 F1 w3.drew (HD3.out.below ((Below.refl _ _).drew)) hf10 (by omega)).mono ?_
    rintro e w9 ⟨v9, F9, rfl, hd9, hx9, ho9, hok⟩
    have hb9 : Below w1.heap.size w1 w3.drew := HB3.out.drew
    have RG9 : Hid (Row w9 gw 83 (wcs dg a 0 none 0 0 0 false)) := Lib.hid ((ho9.block gw RG3.out.lt (HD3.out.not RG3.out (by decide) (by decide) (by decide))).trans RG3.out)
    have RH9 : Hid (Row w9 b4 106 (hcs t a)) := Lib.hid ((ho9.block b4 RH3.out.lt (HD3.out.not RH3.out (by decide) (by decide) (by decide))).trans RH3.out)
    have HX9 : Hid (Ext F F9 w w9) := Lib.hid (fun k hk => by
      rcases hx9 k hk with h | h
      · rcases HX1.out k h with h | h
        · exact .inl h
        · exact .inr ⟨h.1, Nat.lt_of_lt_of_le h.2 (Nat.le_trans hb9.size ho9.size)⟩
      · exact .inr ⟨Nat.le_trans HO1.out.size (Nat.le_trans hb9.size h.1), h.2⟩)
    have HO9 : Hid (Off F w w9) := Lib.hid ((HO1.out.trans HX1.out (Off.of_below hb9)).trans (F' := F1) (fun k hk => (HX1.out k hk).imp id (fun h => ⟨h.1, Nat.lt_of_lt_of_le h.2 hb9.size⟩)) ho9)
    have HD9 := Lib.hid hd9
    have HOK := Lib.hid hok
    clear hd9 hx9 ho9 hok hb9
    refine hK _ _ ⟨RG9.out, RH9.out⟩ (fun _ => ?_)
    clear hK K
    try simp only [Act.put, List.setIfInBounds_toArray, List.set_cons_zero, List.set_cons_succ]
    refine wpAnyH_take (i := 10) (oi := ⟨some 25, _, _, _, _, _⟩) (v := ?vr11) rfl (by kernel_rfl) (by kernel_rfl) (by kernel_rfl) (fun _ _ _ h => h) (Or.inl ⟨by rfl, ?yr11⟩) ⟨RG9.out, RH9.out⟩ ?rr11
    case yr11 =>
      rintro w' ⟨q0, q1⟩
      go_simp
      try with_reducible rfl
    try simp only [Act.put, List.setIfInBounds_toArray, List.set_cons_zero, List.set_cons_succ]
    refine wpAnyH_take (i := 11) (oi := ⟨some 36, _, _, _, _, _⟩) (v := ?vr12) rfl (by kernel_rfl) (by kernel_rfl) (by kernel_rfl) (fun _ _ _ h => h) (Or.inl ⟨by rfl, ?yr12⟩) ⟨RG9.out, RH9.out⟩ ?rr12
    case yr12 =>
      rintro w' ⟨q0, q1⟩
      go_simp
      try with_reducible rfl
    try simp only [Act.put, List.setIfInBounds_toArray, List.set_cons_zero, List.set_cons_succ]
    refine wpAnyH_take (i := 12) (oi := ⟨some 37, _, _, _, _, _⟩) (v := ?vr13) rfl (by kernel_rfl) (by kernel_rfl) (by kernel_rfl) (fun _ _ _ h => h) (Or.inl ⟨by rfl, ?yr13⟩) ⟨RG9.out, RH9.out⟩ ?rr13
    case yr13 =>
      rintro w' ⟨q0, q1⟩
      go_simp
      try with_reducible rfl
    try simp only [Act.put, List.setIfInBounds_toArray, List.set_cons_zero, List.set_cons_succ]
    refine wpAnyH_take (i := 13) (oi := ⟨some 7, _, _, _, _, _⟩) (v := ?vr14) rfl (by kernel_rfl) (by kernel_rfl) (by kernel_rfl) (fun _ _ _ h => h) (Or.inl ⟨by rfl, ?yr14⟩) ⟨RG9.out, RH9.out⟩ ?rr14
    case yr14 =>
      rintro w' ⟨q0, q1⟩
      go_simp
      try with_reducible rfl
    try simp only [Act.put, List.setIfInBounds_toArray, List.set_cons_zero, List.set_cons_succ]
    refine wpAnyH_take (i := 14) (oi := ⟨some 5, _, _, _, _, _⟩) (v := ?vr15) rfl (by kernel_rfl) (by kernel_rfl) (by kernel_rfl) (fun _ _ _ h => h) (Or.inl ⟨by rfl, ?yr15⟩) ⟨RG9.out, RH9.out⟩ ?rr15
    case yr15 =>
      rintro w' ⟨q0, q1⟩
      go_simp
      try with_reducible rfl
    try simp only [Act.put, List.setIfInBounds_toArray, List.set_cons_zero, List.set_cons_succ]
    refine wpAnyH_done (by kernel_rfl) ?_ _

    have hp7 := rdM_pend (idxs f a) d1
    have hs7 := rdM_sec (idxs f a) d1
    obtain ⟨d4, hd4e⟩ : ∃ d4, (rdM (idxs f a) d1).1 = d4 := ⟨_, rfl⟩
    obtain ⟨L4, hL4⟩ : ∃ L4, (rdM (idxs f a) d1).2.1 = L4 := ⟨_, rfl⟩
    obtain ⟨e4, he4⟩ : ∃ e4, (rdM (idxs f a) d1).2.2 = e4 := ⟨_, rfl⟩
    have hr4 : rdM (idxs f a) d1 = (d4, L4, e4) := by rw [← hd4e, ← hL4, ← he4]
    rw [hd4e] at HD9 hp7 hs7
    rw [he4, hL4] at HOK
    rw [he4]
    have HR4 := Lib.hid hr4
    have HP4 := Lib.hid (show d4.pend.length ≤ 900000 by rw [hp7]; exact HPN.out)
    have HS4 := Lib.hid (show d4.sec.length = d.sec.length by rw [hs7, HSC.out])
    clear hd4e hL4 he4 hr4 hp7 hs7
    by_cases h4 : e4 = 0
    case neg =>
      have HM : Hid (openM d = (d4, e4, (0, 0, []))) := Lib.hid (by
        unfold openM
        rw [HR1.out, if_neg (by simp)]
        dsimp only
        rw [HH.out]
        dsimp only
        rw [HF.out, HR4.out, if_pos h4])
      have HE : Hid (Opn w w9 F dg (openM d) (.returned (.tuple #[.pointer none, .int .i64 e4]))) := Lib.hid (by
        rw [HM.out]
        exact ⟨none, F9, rfl, HD9.out, HX9.out, HO9.out, fun _ => rfl, fun h => absurd h h4⟩)
      clear HOK
      go_wp2
      exact bodyPost_ret (v := .tuple #[.pointer none, .int .i64 e4]) (by simp [results, Try.results20, go_sem]) rfl HE.out
    subst h4
    obtain ⟨gs, rfl, hgs, hgF, hrow, hLl, hL64⟩ := HOK.out rfl
    have hsect : Sect w9 gs 0 L4 := ⟨hL64, (by rw [Nat.zero_mul]; exact Row.front (m := []) (by rw [List.append_nil]; exact hrow) hrow.lt)⟩
    have HSE := Lib.hid hsect
    have HGS := Lib.hid (And.intro hrow.lt hgF)
    have HL4 := Lib.hid hLl
    have H64 := Lib.hid hL64
    have HRB := Lib.hid hrow
    have hc1 := (RH9.out).cell 0
    have hca := chain_any t gs 0 a L4 w9 ht hsect (by omega) (by omega)
    rw [Nat.zero_mul, hLl] at hca
    have HCA := Lib.hid hca
    clear hgs hgF hrow hLl hL64 hsect HOK hca
    have c1 : w9.cell? ⟨b4, 0, none⟩ = some (.int .u32 (t : Int)) := hc1
    clear hc1
    go_wp2_with fail
    refine HCA.out.mono ?_
    rintro e w10 ⟨A, cc, rfl, hfr, hb10⟩
    have hfit := chain_fits t (a + 1) 0 L4 H64.out
    obtain ⟨fs, hfs⟩ : ∃ fs, chainM t (a + 1) 0 L4 = fs := ⟨_, rfl⟩
    rw [hfs] at hfr hfit ⊢
    have HFS := Lib.hid hfs
    obtain ⟨us, hus⟩ : ∃ us, usedM fs = us := ⟨_, rfl⟩
    have hu2 : us ≤ a := by rw [← hus]; have := hfit.1; have := HL4.out; omega
    have HFIT := Lib.hid hfit.2
    have HUS := Lib.hid hus
    have HFR := Lib.hid hfr
    have RG10 := Lib.hid (RG9.out.below hb10 RG9.out.lt)
    have HD10 := Lib.hid (HD9.out.below hb10)
    have HSE10 := Lib.hid (HSE.out.below hb10)
    have HB10 := Lib.hid hb10
    have HI81 := Lib.hid fun (x : Nat) A (y c z : Nat) => (show (Try.prog.info? 81).map (·.size) = some (ccs x A y c z).length from size81)
    have HFT : Hid (2 + (ccs t A fs.length cc (usedM fs)).length ≤ (wcs dg a 0 none 0 0 0 false).length) := Lib.hid (show 2 + 3 ≤ 6 by decide)
    clear hfs hfr hfit hus hb10 c1 HCA
    go_wp2_with (first
      | (with_reducible refine wpList_store_in (op := ⟨none, _, _, _, _, _⟩) ?_ 81 (.tmp 47) (.tmp 45) ?_ gw 2 (ccs t A fs.length cc (usedM fs)) ?_ ?_ 83 (wcs dg a 0 none 0 0 0 false) RG10.out HFT.out (ccs_one _ _ _ _ _) (HI81.out _ _ _ _ _) ?_))
    all_goals try (first | rfl | (simp; done))
    intro w11 hr11 hg11
    rw [show splice (wcs dg a 0 none 0 0 0 false) 2 (ccs t A fs.length cc (usedM fs)) = wcs dg a t A fs.length cc (usedM fs) false from rfl] at hr11
    have hwF : w.heap.size ≤ gw := HGW.out
    have HK11 := Lib.hid (keepR_grown RG10.out ⟨by decide, by decide⟩ hg11)
    have HF11 : Hid (Frs w11 w9.heap.size A cc fs) := Lib.hid (HFR.out.keepR HK11.out)
    have HD11 := Lib.hid (HD10.out.grown RG10.out (by decide) (by decide) (by decide) hg11)
    have hgn : gs ≠ gw := fun e => absurd (row_type (HRB.out) (e ▸ RG9.out)) (by decide)
    have HGS11 : Hid (gs < w11.heap.size ∧ ¬ F9 gs) := Lib.hid ⟨Nat.lt_of_lt_of_le HGS.out.1 (Nat.le_trans HB10.out.size hg11.size), HGS.out.2⟩
    have HSE11 : Hid (Sect w11 gs 0 L4) := Lib.hid ⟨H64.out, (by
      rw [Nat.zero_mul]
      exact Row.front (m := []) (by rw [List.append_nil]; exact (HRB.out.below HB10.out HRB.out.lt).grown hg11 (fun e => hgn (Option.some.inj e))) HGS11.out.1)⟩
    have HO11 : Hid (Off F w w11) := Lib.hid ((HO9.out.trans HX9.out (Off.of_below HB10.out)).grown hg11 (fun k hk => .inr (by have := Option.some.inj hk; omega)))
    have HX11 : Hid (Ext F F9 w w11) := Lib.hid (fun k hk => (HX9.out k hk).imp id (fun h => ⟨h.1, Nat.lt_of_lt_of_le h.2 (Nat.le_trans HB10.out.size hg11.size)⟩))
    have c3 : w11.cell? ⟨gw, 3, none⟩ = some (.slice A fs.length cc) := hr11.cell 3
    have c4 : w11.cell? ⟨gw, 4, none⟩ = some (.int .i64 (us : Int)) := (hr11.cell 4).trans (by rw [← HUS.out]; rfl)
    have HR11 := Lib.hid hr11
    clear hr11 hg11 hgn HFT RG10 HD10 HSE10
    by_cases hz : fs.length = 0
    · have HM : Hid (openM d = (d4, 140, (0, 0, []))) := Lib.hid (by
        unfold openM
        rw [HR1.out, if_neg (by simp)]
        dsimp only
        rw [HH.out]
        dsimp only
        rw [HF.out, HR4.out, if_neg (by simp)]
        dsimp only
        rw [HFS.out, if_pos (List.eq_nil_of_length_eq_zero hz)])
      have HE : Hid (Opn w w11 F dg (openM d) (.returned (.tuple #[.pointer none, .int .i64 140]))) := Lib.hid (by
        rw [HM.out]
        exact ⟨none, F9, rfl, HD11.out, HX11.out, HO11.out, fun _ => rfl, fun h => absurd (show (140 : Int) = 0 from h) (by decide)⟩)
      rw [hz] at c3
      clear c4 hz
      go_wp2
      exact bodyPost_ret (v := .tuple #[.pointer none, .int .i64 140]) (by simp [results, Try.results20, go_sem]) rfl HE.out
    have hz2 : ¬ (fs.length : Int) = 0 := by omega
    have g1 : (us : Int) ≤ (a : Int) := by omega
    have g2 : (0 : Int) ≤ (us : Int) := by omega
    have HN : Hid (fs ≠ []) := Lib.hid (fun e => hz (by rw [e]; rfl))
    clear hz
    by_cases hua : us = a
    · have hdn : L4.drop us = [] := List.drop_eq_nil_of_le (by have := HL4.out; omega)
      have hsw := sweep_any gw dg a t fs.length cc (usedM fs) gs 0 0 A false (L4.drop us) d4 F9 w11 HR11.out HD11.out (by rw [hdn]; exact ⟨fun _ h => (by cases h), Bs.nil _ _ _⟩) (by rw [hdn]; exact Nat.le_refl _) HGS11.out (by rw [hdn]; exact Nat.zero_le _) ha ht (by rw [HUS.out]; omega) HP4.out
      have hdl0 : (L4.drop us).length = 0 := by rw [hdn]; rfl
      rw [HUS.out, hdl0, Nat.zero_mul] at hsw
      have HSW := Lib.hid hsw
      have g3 : (us : Int) = (a : Int) := by omega
      clear hsw hdn hdl0
      go_wp2_with fail
      refine (HSW.out).mono ?_
      rintro e w12 ⟨rfl, F12, hd12, hx12, ho12, hr12⟩
      have hss := sweep_sec (L4.drop us) ((2 + t % 2 * a + us : Nat) : Int) d4
      obtain ⟨dx, hdx⟩ : ∃ dx, (sweepM (L4.drop us) ((2 + t % 2 * a + us : Nat) : Int) d4).1 = dx := ⟨_, rfl⟩
      obtain ⟨ex, hex⟩ : ∃ ex, (sweepM (L4.drop us) ((2 + t % 2 * a + us : Nat) : Int) d4).2 = ex := ⟨_, rfl⟩
      have HM : Hid (openM d = (dx, ex, (t, a, fs))) := Lib.hid (by
        unfold openM
        rw [HR1.out, if_neg (by simp)]
        dsimp only
        rw [HH.out]
        dsimp only
        rw [HF.out, HR4.out, if_neg (by simp)]
        dsimp only
        rw [HFS.out, if_neg HN.out, HUS.out, ← HF.out, hdx, hex])
      rw [hdx] at hd12 hss
      rw [hex] at hr12 ⊢
      have HK12 := Lib.hid (keepR_off HD11.out HR11.out ho12)
      have HF12 := Lib.hid (HF11.out.keepR HK12.out)
      have HO12 : Hid (Off F w w12) := Lib.hid (by
        refine ⟨ho12.os.trans HO11.out.os, ho12.tape.trans HO11.out.tape, ho12.output.trans HO11.out.output, Nat.le_trans HO11.out.size ho12.size, fun k hk hn => (ho12.block k (Nat.lt_of_lt_of_le hk HO11.out.size) (fun h => ?_)).trans (HO11.out.block k hk hn)⟩
        rcases h with h | h
        · rcases HX11.out k h with h | h
          · exact hn h
          · omega
        · have := HGW.out; omega)
      have HX12 : Hid (Ext F F12 w w12) := Lib.hid (fun k hk => by
        rcases hx12 k hk with h | h
        · rcases HX11.out k h with h | h
          · exact .inl h
          · exact .inr ⟨h.1, Nat.lt_of_lt_of_le h.2 ho12.size⟩
        · exact .inr ⟨Nat.le_trans HO11.out.size h.1, h.2⟩)
      have HD12 := Lib.hid hd12
      have HSS := Lib.hid hss
      have HR12 := Lib.hid hr12
      have HXW : Hid (w.heap.size ≤ w9.heap.size) := Lib.hid HO9.out.size
      clear hdx hex hd12 hx12 ho12 hr12 hss HSW
      by_cases hx0 : ex = 0
      case neg =>
        have HE : Hid (Opn w w12 F dg (openM d) (.returned (.tuple #[.pointer none, .int .i64 ex]))) := Lib.hid (by
          rw [HM.out]
          exact ⟨none, F12, rfl, HD12.out, HX12.out, HO12.out, fun _ => rfl, fun h => absurd h hx0⟩)
        go_wp2
        exact bodyPost_ret (v := .tuple #[.pointer none, .int .i64 ex]) (by simp [results, Try.results20, go_sem]) rfl HE.out
      subst hx0
      have HE : Hid (Opn w w12 F dg (openM d) (.returned (.tuple #[.pointer (some ⟨gw, 0, none⟩), .int .i64 0]))) := Lib.hid (by
        rw [HM.out]
        refine ⟨some ⟨gw, 0, none⟩, F12, rfl, HD12.out, HX12.out, HO12.out, fun h => absurd rfl h, fun _ => ⟨gw, rfl, ?_, ht, ha4, ha, ?_, ?_, HN.out, HFIT.out⟩⟩
        · obtain ⟨xs, h1, h2, h3⟩ := HF12.out
          have hrow12 := HR12.out
          rw [show (false || decide ((0 : Int) ≠ 0)) = false by decide, ← HUS.out] at hrow12
          exact ⟨A, cc, xs, hrow12, h1, HGW.out, fun k hk => Nat.le_trans HXW.out (h2 k hk), fun i hi => by
            obtain ⟨Ai, ni, ci, q1, q2, q3, q4⟩ := h3 i hi
            exact ⟨Ai, ni, ci, q1, q2, q3, fun k hk => Nat.le_trans HXW.out (q4 k hk)⟩⟩
        · show 2 + 2 * a ≤ dx.sec.length
          rw [HSS.out, HS4.out]
          exact HAN.out
        · show usedM fs ≤ a
          rw [HUS.out]; exact hu2)
      go_wp2
      exact bodyPost_ret (v := .tuple #[.pointer (some ⟨gw, 0, none⟩), .int .i64 0]) (by simp [results, Try.results20, go_sem]) rfl HE.out
    have hsd : Sect w11 gs us (L4.drop us) := by
      have := HSE11.out.drop us (by rw [HL4.out]; exact hu2)
      rwa [Nat.zero_add] at this
    have hdl : (L4.drop us).length = a - us := by rw [List.length_drop, HL4.out]
    have hsw := sweep_any gw dg a t fs.length cc (usedM fs) gs us (a - us) A false (L4.drop us) d4 F9 w11 HR11.out HD11.out hsd (by omega) HGS11.out (by omega) ha ht (by rw [HUS.out]; omega) HP4.out
    rw [HUS.out, hdl] at hsw
    have HSW := Lib.hid hsw
    have g3 : ¬ (us : Int) = (a : Int) := by omega
    clear hsw hsd hdl hua
    go_wp2_with fail
    refine (HSW.out).mono ?_
    rintro e w12 ⟨rfl, F12, hd12, hx12, ho12, hr12⟩
    have hss := sweep_sec (L4.drop us) ((2 + t % 2 * a + us : Nat) : Int) d4
    obtain ⟨dx, hdx⟩ : ∃ dx, (sweepM (L4.drop us) ((2 + t % 2 * a + us : Nat) : Int) d4).1 = dx := ⟨_, rfl⟩
    obtain ⟨ex, hex⟩ : ∃ ex, (sweepM (L4.drop us) ((2 + t % 2 * a + us : Nat) : Int) d4).2 = ex := ⟨_, rfl⟩
    have HM : Hid (openM d = (dx, ex, (t, a, fs))) := Lib.hid (by
      unfold openM
      rw [HR1.out, if_neg (by simp)]
      dsimp only
      rw [HH.out]
      dsimp only
      rw [HF.out, HR4.out, if_neg (by simp)]
      dsimp only
      rw [HFS.out, if_neg HN.out, HUS.out, ← HF.out, hdx, hex])
    rw [hdx] at hd12 hss
    rw [hex] at hr12 ⊢
    have HK12 := Lib.hid (keepR_off HD11.out HR11.out ho12)
    have HF12 := Lib.hid (HF11.out.keepR HK12.out)
    have HO12 : Hid (Off F w w12) := Lib.hid (by
      refine ⟨ho12.os.trans HO11.out.os, ho12.tape.trans HO11.out.tape, ho12.output.trans HO11.out.output, Nat.le_trans HO11.out.size ho12.size, fun k hk hn => (ho12.block k (Nat.lt_of_lt_of_le hk HO11.out.size) (fun h => ?_)).trans (HO11.out.block k hk hn)⟩
      rcases h with h | h
      · rcases HX11.out k h with h | h
        · exact hn h
        · omega
      · have := HGW.out; omega)
    have HX12 : Hid (Ext F F12 w w12) := Lib.hid (fun k hk => by
      rcases hx12 k hk with h | h
      · rcases HX11.out k h with h | h
        · exact .inl h
        · exact .inr ⟨h.1, Nat.lt_of_lt_of_le h.2 ho12.size⟩
      · exact .inr ⟨Nat.le_trans HO11.out.size h.1, h.2⟩)
    have HD12 := Lib.hid hd12
    have HSS := Lib.hid hss
    have HR12 := Lib.hid hr12
    have HXW : Hid (w.heap.size ≤ w9.heap.size) := Lib.hid HO9.out.size
    clear hdx hex hd12 hx12 ho12 hr12 hss HSW
    by_cases hx0 : ex = 0
    case neg =>
      have HE : Hid (Opn w w12 F dg (openM d) (.returned (.tuple #[.pointer none, .int .i64 ex]))) := Lib.hid (by
        rw [HM.out]
        exact ⟨none, F12, rfl, HD12.out, HX12.out, HO12.out, fun _ => rfl, fun h => absurd h hx0⟩)
      go_wp2
      exact bodyPost_ret (v := .tuple #[.pointer none, .int .i64 ex]) (by simp [results, Try.results20, go_sem]) rfl HE.out
    subst hx0
    have HE : Hid (Opn w w12 F dg (openM d) (.returned (.tuple #[.pointer (some ⟨gw, 0, none⟩), .int .i64 0]))) := Lib.hid (by
      rw [HM.out]
      refine ⟨some ⟨gw, 0, none⟩, F12, rfl, HD12.out, HX12.out, HO12.out, fun h => absurd rfl h, fun _ => ⟨gw, rfl, ?_, ht, ha4, ha, ?_, ?_, HN.out, HFIT.out⟩⟩
      · obtain ⟨xs, h1, h2, h3⟩ := HF12.out
        have hrow12 := HR12.out
        rw [show (false || decide ((0 : Int) ≠ 0)) = false by decide, ← HUS.out] at hrow12
        exact ⟨A, cc, xs, hrow12, h1, HGW.out, fun k hk => Nat.le_trans HXW.out (h2 k hk), fun i hi => by
          obtain ⟨Ai, ni, ci, q1, q2, q3, q4⟩ := h3 i hi
          exact ⟨Ai, ni, ci, q1, q2, q3, fun k hk => Nat.le_trans HXW.out (q4 k hk)⟩⟩
      · show 2 + 2 * a ≤ dx.sec.length
        rw [HSS.out, HS4.out]
        exact HAN.out
      · show usedM fs ≤ a
        rw [HUS.out]; exact hu2)
    go_wp2
    exact bodyPost_ret (v := .tuple #[.pointer (some ⟨gw, 0, none⟩), .int .i64 0]) (by simp [results, Try.results20, go_sem]) rfl HE.out
end Go.Proofs.Yteemdjamgbbjhaa.Wl

/-
  A range over a function that reads on from a block of its own (it writes that block between the rounds), and tells of each element what it knows in the world of the round. Nothing here speaks of the program.
-/
namespace Go.Proofs.Yteemdjamgbbjhaa.Dsk
open Go.RowKit Go.Proofs.Yteemdjamgbbjhaa.Wd

/-- what stays over the steps that the function takes by itself -/
def Stab {α : Type} (G : World → World → Prop) (J : α → World → Prop) : Prop := ∀ s A B, J s A → G A B → J s B
/-- what does not look into the loop's own records -/
def Apart {α : Type} (B : Nat) (J : α → World → Prop) : Prop := ∀ s (W : World) l o o', B ≤ l → W.heap[l]? = some o → o.isCells = false → J s W → J s (W.putObj l o')
/-- the contract of such a function, from the world w on -/
def Feeds {α : Type} (n : Nat) (P : Program) (gf : Nat) (lb : Array Value) (encs : α → Array Value) (G : World → World → Prop) (T : List α → α → World → Prop) (Ok : α → Prop) (Kp : World → World → Prop) (S Sp : List α → World → Prop) (w : World) : Prop :=
  ∀ (l : Nat) (J Jx : List α → World → Prop) (W1 : World), Below w.heap.size w W1 → Stab G J → Stab G Jx →
    (∀ pre x W, T pre x W → J pre W → YieldAt Fence.wide (n - 1) P l (encs x) W fun e W' => (e = .returned (.bool true) ∧ Ok x ∧ J (pre ++ [x]) W' ∧ Kp W W') ∨ (e = .returned (.bool false) ∧ Jx (pre ++ [x]) W')) →
    J [] W1 →
    CallsIn Fence.wide n P gf (#[.func (.yield l) #[] #[]] ++ lb) W1 fun e W' => (∃ v, e = .returned v) ∧ ((∃ xs, S xs W' ∧ J xs W') ∨ (∃ pre, Sp pre W' ∧ Jx pre W'))

/-- how the body of a round is left: it goes on, or it returns -/
def roundEnds {α : Type} (B : Nat) (Ok : α → Prop) (Kp : World → World → Prop) (I Ix : List α → World → Prop) (pre : List α) (x : α) (W : World) : Exit → Act → World → Prop
  | .normal, _, W' => KeepsFrom B W W' ∧ Ok x ∧ Kp W W' ∧ I (pre ++ [x]) W'
  | .ret, _, W' => KeepsFrom B W W' ∧ Ix (pre ++ [x]) W'
  | _, _, _ => False

theorem range_feeds {α : Type} {P : Program} {n : Nat} {g : Operand} {ps : Array Tmp} {assign body : Code} {Q : Exit → Act → World → Prop} {a : Act} {w : World} (h1 : 1 ≤ n)
    {gf : Nat} {lb : Array Value} (hg : a.eval g = .func (.func gf) #[] lb) (eg : ∀ args w, (callFunc gf args).run P w = .ok (.enter gf args) w)
    {encs : α → Array Value} {G : World → World → Prop} {T : List α → α → World → Prop} {Ok : α → Prop} {Kp : World → World → Prop} {S Sp : List α → World → Prop} (hit : Feeds (n - 1) P gf lb encs G T Ok Kp S Sp w)
    (hKt : ∀ {A B C : World}, Kp A B → Kp B C → Kp A C) (hKb : ∀ (W : World) (l : Nat) (o o' : Obj), w.heap.size ≤ l → W.heap[l]? = some o → o.isCells = false → Kp W (W.putObj l o'))
    (hps : ∀ x, (encs x).size = ps.size)
    (I Ix : List α → World → Prop) (hG : ∀ (A B : World) k o, G A B → w.heap.size ≤ k → A.heap[k]? = some o → o.isCells = false → B.heap[k]? = some o) (hIa : ∀ s (W : World) o, I s W → I s (W.alloc o)) (hI : Stab G I) (hIx : Stab G Ix) (hIp : Apart w.heap.size I) (hIxp : Apart w.heap.size Ix) (h0 : I [] w)
    (Ax : List α → α → Act → World → Prop) (hAx : ∀ pre x a', Apart w.heap.size (fun (_ : Unit) W => Ax pre x a' W))
    (hassign : ∀ (l : Nat) (pre : List α) (x : α) (W : World) (K : Act → World → Prop), T pre x W → I pre W → (∀ a' W', KeepsFrom w.heap.size W W' → Kp W W' → I pre W' → Ax pre x a' W' → K a' W') →
      assign.wpIn (Fence.wide.inRound l) (n - 1 - 1) P (Exit.then K (fun _ _ _ => False)) { tmps := (ps.zip (encs x)).foldl (fun t (p, v) => t.setIfInBounds p v) a.tmps, defers := [] } W)
    (hbody : ∀ (l : Nat) (pre : List α) (x : α) (a' : Act) (W : World), w.heap.size ≤ l → (∃ r, W.heap[l]? = some (.loop r)) → I pre W → Ax pre x a' W → body.wpIn (Fence.wide.inRound l) (n - 1 - 1) P (roundEnds w.heap.size Ok Kp I Ix pre x W) a' W)
    (hdone : ∀ (D : Nat) (xs : List α) (W W' : World), w.heap.size ≤ D → S xs W → I xs W' → W.grownBy W' (some (w.heap.size + 1)) → W'.heap[D]? = some (.deferred (some [])) → Q .normal { a with defers := { target := .collected D, args := #[] } :: a.defers } W')
    (hstop : ∀ (D : Nat) (pre : List α) (W W' : World), w.heap.size ≤ D → Sp pre W → Ix pre W' → W.grownBy W' (some (w.heap.size + 1)) → W'.heap[D]? = some (.deferred (some [])) → (Code.ret).wpIn Fence.wide n P Q { a with defers := { target := .collected D, args := #[] } :: a.defers } W') :
    (Code.rangeFunc g ps assign body).wpIn Fence.wide n P Q a w := by
  refine wpIn_rangeFunc fun fn hfn => ?_
  rw [show Fence.wide.round = none from rfl]
  obtain ⟨B, hB⟩ : ∃ B, B = w.heap.size := ⟨_, rfl⟩
  obtain ⟨rec, hrec⟩ : ∃ rec : LoopState → Option Code → Loop, rec = fun st pe => { state := st, pending := pe, fn, tmps := a.tmps, params := ps, assign, body, defers := w.heap.size } := ⟨_, rfl⟩
  obtain ⟨W1, hW1⟩ : ∃ W1, W1 = (w.alloc (.deferred (some []))).alloc (.loop (rec .ready none)) := ⟨_, rfl⟩
  have hb1 : Below w.heap.size w W1 := by rw [hW1]; exact ((Below.refl _ _).alloc (Nat.le_refl _) _).alloc (by simp) _
  have hl1 : W1.heap[w.heap.size + 1]? = some (.loop (rec .ready none)) := by
    have := World.alloc_heap_new (w.alloc (.deferred (some []))) (.loop (rec .ready none))
    rw [World.size_alloc] at this
    rw [hW1]; exact this
  have hd1 : W1.heap[w.heap.size]? = some (.deferred (some [])) := by
    rw [hW1]; exact (Below.heap_alloc _ _ _ (by simp)).trans (World.alloc_heap_new w _)
  have hi1 : I [] W1 := by
    rw [hW1]
    exact hIa _ _ _ (hIa _ _ _ h0)
  refine ⟨w.heap.size + 1, [{ target := .collected w.heap.size, args := #[] }], W1, { target := .fn (.func gf) lb, args := #[.func (.yield (w.heap.size + 1)) #[] #[]] }, W1, gf,
    #[.func (.yield (w.heap.size + 1)) #[] #[]] ++ lb, W1, ?_, ?_, ?_, ?_, fun _ => h1, ?_⟩
  · rw [hW1, hrec]; exact run_enterLoop_outer _ _ _ _ _
  · simp only [resolve, hg]
    simp [go_sem]
  · intro f' hf'; trivial
  · simp [invoke, go_sem, eg]
  refine (hit (w.heap.size + 1)
    (fun pre W => I pre W ∧ W.heap[w.heap.size + 1]? = some (.loop (rec .ready none)) ∧ W.heap[w.heap.size]? = some (.deferred (some [])))
    (fun pre W => Ix pre W ∧ W.heap[w.heap.size + 1]? = some (.loop (rec .done (some .ret))) ∧ W.heap[w.heap.size]? = some (.deferred (some [])))
    W1 hb1 (fun s A B' hs hg' => ⟨hI s A B' hs.1 hg', hG _ _ _ _ hg' (by omega) hs.2.1 rfl, hG _ _ _ _ hg' (Nat.le_refl _) hs.2.2 rfl⟩)
    (fun s A B' hs hg' => ⟨hIx s A B' hs.1 hg', hG _ _ _ _ hg' (by omega) hs.2.1 rfl, hG _ _ _ _ hg' (Nat.le_refl _) hs.2.2 rfl⟩) ?_ ⟨hi1, hl1, hd1⟩).mono ?_
  · rintro pre x W ht ⟨hi, hl, hd⟩
    have hy := run_yield (P := P) (args := encs x) hl (by rw [hrec]; exact hps x)
    rw [hrec] at hy
    refine ⟨fn, _, assign, body, hy, roundIn_of_wpIn hfn (hassign _ pre x W _ ht hi fun a' Wa hka hkp hia hax => ?_)⟩
    have hla := hka.same _ _ (by omega) hl rfl
    have hda := hka.same _ _ (Nat.le_refl _) hd rfl
    refine ⟨_, run_beginRound hla (by rw [hrec]), ?_⟩
    obtain ⟨Wb, hWb⟩ : ∃ Wb, Wb = Wa.putObj (w.heap.size + 1) (.loop { rec .ready none with state := .busy }) := ⟨_, rfl⟩
    have hlb : Wb.heap[w.heap.size + 1]? = some (.loop { rec .ready none with state := .busy }) := by rw [hWb]; exact World.putObj_heap_same (Array.getElem?_eq_some_iff.1 hla).1
    have hdb : Wb.heap[w.heap.size]? = some (.deferred (some [])) := by rw [hWb]; exact (World.putObj_heap_other (by omega)).trans hda
    have hkb : Kp Wa Wb := by rw [hWb]; exact hKb _ _ _ _ (by omega) hla rfl
    have hib : I pre Wb := by rw [hWb]; exact hIp _ _ _ _ _ (by omega) hla rfl hia
    have hab : Ax pre x a' Wb := by rw [hWb]; exact hAx pre x a' () _ _ _ _ (by omega) hla rfl hax
    rw [← hWb]
    refine wpIn_mono (hbody _ pre x a' Wb (by omega) ⟨_, hlb⟩ hib hab) ?_
    rintro e a3 W3 hp
    cases e with
    | normal =>
      obtain ⟨hk3, hok3, hkp3, hi3⟩ := hp
      have hl3 := hk3.same _ _ (by omega) hlb rfl
      have hd3 := hk3.same _ _ (Nat.le_refl _) hdb rfl
      refine ⟨_, _, run_endRound (P := P) none hl3, .inl ⟨rfl, hok3, ⟨hIp _ _ _ _ _ (by omega) hl3 rfl hi3, ?_, (World.putObj_heap_other (by omega)).trans hd3⟩, hKt hkp (hKt hkb (hKt hkp3 (hKb _ _ _ _ (by omega) hl3 rfl)))⟩⟩
      rw [World.putObj_heap_same (Array.getElem?_eq_some_iff.1 hl3).1, hrec]
      rfl
    | ret =>
      obtain ⟨hk3, hi3⟩ := hp
      have hl3 := hk3.same _ _ (by omega) hlb rfl
      have hd3 := hk3.same _ _ (Nat.le_refl _) hdb rfl
      refine ⟨_, _, run_endRound (P := P) (some .ret) hl3, .inr ⟨rfl, hIxp _ _ _ _ _ (by omega) hl3 rfl hi3, ?_, (World.putObj_heap_other (by omega)).trans hd3⟩⟩
      rw [World.putObj_heap_same (Array.getElem?_eq_some_iff.1 hl3).1, hrec]
      rfl
    | exit id => exact hp.elim
    | goto t => exact hp.elim
    | panic ch => exact hp.elim
    | outgrown => exact hp.elim
  · rintro e W2 ⟨⟨v, rfl⟩, (⟨xs, hS, hi, hl, hd⟩ | ⟨pre, hS, hi, hl, hd⟩)⟩
    · have hr := run_endLoop (P := P) hl (by rw [hrec]; simp)
      rw [show (rec .ready none).pending = none by rw [hrec]] at hr
      exact ⟨none, _, hr, hdone _ xs W2 _ (Nat.le_refl _) hS (hIp _ _ _ _ _ (by omega) hl rfl hi) (grownBy_putObj' _ _ _) ((World.putObj_heap_other (by omega)).trans hd)⟩
    · have hr := run_endLoop (P := P) hl (by rw [hrec]; simp)
      rw [show (rec .done (some .ret)).pending = some .ret by rw [hrec]] at hr
      exact ⟨some .ret, _, hr, hstop _ pre W2 _ (Nat.le_refl _) hS (hIxp _ _ _ _ _ (by omega) hl rfl hi) (grownBy_putObj' _ _ _) ((World.putObj_heap_other (by omega)).trans hd)⟩
end Go.Proofs.Yteemdjamgbbjhaa.Dsk

/-
  All: what a log tells, one behind the other.
-/
namespace Go.Proofs.Yteemdjamgbbjhaa.Wl
set_option maxRecDepth 100000
open Go.RowKit Go.Shelf Go.Proofs.Yteemdjamgbbjhaa.Wd Go.Proofs.Yteemdjamgbbjhaa.Dsk Go.Proofs.Yteemdjamgbbjhaa.Oct Go.Proofs.Yteemdjamgbbjhaa.Sum

attribute [local go_sem] Oper.semAt_some

theorem all_nil (w : World) : Calls Try.prog 21 #[.pointer none] w fun e w' => e = .returned (.func (.func 65) #[] #[.pointer (some ⟨w.heap.size, 0, none⟩)]) ∧ Below w.heap.size w w' ∧ Row w' w.heap.size 58 [.slice none 0 0] := by
  go_enter Try.func21, Try.ntmps21
  go_wp2
  go_ret
  exact ⟨rfl, (Below.refl _ _).alloc (Nat.le_refl _) _, Row.new _ _ _⟩
theorem all_log (g dg area t n c used : Nat) (A : Option Addr) (br : Bool) (w : World) (h : Row w g 83 (wcs dg area t A n c used br)) :
    Calls Try.prog 21 #[.pointer (some ⟨g, 0, none⟩)] w fun e w' => e = .returned (.func (.func 65) #[] #[.pointer (some ⟨w.heap.size, 0, none⟩)]) ∧ Below w.heap.size w w' ∧ Row w' w.heap.size 58 [.slice A n c] := by
  have hb1 : Below w.heap.size w (w.alloc (.cells #[.slice none 0 0] 58)) := (Below.refl _ _).alloc (Nat.le_refl _) _
  have c3 : (w.alloc (.cells #[.slice none 0 0] 58)).cell? ⟨g, 3, none⟩ = some (.slice A n c) := (h.below hb1 h.lt).cell 3
  have hrn : Row (w.alloc (.cells #[.slice none 0 0] 58)) w.heap.size 58 [.slice none 0 0] := Row.new w _ _
  go_enter Try.func21, Try.ntmps21
  clear hb1 hrn
  go_wp2
  go_ret
  exact ⟨rfl, (Below.refl _ _).alloc (Nat.le_refl _) _, Row.new _ _ _⟩

/-- the element of All: its number, and where its bytes lie -/
abbrev EA := Nat × Option Addr × Nat × Nat
def encA (x : EA) : Array Value := #[.int .i64 (x.1 : Int), .slice x.2.1 x.2.2.1 x.2.2.2]
def GA (A B : World) : Prop := Below A.heap.size A B
def KpA (K : Nat → Prop) (W W' : World) : Prop := (∀ k, K k → W'.heap[k]? = W.heap[k]?) ∧ W.heap.size ≤ W'.heap.size
theorem KpA.refl (K : Nat → Prop) (W : World) : KpA K W W := ⟨fun _ _ => rfl, Nat.le_refl _⟩
theorem KpA.trans {K : Nat → Prop} {A B C : World} (h : KpA K A B) (k : KpA K B C) : KpA K A C := ⟨fun i hi => (k.1 i hi).trans (h.1 i hi), Nat.le_trans h.2 k.2⟩
/-- what is known of an element in the world of its round -/
structure TA (fs : List (List UInt8)) (B : Nat) (pre : List EA) (x : EA) (W : World) : Prop where
  num : x.1 = pre.length + 1
  lt : x.1 < fs.length
  by_ : By W x.2.1 x.2.2.1 x.2.2.2 (fs.getD x.1 [])
  new : ∀ k, (Value.slice x.2.1 x.2.2.1 x.2.2.2).ownBlock = some k → B ≤ k
  most : x.2.2.1 ≤ 40000
/-- frames that lie in blocks of K, behind a variable -/
structure FA (W : World) (K : Nat → Prop) (Bf : Nat) (A : Option Addr) (c : Nat) (fs : List (List UInt8)) : Prop where
  cell : W.cell? ⟨Bf, 0, none⟩ = some (.slice A fs.length c)
  kf : K Bf
  lt : ∀ k, K k → k < W.heap.size
  at_ : ∀ i, i < fs.length → ∃ g, A = some ⟨g, 0, none⟩ ∧ K g ∧ ∃ Ai ni ci, W.cell? ⟨g, i, none⟩ = some (.slice Ai ni ci) ∧ By W Ai ni ci (fs.getD i []) ∧ ni ≤ 40000 ∧ ∀ k, (Value.slice Ai ni ci).ownBlock = some k → K k
theorem FA.kept {W W' : World} {K : Nat → Prop} {Bf c : Nat} {A : Option Addr} {fs : List (List UInt8)} (h : FA W K Bf A c fs) (hk : ∀ k, K k → W'.heap[k]? = W.heap[k]?) : FA W' K Bf A c fs := by
  refine ⟨(World.cell?_of_block (a := ⟨Bf, 0, none⟩) (hk _ h.kf)).trans h.cell, h.kf, fun k hK => kept_lt (hk k hK) (h.lt k hK), fun i hi => ?_⟩
  obtain ⟨g, hA, hg, Ai, ni, ci, h1, h2, h3, h4⟩ := h.at_ i hi
  exact ⟨g, hA, hg, Ai, ni, ci, (World.cell?_of_block (a := ⟨g, i, none⟩) (hk _ hg)).trans h1, own_kept h2 (fun k hkb _ => hk k (h4 k hkb)), h3, h4⟩
theorem FA.below {W W' : World} {K : Nat → Prop} {Bf c : Nat} {A : Option Addr} {fs : List (List UInt8)} (h : FA W K Bf A c fs) (hb : Below W.heap.size W W') : FA W' K Bf A c fs := h.kept fun k hk => hb.block k (h.lt k hk)
/-- what the rounds hold -/
def IA (W1 : World) (K : Nat → Prop) (Bf : Nat) (A : Option Addr) (c : Nat) (fs : List (List UInt8)) (J : List EA → World → Prop) (r : Nat) (W : World) : Prop :=
  (∃ xs : List EA, xs.length = r - 1 ∧ J xs W) ∧ FA W K Bf A c fs ∧ KpA K W1 W
set_option maxHeartbeats 4000000 in
theorem all_feeds (Bf nn c : Nat) (A : Option Addr) (fs : List (List UInt8)) (K : Nat → Prop) (w : World) (hnn : 1 ≤ nn) (hl : fs.length ≤ 100000) (hF : FA w K Bf A c fs) :
    Feeds nn Try.prog 65 #[.pointer (some ⟨Bf, 0, none⟩)] encA GA (TA fs w.heap.size) (fun _ => True) (KpA K) (fun xs _ => xs.length = fs.length - 1) (fun _ _ => True) w := by
  intro yl J Jx W1 hW1 hJ hJx hY hJ0
  have HY := Lib.hid hY
  have HJ := Lib.hid hJ
  have HS := Lib.hid hW1.size
  have hF1 := hF.below hW1
  have hc0 := hF1.cell
  have HI0 : Hid (IA W1 K Bf A c fs J 0 W1) := ⟨⟨[], rfl, hJ0⟩, hF1, KpA.refl _ _⟩
  clear hY hJ hJx hF1 hF hJ0 hW1
  refine callsIn_of_wp Try.func65 rfl trivial ?_ rfl
  simp only [Try.ntmps65, List.size_toArray, List.length_cons, List.length_nil, Nat.reduceAdd, Nat.reduceSub, Array.replicate_succ, Array.replicate_zero, List.push_toArray, List.append_toArray, List.nil_append, List.cons_append]
  gi_wp2
  gi_loopw [7] (fun t7 wr => ∃ r : Nat, r ≤ fs.length ∧ t7 = .int .i64 (r : Int) ∧ Hid (IA W1 K Bf A c fs J r wr)) (fun t7 _ => fs.length - (intOf t7).toNat)
  case atStart => exact ⟨0, by omega, rfl, HI0⟩
  case round =>
    obtain ⟨r, hr, rfl, HI⟩ := hrel
    clear HI0 hc0
    by_cases hlt : r < fs.length
    case neg =>
      have h1 : ¬ (r : Int) < (fs.length : Int) := by omega
      obtain rfl : r = fs.length := by omega
      obtain ⟨⟨xs, hxl, hj⟩, _, _⟩ := HI.out
      have HX := Lib.hid (And.intro hxl hj)
      clear hxl hj HI
      gi_wp2
      go_end0
      exact ⟨⟨_, rfl⟩, .inl ⟨xs, HX.out.1, HX.out.2⟩⟩
    have h1 : (r : Int) < (fs.length : Int) := by omega
    obtain ⟨⟨xs, hxl, hj⟩, hfa, hkp⟩ := HI.out
    obtain ⟨g, rfl, hKg, Ai, ni, ci, hci, hby, hni, hKi⟩ := hfa.at_ r hlt
    have HFA := Lib.hid hfa
    have HKP := Lib.hid hkp
    have HXL := Lib.hid hxl
    have HJX := Lib.hid hj
    have HBY := Lib.hid hby
    clear hxl hj hfa hkp hby hKi HI
    by_cases hr0 : r = 0
    · subst hr0
      have HN : Hid (IA W1 K Bf (some ⟨g, 0, none⟩) c fs J (0 + 1) wr) := ⟨⟨xs, HXL.out, HJX.out⟩, HFA.out, HKP.out⟩
      gi_wp2_with fail
      refine ⟨trivial, ?_⟩
      gi_wp2_with fail
      refine ⟨fun f h => (by cases h), ?_⟩
      gi_wp2
      go_roundw
      case rel => exact ⟨0 + 1, by omega, by go_num, HN⟩
      case measure => simp [intOf]; omega
    · have hr1 : (0 : Int) < (r : Int) := by omega
      have HCL := Lib.hid (clone_own Ai (fs.getD r []) ci ni wr HBY.out.sl (by omega))
      gi_wp2_with fail
      refine ⟨trivial, callsIn_wide.2 (HCL.out.mono ?_)⟩
      rintro e w3 ⟨A', c', rfl, hby3, hnew3, hb3⟩
      have hJ3 : J xs w3 := HJ.out _ _ _ HJX.out hb3
      have htr : TA fs w.heap.size xs (r, A', ni, c') w3 := ⟨by rw [HXL.out]; show r = r - 1 + 1; omega, hlt, hby3, fun k hk => Nat.le_trans HS.out (Nat.le_trans HKP.out.2 (hnew3 k hk)), hni⟩
      have HFA3 := Lib.hid (HFA.out.below hb3)
      have HKP3 : Hid (KpA K W1 w3) := HKP.out.trans ⟨fun k hk => hb3.block k (HFA.out.lt k hk), hb3.size⟩
      obtain ⟨fn, tmps, assign, body, hy, hR⟩ := HY.out xs _ w3 htr hJ3
      unfold encA at hy
      dsimp only at hy
      clear htr hJ3 hby3 hnew3 hb3 HCL hci
      gi_wp2_with fail
      refine hR.mono ?_
      rintro e W3 (⟨rfl, _, hJ4, hk4⟩ | ⟨rfl, hJx4⟩)
      · have HN : Hid (IA W1 K Bf (some ⟨g, 0, none⟩) c fs J (r + 1) W3) := ⟨⟨_, by rw [List.length_append, HXL.out]; show r - 1 + 1 = r + 1 - 1; omega, hJ4⟩, HFA3.out.kept hk4.1, HKP3.out.trans hk4⟩
        clear hk4 hJ4 hR hy
        gi_wp2
        go_roundw
        case rel => exact ⟨r + 1, by omega, by go_num, HN⟩
        case measure => simp [intOf]; omega
      · gi_wp2
        refine bodyPost_ret (results_none rfl _ _ _) rfl ?_
        exact ⟨⟨_, rfl⟩, .inr ⟨_, trivial, hJx4⟩⟩
end Go.Proofs.Yteemdjamgbbjhaa.Wl

/-
  Bytes made strings; bytes.Equal.
-/
namespace Go.Proofs.Yteemdjamgbbjhaa.Beq
set_option maxRecDepth 100000
open Go.RowKit Go.Proofs.Yteemdjamgbbjhaa.Wd

def bstr (l : List UInt8) : ByteArray := strOfNums (l.map fun b => (b.toNat : Int))
theorem bstr_list (l : List UInt8) : (bstr l).toList = l := by
  rw [ByteArray.toList_eq, bstr, strOfNums_data, List.map_map]
  conv => rhs; rw [← List.map_id l]
  refine List.map_congr_left fun b _ => ?_
  simp
theorem bstr_inj {a b : List UInt8} : bstr a = bstr b ↔ a = b := ⟨fun h => by rw [← bstr_list a, h, bstr_list], fun h => by rw [h]⟩
theorem conv_zero {P : Program} (w : World) (src e : TypeId) (hs : P.underlying src = some (.slice e)) (he : P.underlying e = some (.int .u8)) (p : Option Addr) (c : Nat) (dst : TypeId) (hd : P.underlying dst = some .string) :
    (convert src dst (.slice p 0 c)).run P w = .ok (.string (bstr [])) w := by
  rw [run_convert_bytes_string w src dst e _ 0 c hs he hd]
  cases p <;> simp [Conv.bytesToString, loadCells]
  all_goals rfl
theorem conv_any (w : World) (B : Nat) (A : Option Addr) (n c : Nat) (l : List UInt8) (hl : l.length = n) (h : Bs w B A l) :
    (convert 37 9 (.slice A n c)).run Try.prog w = .ok (.string (bstr l)) w := by
  rcases Nat.eq_zero_or_pos n with hn | hn
  · subst hn
    obtain rfl : l = [] := List.eq_nil_of_length_eq_zero hl
    exact conv_zero w 37 5 Try.underlying37 Try.underlying5 A c 9 Try.underlying9
  · obtain ⟨b, o, rfl, _, hc⟩ := h (by omega)
    refine run_convert_bytes_arg w 37 5 Try.underlying37 Try.underlying5 b o n c (l.map fun b => (b.toNat : Int)) (by simpa using hl) (fun i hi => ?_) 9 Try.underlying9
    rw [hc i (by omega)]
    have hi' : i < l.length := by omega
    simp [hi']
theorem bytesEq_any (A1 A2 : Option Addr) (n1 c1 n2 c2 : Nat) (l1 l2 : List UInt8) (B1 B2 : Nat) (w : World) (h1 : l1.length = n1) (h2 : l2.length = n2) (b1 : Bs w B1 A1 l1) (b2 : Bs w B2 A2 l2) :
    Calls Try.prog 28 #[.slice A1 n1 c1, .slice A2 n2 c2] w fun e w' => e = .returned (.bool (decide (l1 = l2))) ∧ w = w' := by
  have k1 := conv_any w B1 A1 n1 c1 l1 h1 b1
  have k2 := conv_any w B2 A2 n2 c2 l2 h2 b2
  clear h1 h2 b1 b2
  have HI := Lib.hid (bstr_inj (a := l1) (b := l2))
  go_enter Try.func28, Try.ntmps28
  go_wp2
  go_ret
  refine ⟨ret_bool ?_, rfl⟩
  rw [Bool.eq_iff_iff, decide_eq_true_eq, ← HI.out]
  simp
  rw [bstr_list, bstr_list, HI.out]
end Go.Proofs.Yteemdjamgbbjhaa.Beq
