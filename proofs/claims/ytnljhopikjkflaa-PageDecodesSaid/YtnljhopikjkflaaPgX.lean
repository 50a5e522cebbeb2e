/-
  Bytes that are written over; spoil.
-/
import Derived.Test.YtnljhopikjkflaaPgL
namespace Go.Proofs.Ytnljhopikjkflaa.Pg
set_option maxRecDepth 100000
open Go.RowKit Go.Proofs.Ytnljhopikjkflaa.Wd Go.Proofs.Ytnljhopikjkflaa.Oct Go.Proofs.Ytnljhopikjkflaa.Dsk Go.Proofs.Ytnljhopikjkflaa.Rec Go.Proofs.Ytnljhopikjkflaa.Sum Go.Proofs.Ytnljhopikjkflaa.Sm

theorem own_set {w : World} {base : Nat} {v : Value} {l : List UInt8} (h : Own w base v l) (g i y : Nat) (hy : y < 256) : ∃ l', l'.length = l.length ∧ Own (w.setCell ⟨g, i, none⟩ (.int .u8 (y : Int))) base v l' := by
  have hgr := grown_store w g i (.int .u8 (y : Int))
  by_cases hne : v.ownBlock = some g
  · rcases h.2 with ⟨rfl, h0⟩ | ⟨g', cap, cur, rfl, hb, hg, hnc, hcm, hs, ht⟩
    · cases hne
    · have e : g' = g := Option.some.inj hne
      subst e
      have hr : Row w g' 5 cur.toList := hg
      have hr2 := hr.store i (.int .u8 (y : Int))
      refine ⟨l.set i (UInt8.ofNat y), by simp, ?_⟩
      unfold Own
      rw [List.length_set]
      refine ⟨by simp [bv_length], .inr ⟨g', cap, (cur.toList.set i (.int .u8 (y : Int))).toArray, rfl, hb, hr2, hnc, hcm, by simpa using hs, ?_⟩⟩
      have e1 : (Value.int .u8 (y : Int)) = .int .u8 (((UInt8.ofNat y).toNat : Nat) : Int) := by
        have : (UInt8.ofNat y).toNat = y := by simp; omega
        rw [this]
      show List.take (l.length * 1) (cur.toList.set i (.int .u8 (y : Int))) = bv (l.set i (UInt8.ofNat y))
      rw [List.take_set, ht, e1]
      simp [bv, List.map_set]
  · exact ⟨l, rfl, h.kept hgr (by cases hv : v.ownBlock with | none => exact .inl rfl | some k => exact .inr (by rw [hv] at hne; exact hne))⟩
theorem own_cell {w : World} {base : Nat} {A : Option Addr} {n c : Nat} {l : List UInt8} (h : Own w base (.slice A n c) l) (i : Nat) (hi : i < n) : ∃ (g : Nat) (u : UInt8), A = some ⟨g, 0, none⟩ ∧ base ≤ g ∧ w.cell? ⟨g, i, none⟩ = some (.int .u8 (u.toNat : Int)) ∧ w.frozen? ⟨g, i, none⟩ = false := by
  rcases h.2 with ⟨h1, h0⟩ | ⟨g, cap, cur, h1, hb, hg, hnc, hcm, hs, ht⟩
  · have e := h1
    simp only [Value.slice.injEq] at e
    omega
  · simp only [Value.slice.injEq] at h1
    obtain ⟨rfl, hn, rfl⟩ := h1
    have hr : Row w g 5 cur.toList := hg
    refine ⟨g, l.getD i 0, rfl, hb, ?_, hr.frozen i⟩
    rw [hr.cell]
    have h2 : (bv l)[i]? = some (.int .u8 ((l.getD i 0).toNat : Int)) := by simp [bv, show i < l.length by omega]
    rw [← ht, List.getElem?_take, if_pos (by omega)] at h2
    exact h2
theorem xor_nat (u : UInt8) : ∃ y : Nat, y < 256 ∧ bits .xor .u8 (u.toNat : Int) 238 = (y : Int) := by
  have h := u8_xor_v u 238
  rw [show (((238 : UInt8).toNat : Nat) : Int) = 238 from rfl] at h
  exact ⟨(u ^^^ 238).toNat, (u ^^^ 238).toNat_lt, h⟩
/-- nothing is written outside of the blocks from lo to below hi -/
structure Out (lo hi : Nat) (w w' : World) : Prop where
  os : w'.os = w.os
  tape : w'.tape = w.tape
  output : w'.output = w.output
  size : w.heap.size ≤ w'.heap.size
  block : ∀ k, k < w.heap.size → (k < lo ∨ hi ≤ k) → w'.heap[k]? = w.heap[k]?
theorem Out.refl (lo hi : Nat) (w : World) : Out lo hi w w := ⟨rfl, rfl, rfl, Nat.le_refl _, fun _ _ _ => rfl⟩
theorem Out.trans {lo hi : Nat} {a b c : World} (h : Out lo hi a b) (k : Out lo hi b c) : Out lo hi a c :=
  ⟨k.os.trans h.os, k.tape.trans h.tape, k.output.trans h.output, Nat.le_trans h.size k.size, fun j hj ho => (k.block j (Nat.lt_of_lt_of_le hj h.size) ho).trans (h.block j hj ho)⟩
theorem Out.of {lo hi : Nat} {w w' : World} (h : Below w.heap.size w w') : Out lo hi w w' := ⟨h.os, h.tape, h.output, h.size, fun k hk _ => h.block k hk⟩
theorem Out.below {lo hi : Nat} {w w' : World} (h : Out lo hi w w') (hl : lo ≤ w.heap.size) : Below lo w w' := ⟨h.os, h.tape, h.output, h.size, fun k hk => h.block k (Nat.lt_of_lt_of_le hk hl) (.inl hk)⟩
theorem Out.set {lo hi : Nat} (w : World) {g : Nat} (i : Nat) (v : Value) (h1 : lo ≤ g) (h2 : g < hi) : Out lo hi w (w.setCell ⟨g, i, none⟩ v) :=
  have hg := grown_store w g i v
  ⟨hg.os, hg.tape, hg.output, hg.size, fun k hk ho => hg.block k hk (fun e => by have := Option.some.inj e; omega)⟩
theorem Own.out {lo hi base : Nat} {w w' : World} {v : Value} {l : List UInt8} (h : Own w base v l) (ho : Out lo hi w w') (hb : hi ≤ base) : Own w' base v l := by
  refine ⟨h.1, ?_⟩
  rcases h.2 with hn | ⟨g, cap, cur, rfl, hb2, hg, rest⟩
  · exact .inl hn
  · exact .inr ⟨g, cap, cur, rfl, hb2, (ho.block g (Array.getElem?_eq_some_iff.1 hg).1 (.inr (by omega))).trans hg, rest⟩
theorem PO.out {lo hi base : Nat} {w w' : World} {f : Nat → List UInt8} {s : PS} (h : PO w base f s) (ho : Out lo hi w w') (hb : hi ≤ base) : PO w' base f s := fun j hj => (h j hj).out ho hb
theorem Row.out {lo hi : Nat} {w w' : World} {g : Nat} {t : TypeId} {cs : List Value} (h : Row w g t cs) (ho : Out lo hi w w') (hg : g < lo ∨ hi ≤ g) : Row w' g t cs := (ho.block g h.lt hg).trans h
/-- the slots are some bytes of one's own, of blocks from base to below hi -/
def OS (w : World) (base hi : Nat) (s : PS) : Prop := ∀ j, j < 4 → ∃ l', l'.length = s.n j ∧ Own w base (.slice (s.A j) (s.n j) (s.c j)) l' ∧ ∀ k, (Value.slice (s.A j) (s.n j) (s.c j)).ownBlock = some k → k < hi
theorem OS.out {w w' : World} {base hi lo h2 : Nat} {s : PS} (h : OS w base hi s) (ho : Out lo h2 w w') (hd : hi ≤ lo ∨ h2 ≤ base) : OS w' base hi s := fun j hj => by
  obtain ⟨l', hl, hw, hk⟩ := h j hj
  refine ⟨l', hl, ⟨hw.1, ?_⟩, hk⟩
  rcases hw.2 with hn | ⟨g, cap, cur, e, hb2, hg, rest⟩
  · exact .inl hn
  · have hgh := hk g (by rw [e]; rfl)
    exact .inr ⟨g, cap, cur, e, hb2, (ho.block g (Array.getElem?_eq_some_iff.1 hg).1 (by omega)).trans hg, rest⟩
theorem OS.set {w : World} {base hi : Nat} {s : PS} (h : OS w base hi s) (g i y : Nat) (hy : y < 256) : OS (w.setCell ⟨g, i, none⟩ (.int .u8 (y : Int))) base hi s := fun j hj => by
  obtain ⟨l', hl, ho, hk⟩ := h j hj
  obtain ⟨l2, h2, ho2⟩ := own_set ho g i y hy
  exact ⟨l2, by rw [h2, hl], ho2, hk⟩
theorem PO.os {w : World} {base : Nat} {f : Nat → List UInt8} {s : PS} (h : PO w base f s) : OS w base w.heap.size s := fun j hj => ⟨f j, h.at_.lens j hj, h j hj, fun k hk => (World.ownsRow.lt (h j hj) k hk).2⟩

set_option maxHeartbeats 2000000 in
theorem spoil_keep (I : World → Prop) (num : Int) (lsn : Nat) (s : PS) (base hi : Nat) (w : World) (h : OS w base hi s) (hH : hi ≤ w.heap.size) (hm : ∀ k, k < 4 → s.n k ≤ 100000) (hI0 : ∀ W, Below w.heap.size w W → I W) (hIs : ∀ (W : World) (g i y : Nat), y < 256 → I W → I (W.setCell ⟨g, i, none⟩ (.int .u8 (y : Int)))) :
    Calls Try.prog 26 #[.agg (pcs num lsn s).toArray] w fun e w' => e = .returned (.tuple #[]) ∧ Out base hi w w' ∧ I w' := by
  have HO := Lib.hid h
  have HM := Lib.hid hm
  have HIX := Lib.hid (idx_any s)
  unfold scs at HIX
  have HIS := Lib.hid hIs
  have HI00 := Lib.hid hI0
  clear h hm hI0 hIs
  unfold pcs
  go_enter Try.func26, Try.ntmps26
  go_upto_region 1 with fail
  have HB := Lib.hid (boxed w num lsn s)
  unfold pcs at HB
  generalize w.alloc (.cells #[.int .i64 num, .int .u64 (lsn : Int), .slice (s.A 0) (s.n 0) (s.c 0), .slice (s.A 1) (s.n 1) (s.c 1), .slice (s.A 2) (s.n 2) (s.c 2), .slice (s.A 3) (s.n 3) (s.c 3)] 48) = w1 at HB ⊢
  have HI0 : Hid (OS w1 base hi s ∧ Out base hi w w1 ∧ I w1) := ⟨fun j hj => by
    obtain ⟨l', hl, ho, hk⟩ := HO.out j hj
    exact ⟨l', hl, ho.below HB.out.hb, hk⟩, Out.of HB.out.hb, HI00.out _ HB.out.hb⟩
  have ha2 : w1.cell? ⟨w.heap.size, 2, none⟩ = some (.slice (s.A 0) (s.n 0) (s.c 0)) := HB.out.row.cell 2
  have ha3 : w1.cell? ⟨w.heap.size, 3, none⟩ = some (.slice (s.A 1) (s.n 1) (s.c 1)) := HB.out.row.cell 3
  have ha4 : w1.cell? ⟨w.heap.size, 4, none⟩ = some (.slice (s.A 2) (s.n 2) (s.c 2)) := HB.out.row.cell 4
  have ha5 : w1.cell? ⟨w.heap.size, 5, none⟩ = some (.slice (s.A 3) (s.n 3) (s.c 3)) := HB.out.row.cell 5
  clear HB HO HI00
  go_wp2_with fail
  clear ha2 ha3 ha4 ha5
  go_loopw [7] (fun t7 wr => ∃ k : Nat, k ≤ 4 ∧ t7 = .int .i64 (k : Int) ∧ Hid (OS wr base hi s ∧ Out base hi w wr ∧ I wr)) (fun t7 _ => 4 - (intOf t7).toNat)
  case atStart => exact ⟨0, by omega, rfl, HI0⟩
  case round =>
    obtain ⟨k, hk, rfl, HI⟩ := hrel
    clear HI0
    by_cases hlt : k < 4
    · have h1 : (k : Int) < 4 := by omega
      have hix := HIX.out k hlt
      have hnk := HM.out k hlt
      go_upto_region 5 with fail
      clear hix
      obtain ⟨wo, hwo⟩ : ∃ wo : World, wo = wr := ⟨_, rfl⟩
      subst hwo
      go_loopw [12] (fun t12 wi => ∃ j : Nat, j ≤ s.n k ∧ t12 = .int .i64 (j : Int) ∧ Hid (OS wi base hi s ∧ Out base hi w wi ∧ I wi)) (fun t12 _ => s.n k - (intOf t12).toNat)
      case atStart => exact ⟨0, by omega, rfl, HI⟩
      case round =>
        obtain ⟨j, hj, rfl, HJ⟩ := hrel
        clear HI
        by_cases hjl : j < s.n k
        · have hj1 : (j : Int) < (s.n k : Int) := by omega
          have hj0 : 0 ≤ (j : Int) := by omega
          obtain ⟨l', hl', ho', hk'⟩ := HJ.out.1 k hlt
          obtain ⟨G, u, hA, hGb, hcl, hfr⟩ := own_cell ho' j hjl
          obtain ⟨y, hy, hxy⟩ := xor_nat u
          have hN : Hid (OS (wr.setCell ⟨G, j, none⟩ (.int .u8 (y : Int))) base hi s ∧ Out base hi w (wr.setCell ⟨G, j, none⟩ (.int .u8 (y : Int))) ∧ I (wr.setCell ⟨G, j, none⟩ (.int .u8 (y : Int)))) := ⟨HJ.out.1.set G j y hy, HJ.out.2.1.trans (Out.set wr j _ hGb (hk' G (by rw [hA]; rfl))), HIS.out wr G j y hy HJ.out.2.2⟩
          have HAA := Lib.hid hA
          have hnk' : (s.n k : Int) ≤ 100000 := by omega
          clear hl' ho' hA hk'
          rw [HAA.out]
          go_upto_region 8 with fail
          generalize wr.setCell ⟨G, j, none⟩ (.int .u8 (y : Int)) = w3 at hN ⊢
          have HN := Lib.hid hN.out
          clear hN hcl hfr hxy
          go_wp2
          go_roundw
          case rel => exact ⟨j + 1, by omega, by go_num, HN⟩
          case measure => simp [intOf]; omega
        · have hj1 : ¬ (j : Int) < (s.n k : Int) := by omega
          go_wp2
          go_roundw
          case rel => exact ⟨k + 1, by omega, by go_num, HJ⟩
          case measure => simp [intOf]; omega
    · obtain rfl : k = 4 := by omega
      go_wp2
      go_end0
      exact ⟨rfl, HI.out.2⟩
theorem spoil_any (num : Int) (lsn : Nat) (s : PS) (base hi : Nat) (w : World) (h : OS w base hi s) (hH : hi ≤ w.heap.size) (hm : ∀ k, k < 4 → s.n k ≤ 100000) :
    Calls Try.prog 26 #[.agg (pcs num lsn s).toArray] w fun e w' => e = .returned (.tuple #[]) ∧ Out base hi w w' :=
  (spoil_keep (fun _ => True) num lsn s base hi w h hH hm (fun _ _ => trivial) (fun _ _ _ _ _ _ => trivial)).mono fun e w' h => ⟨h.1, h.2.1⟩
end Go.Proofs.Ytnljhopikjkflaa.Pg
