/-
  Part 2 of the contracts that the law rests on.
-/
import Derived.Test.YteemdjamgbbjhaaRows
import Derived.Deep.QuietTactic
import Derived.BigQuiet
import Derived.Lib.SliceRun
import Derived.Lib.AppendZerosOnto
import Derived.Deep.RegionHeld3
import Derived.Great.BuildSlice
import Derived.Laws.Cover3
import Derived.Lib.SlBytesConst
import Derived.RangeFuncNested
import Derived.RangeFuncBound
import Derived.RangeFuncCalls
import Derived.RangeFuncLeaves
import Derived.Shelf.Abstract
import Derived.OwnWalkIn
import Derived.TacticsInMore
import Derived.LoopNIn
import Derived.LoopIn
import Derived.Test.YteemdjamgbbjhaaWf1
/-
  The contract of Pending.
-/
namespace Go.Proofs.Yteemdjamgbbjhaa.Dsk
set_option maxRecDepth 100000
open Go.RowKit Go.Proofs.Yteemdjamgbbjhaa.Wd

theorem flatm_get {α : Type} (m : Nat) : ∀ (ls : List (List α)) (i j : Nat), (∀ b ∈ ls, b.length = m) → i < ls.length → j < m → ls.flatten[i * m + j]? = (ls.getD i [])[j]?
  | [], i, j, _, hi, _ => by simp at hi
  | l :: ls, 0, j, h, _, hj => by
    have h0 := h l (by simp)
    simp [List.getElem?_append_left (by omega : j < l.length)]
  | l :: ls, i + 1, j, h, hi, hj => by
    have h0 := h l (by simp)
    have := flatm_get m ls i j (fun b hb => h b (by simp [hb])) (by simpa using hi) hj
    have e : (i + 1) * m = i * m + m := by rw [Nat.add_mul, Nat.one_mul]
    rw [List.flatten_cons, List.getElem?_append_right (by omega), h0, show (i + 1) * m + j - m = i * m + j by omega, this]
    simp
def noWrite : Int × List UInt8 × List UInt8 := (0, [], [])
theorem DskAt.pend_range {w : World} {F : Nat → Prop} {g gs c : Nat} {A : Option Addr} {d : DM} (h : DskAt w F g gs A c d) {k : Nat} (hk : k < d.pend.length) :
    ∃ gp, A = some ⟨gp, 0, none⟩ ∧ w.rangeAt gp (k * 129) (pcs (d.pend.getD k noWrite)) ∧ gp < w.heap.size ∧ F gp ∧ gp ≠ gs := by
  have hp := h.pend
  rcases hp.2 with ⟨_, h0⟩ | ⟨gp, cap, cur, hv, hb, hg, _⟩
  · omega
  · have hA : A = some ⟨gp, 0, none⟩ := by simp only [Value.slice.injEq] at hv; exact hv.1
    subst hA
    have ho := h.own gp rfl
    refine ⟨gp, rfl, fun j v hj => ?_, (Array.getElem?_eq_some_iff.1 hg).1, ho.1, ho.2.2⟩
    have hc := World.ownsRow.cells hp (g := gp) rfl (k * 129 + j) v
    rw [Addr.add_lit, Nat.zero_add] at hc
    refine hc ?_
    have hall : ∀ b ∈ d.pend.map pcs, b.length = 129 := fun b hb => by
      obtain ⟨p, hp, rfl⟩ := List.mem_map.1 hb
      have := h.good.pend p hp
      exact pcs_len p this.2.2.1 this.2.2.2
    have hj129 : j < 129 := by
      have h1 := (List.getElem?_eq_some_iff.1 hj).1
      have h2 : (pcs (d.pend.getD k noWrite)).length = 129 := hall _ (List.mem_map.2 ⟨_, by rw [List.getD_eq_getElem?_getD, List.getElem?_eq_getElem hk]; exact List.getElem_mem hk, rfl⟩)
      omega
    have e := flatm_get 129 (d.pend.map pcs) k j hall (by simpa using hk) hj129
    rw [List.flatMap_def, e]
    have e2 : (d.pend.map pcs).getD k [] = pcs (d.pend.getD k noWrite) := by simp [List.getD_eq_getElem?_getD, hk]
    rw [e2]; exact hj
theorem info3 : (Try.prog.info? 3).map (fun i => (i.zero, i.size, i.bytes)) = some (some (.int .i64 0), 1, 8) := by kernel_rfl
theorem size81 : (Try.prog.info? 121).map (·.size) = some 129 := by kernel_rfl
theorem make_ints (n : Nat) (hn : n ≤ 1000000) (u : World) : (Instr.makeSlice 67 (.int .i64 (n : Int)) (.int .i64 (n : Int))).run Try.prog u =
    .ok (.slice (some ⟨u.heap.size, 0, none⟩) n n) (u.alloc (.cells (madeCells #[.int .i64 0] n) 3)) := by
  obtain ⟨i0, hi, hz0, hz1, hz2⟩ := info_parts info3
  have h := run_make (P := Try.prog) u 67 3 i0 (.int .i64 0) Try.underlying67 hi hz0 .i64 .i64 (n : Int) (n : Int) (by omega) (Int.le_refl _) (by rw [hz2]; omega) (by omega)
  rw [hz1, Int.toNat_natCast, Nat.mul_one] at h
  exact h
theorem zero81v (u : World) : (zeroValue 121).run Try.prog u = .ok (.agg (pcs (0, nought, nought)).toArray) u := by kernel_rfl

theorem pending_nil (w : World) : Calls Try.prog 39 #[.pointer none] w fun e w' => e = .returned (.slice none 0 0) ∧ w' = w := by
  go_enter Try.func39, Try.ntmps39
  go_wp2
  go_ret
  exact ⟨rfl, rfl⟩
def pints (d : DM) : List Value := d.pend.map fun p => .int .i64 p.1

set_option maxRecDepth 100000 in
set_option maxHeartbeats 2000000 in
theorem pending_any (g : Nat) (d : DM) (F : Nat → Prop) (w : World) (h : Disk w F g d) (hp : d.pend.length ≤ 1000000) :
    Calls Try.prog 39 #[.pointer (some ⟨g, 0, none⟩)] w fun e w' => e = .returned (.slice (some ⟨w.heap.size, 0, none⟩) d.pend.length d.pend.length) ∧ Row w' w.heap.size 3 (pints d) ∧ Below w.heap.size w w' := by
  obtain ⟨⟨gs, A, c, h⟩, hF⟩ := h
  have c1 : w.cell? ⟨g, 1, none⟩ = some (.slice A d.pend.length c) := h.row.cell 1
  obtain ⟨n, hn⟩ : ∃ n, n = d.pend.length := ⟨_, rfl⟩
  have hall : ∀ p ∈ d.pend, (pcs p).length = 129 := fun p hp => pcs_len p (h.good.pend p hp).2.2.1 (h.good.pend p hp).2.2.2
  have hr : ∀ k, k < d.pend.length → ∃ gp, A = some ⟨gp, 0, none⟩ ∧ w.rangeAt gp (k * 129) (pcs (d.pend.getD k noWrite)) ∧ gp < w.heap.size ∧ (pcs (d.pend.getD k noWrite)).length = 129 := fun k hk => by
    obtain ⟨gp, h1, h2, h3, _⟩ := h.pend_range hk
    refine ⟨gp, h1, h2, h3, hall _ ?_⟩
    rw [List.getD_eq_getElem?_getD, List.getElem?_eq_getElem hk]; exact List.getElem_mem hk
  have HR := Lib.hid hr
  rw [← hn] at c1 hp ⊢
  have HN := Lib.hid hn
  have c1' : (w.alloc (.cells (madeCells #[.int .i64 0] n) 3)).cell? ⟨g, 1, none⟩ = some (.slice A n c) := (World.cell?_alloc_lt w _ ⟨g, 1, none⟩ h.row.lt).trans c1
  have hmk := make_ints n hp
  have hz := zero81v
  have hp63 : pints d = (d.pend.map fun p => Value.int .i64 p.1) := rfl
  obtain ⟨L, hL⟩ : ∃ L, L = pints d := ⟨_, rfl⟩
  have hLn : L.length = n := by rw [hL, hn, pints]; simp
  have hLk : ∀ k, k < n → L[k]? = some (.int .i64 (d.pend.getD k noWrite).1) := fun k hk => by
    have hk' : k < d.pend.length := by omega
    rw [hL, pints, List.getElem?_map, List.getElem?_eq_getElem hk']
    simp [List.getD_eq_getElem?_getD, hk']
  rw [← hL]
  have HLN := Lib.hid hLn
  have HLK := Lib.hid hLk
  clear h hF hr hn hall hp63 hL hLn hLk
  go_enter Try.func39, Try.ntmps39
  go_wp2
  go_loopw [19] (fun i wr => ∃ k : Nat, k ≤ n ∧ i = .int .i64 k ∧ Row wr w.heap.size 3 (L.take k ++ List.replicate (n - k) (.int .i64 0)) ∧ Hid (Below w.heap.size w wr)) (fun i _ => n - (intOf i).toNat)
  case atStart =>
    refine ⟨0, by omega, rfl, ?_, (show Below _ _ _ from (Below.refl _ _).alloc (Nat.le_refl _) _)⟩
    simpa using Row.made w 3 (.int .i64 0) n
  case round =>
    obtain ⟨k, hk, rfl, h1, hbel⟩ := hrel
    by_cases hlt : k < n
    · obtain ⟨gp, rfl, hrg, hgp, h129⟩ := HR.out k (by rw [← HN.out]; exact hlt)
      have hrg2 := range_below hrg hbel.out hgp
      have hLk := HLK.out k hlt
      obtain ⟨p, hpk⟩ : ∃ p, p = d.pend.getD k noWrite := ⟨_, rfl⟩
      rw [← hpk] at hrg2 h129 hLk
      have HRG := Lib.hid hrg2
      have HS := Lib.hid (show (Try.prog.info? 121).map (·.size) = some (pcs p).length by rw [h129]; exact size81)
      have hlen := h1.lt
      have RN := Lib.hid (Row.new wr 121 (pcs (0, nought, nought)))
      have HF : Hid (0 + (pcs p).length ≤ (pcs (0, nought, nought)).length) := (show _ ≤ _ by rw [h129]; exact Nat.le_refl _)
      have HLk := Lib.hid hLk
      clear hrg hrg2 hpk hLk
      go_wp2_with (first
        | (with_reducible refine wpList_load_mid (op := ⟨some 23, _, _, _, _, _⟩) ?_ 121 (.tmp 22) ?_ gp (k * 129) ?_ (pcs p) _ HRG.out Try.underlying121 ?_ HS.out ?_)
        | (with_reducible refine wpList_store_in (op := ⟨none, _, _, _, _, _⟩) ?_ 121 (.tmp 5) (.tmp 23) ?_ wr.heap.size 0 (pcs p) ?_ ?_ 121 (pcs (0, nought, nought)) RN.out HF.out (pcs_one p) HS.out ?_))
      all_goals try (first | rfl | (simp; done))
      intro w5 hr5 hg5
      have hr6 : Row w5 wr.heap.size 121 (pcs p) := by rwa [splice_all _ _ (by rw [h129]; rfl)] at hr5
      have q0 : w5.cell? ⟨wr.heap.size, 0, none⟩ = some (.int .i64 p.1) := hr6.cell 0
      have h2 := Row.grown (h1.alloc (.cells (pcs (0, nought, nought)).toArray 121)) hg5 (by simp; omega)
      have hb5 : Below w.heap.size w w5 := (hbel.out.alloc (by omega) _).grown hg5 (by simp; omega) (fun j hj => by have := Option.some.inj hj; omega)
      have q1 : w5.cell? ⟨w.heap.size, k, none⟩ = some (.int .i64 0) := by
        rw [h2.cell, List.getElem?_append_right (by rw [List.length_take, HLN.out]; omega), List.length_take, HLN.out, show k - min k n = 0 by omega, List.getElem?_replicate, if_pos (by omega)]
      have q2 := h2.frozen k
      have H2 := Lib.hid h2
      have HB5 := Lib.hid hb5
      clear hr5 hg5 h1 hbel h2 hb5 hr6
      go_wp2
      go_roundw
      case rel =>
        refine ⟨k + 1, by omega, by go_num, ?_, (show Below _ _ _ from HB5.out.setCell (Nat.le_refl _) _)⟩
        have h3 := H2.out.store k (.int .i64 p.1)
        have e : (L.take k ++ List.replicate (n - k) (Value.int .i64 0)).set k (.int .i64 p.1) = L.take (k + 1) ++ List.replicate (n - (k + 1)) (.int .i64 0) := by
          have hl : (L.take k).length = k := by rw [List.length_take, HLN.out]; omega
          have hkl : k < L.length := by rw [HLN.out]; exact hlt
          rw [List.set_append_right _ _ (by omega), hl, Nat.sub_self, show n - k = (n - (k + 1)) + 1 by omega, List.replicate_succ, List.set_cons_zero, List.take_succ_eq_append_getElem hkl, List.append_assoc]
          have : L[k] = .int .i64 p.1 := by have := HLk.out; rw [List.getElem?_eq_getElem hkl] at this; exact Option.some.inj this
          rw [this]; rfl
        rw [← e]; exact h3
      case measure => simp [intOf]; omega
    · obtain rfl : k = n := by omega
      rw [List.take_of_length_le (by rw [HLN.out]; exact Nat.le_refl _), Nat.sub_self, List.replicate_zero, List.append_nil] at h1
      go_wp2
      go_ret
      exact ⟨rfl, h1, hbel.out⟩
end Go.Proofs.Yteemdjamgbbjhaa.Dsk

/-
  The contract of wakes.
-/
namespace Go.Proofs.Yteemdjamgbbjhaa.Dsk
set_option maxRecDepth 100000
open Go.RowKit Go.Proofs.Yteemdjamgbbjhaa.Wd

def seven : List UInt8 := 7 :: List.replicate 63 0
theorem built_seven : Try.prog.built 89 [(0, .int .u8 7)] = some (bv seven).toArray := by kernel_rfl
theorem built_zero : Try.prog.built 89 [] = some (bv nought).toArray := by kernel_rfl
def dw1 : DM := ⟨[nought, seven], [(1, nought, seven)], false, false, 0, false, 0, 1⟩
def dw2 : DM := ⟨[nought, seven], [(1, nought, seven)], false, false, 0, false, 0, 2⟩
theorem wakes_write : (DM.new 2).writeM 1 seven = (dw1, 0) := by simp [DM.writeM, DM.pre, DM.new, DM.put, DM.tally, dw1, wrap64]
theorem wakes_read : dw1.readM 1 = (dw2, seven, 0) := by simp [DM.readM, DM.pre, DM.tally, dw1, dw2, wrap64]
section
variable {w w' w'' : World} {F F' : Nat → Prop} {g : Nat} {d : DM}
/-- a disk that a call goes on with lies beyond B where it lay there -/
theorem Goes.far {B : Nat} (h : Goes F w g d w') (hF : ∀ k, F k → B ≤ k) (hB : B ≤ w.heap.size) : ∃ F', Disk w' F' g d ∧ (∀ k, F' k → B ≤ k) ∧ Below B w w' := by
  obtain ⟨F', h1, hx, ho⟩ := h
  refine ⟨F', h1, fun k hk => ?_, ho.below hF hB⟩
  rcases hx k hk with h2 | h2
  · exact hF k h2
  · omega
end
end Go.Proofs.Yteemdjamgbbjhaa.Dsk

/-
  Sums as numbers: no program in them.
-/
namespace Go.Proofs.Yteemdjamgbbjhaa.Sm
open Go.Proofs.Yteemdjamgbbjhaa.Wd

/-- half a sum, turned if it was odd -/
def half (p s : Nat) : Nat := if s % 2 = 1 then (s / 2) ^^^ p else s / 2
def halves (p : Nat) : Nat → Nat → Nat
  | 0, s => s
  | n + 1, s => halves p n (half p s)
def stp (p s : Nat) (c : UInt8) : Nat := halves p 8 (s ^^^ c.toNat)
def tot (p s : Nat) (l : List UInt8) : Nat := l.foldl (stp p) s
theorem half_odd {p s : Nat} (h : s % 2 = 1) : half p s = (s / 2) ^^^ p := if_pos h
theorem half_even {p s : Nat} (h : s % 2 = 0) : half p s = s / 2 := if_neg (by omega)
theorem xor_mod2 (a b : Nat) : (a ^^^ b) % 2 = (a + b) % 2 := by
  have h := Nat.xor_mod_two_pow (a := a) (b := b) (n := 1)
  simp only [Nat.pow_one] at h
  rw [h]
  rcases Nat.mod_two_eq_zero_or_one a with ha | ha <;> rcases Nat.mod_two_eq_zero_or_one b with hb | hb <;> rw [ha, hb] <;> simp <;> omega
theorem add_xor {i b : Nat} (hb : b < 2 ^ i) (a : Nat) : 2 ^ i * a + b = 2 ^ i * a ^^^ b := by
  apply Nat.eq_of_testBit_eq
  intro j
  rw [Nat.testBit_xor, Nat.testBit_two_pow_mul_add a hb, Nat.testBit_two_pow_mul]
  by_cases h : j < i
  · rw [if_pos h, show decide (j ≥ i) = false from by simp; omega]; simp
  · have : b.testBit j = false := Nat.testBit_lt_two_pow (Nat.lt_of_lt_of_le hb (Nat.pow_le_pow_right (by omega) (by omega)))
    rw [if_neg h, this]; simp; omega
theorem half_xor (p a b : Nat) : half p (a ^^^ b) = half p a ^^^ half p b := by
  have h1 : (a ^^^ b) % 2 = (a + b) % 2 := xor_mod2 a b
  have h2 : (a ^^^ b) / 2 = a / 2 ^^^ b / 2 := Nat.xor_div_two
  unfold half
  rw [h1, h2]
  rcases Nat.mod_two_eq_zero_or_one a with ha | ha <;> rcases Nat.mod_two_eq_zero_or_one b with hb | hb
  · rw [if_neg (by omega), if_neg (by omega), if_neg (by omega)]
  · rw [if_pos (by omega), if_neg (by omega), if_pos (by omega), Nat.xor_assoc]
  · rw [if_pos (by omega), if_pos (by omega), if_neg (by omega), Nat.xor_assoc, Nat.xor_assoc, Nat.xor_comm p]
  · rw [if_neg (by omega), if_pos (by omega), if_pos (by omega)]
    rw [Nat.xor_assoc, Nat.xor_comm p, Nat.xor_assoc, Nat.xor_self, Nat.xor_zero]
theorem half_double (p a : Nat) : half p (2 * a) = a := by
  rw [half_even (by omega)]; omega
theorem halves_xor (p n : Nat) : ∀ a b, halves p n (a ^^^ b) = halves p n a ^^^ halves p n b := by
  induction n with
  | zero => intros; rfl
  | succ n ih => intro a b; rw [halves, half_xor, ih]; rfl
theorem halves_zero (p n : Nat) : halves p n 0 = 0 := by
  induction n with
  | zero => rfl
  | succ n ih => rw [halves, half_even (by rfl)]; exact ih
theorem halves_add (p : Nat) (m n : Nat) : ∀ s, halves p (m + n) s = halves p n (halves p m s) := by
  induction m with
  | zero => intro s; rw [Nat.zero_add]; rfl
  | succ m ih => intro s; rw [Nat.add_right_comm, halves, ih]; rfl
theorem halves_shift (p b : Nat) : ∀ a x, halves p (b + a) (2 ^ b * x) = halves p a x := by
  induction b with
  | zero => intro a x; simp
  | succ b ih => intro a x; rw [Nat.add_right_comm, halves, Nat.pow_succ, Nat.mul_comm (2 ^ b) 2, Nat.mul_assoc, half_double, ih]
theorem half_lt {p k s : Nat} (hp : p < 2 ^ k) (hs : s < 2 ^ k) : half p s < 2 ^ k := by
  unfold half
  split
  · exact Nat.xor_lt_two_pow (by omega) hp
  · omega
theorem halves_lt {p k : Nat} (hp : p < 2 ^ k) (n : Nat) : ∀ {s}, s < 2 ^ k → halves p n s < 2 ^ k := by
  induction n with
  | zero => intro s h; exact h
  | succ n ih => intro s h; exact ih (half_lt hp h)
/-- p has its highest bit of k -/
def Top (p k : Nat) : Prop := p < 2 ^ k ∧ 2 ^ k ≤ 2 * p
theorem half_ne {p k s : Nat} (hp : Top p k) (hs : s < 2 ^ k) (h : half p s = 0) : s = 0 := by
  unfold half at h
  split at h
  · have e : s / 2 = p := by
      have : (s / 2 ^^^ p) ^^^ p = 0 ^^^ p := by rw [h]
      rwa [Nat.xor_assoc, Nat.xor_self, Nat.xor_zero, Nat.zero_xor] at this
    have := hp.2
    omega
  · omega
theorem halves_ne {p k : Nat} (hp : Top p k) (n : Nat) : ∀ {s}, s < 2 ^ k → halves p n s = 0 → s = 0 := by
  induction n with
  | zero => intro s _ h; exact h
  | succ n ih => intro s hs h; exact half_ne hp hs (ih (half_lt hp.1 hs) h)
theorem halves_inj {p k : Nat} (hp : Top p k) (n : Nat) {a b : Nat} (ha : a < 2 ^ k) (hb : b < 2 ^ k) (h : halves p n a = halves p n b) : a = b := by
  have h1 : halves p n (a ^^^ b) = 0 := by rw [halves_xor, h, Nat.xor_self]
  have h2 := halves_ne hp n (Nat.xor_lt_two_pow ha hb) h1
  have : (a ^^^ b) ^^^ b = 0 ^^^ b := by rw [h2]
  rwa [Nat.xor_assoc, Nat.xor_self, Nat.xor_zero, Nat.zero_xor] at this
theorem tot_nil (p s : Nat) : tot p s [] = s := rfl
theorem tot_cons (p s : Nat) (c : UInt8) (l : List UInt8) : tot p s (c :: l) = tot p (stp p s c) l := rfl
theorem tot_append (p s : Nat) (a b : List UInt8) : tot p s (a ++ b) = tot p (tot p s a) b := List.foldl_append
theorem tot_take (p s : Nat) (l : List UInt8) (k : Nat) (h : k < l.length) : stp p (tot p s (l.take k)) (l.getD k 0) = tot p s (l.take (k + 1)) := by
  rw [List.take_succ_eq_append_getElem h, tot_append]
  simp [tot, h]
theorem stp_xor (p s y : Nat) (c : UInt8) : stp p (s ^^^ y) c = stp p s c ^^^ halves p 8 y := by
  unfold stp
  rw [← halves_xor, Nat.xor_assoc, Nat.xor_comm y, Nat.xor_assoc]
theorem tot_xor (p : Nat) (l : List UInt8) : ∀ s y, tot p (s ^^^ y) l = tot p s l ^^^ halves p (8 * l.length) y := by
  induction l with
  | nil => intro s y; rfl
  | cons c l ih =>
    intro s y
    rw [tot_cons, stp_xor, ih, tot_cons, List.length_cons, ← halves_add, Nat.mul_add, Nat.mul_one, Nat.add_comm]
theorem stp_lt {p k s : Nat} (hp : p < 2 ^ k) (hk : 8 ≤ k) (hs : s < 2 ^ k) (c : UInt8) : stp p s c < 2 ^ k := by
  refine halves_lt hp 8 (Nat.xor_lt_two_pow hs ?_)
  have h1 : c.toNat < 2 ^ 8 := c.toNat_lt
  exact Nat.lt_of_lt_of_le h1 (Nat.pow_le_pow_right (by omega) hk)
theorem tot_lt {p k : Nat} (hp : p < 2 ^ k) (hk : 8 ≤ k) (l : List UInt8) : ∀ {s}, s < 2 ^ k → tot p s l < 2 ^ k := by
  induction l with
  | nil => intro s h; exact h
  | cons c l ih => intro s h; exact ih (stp_lt hp hk h c)
/-- one byte turned -/
theorem tot_set (p : Nat) (m : UInt8) (l : List UInt8) : ∀ s i, i < l.length → tot p s (l.set i (l.getD i 0 ^^^ m)) = tot p s l ^^^ halves p (8 * (l.length - i)) m.toNat := by
  induction l with
  | nil => intro s i h; cases h
  | cons c l ih =>
    intro s i h
    cases i with
    | zero =>
      have e : stp p s (c ^^^ m) = stp p s c ^^^ halves p 8 m.toNat := by
        unfold stp
        rw [UInt8.toNat_xor, ← Nat.xor_assoc, halves_xor]
      rw [List.set_cons_zero, List.getD_cons_zero, tot_cons, e, tot_xor, tot_cons, List.length_cons, Nat.sub_zero, ← halves_add, Nat.mul_add, Nat.mul_one, Nat.add_comm]
    | succ i =>
      rw [List.set_cons_succ, List.getD_cons_succ, tot_cons, ih _ _ (by simpa using h), tot_cons, List.length_cons, Nat.add_sub_add_right]

/-- the lowest n bytes of a number, the lowest first -/
def lo : Nat → Nat → List UInt8
  | 0, _ => []
  | n + 1, x => UInt8.ofNat x :: lo n (x / 256)
theorem lo_length (n : Nat) : ∀ x, (lo n x).length = n := by
  induction n with
  | zero => intro x; rfl
  | succ n ih => intro x; simp [lo, ih]
theorem tot_lo (p n : Nat) : ∀ s x, x < 256 ^ n → tot p s (lo n x) = halves p (8 * n) (s ^^^ x) := by
  induction n with
  | zero =>
    intro s x h
    have : x = 0 := by simpa using h
    subst this
    simp [lo, tot, halves]
  | succ n ih =>
    intro s x h
    have h1 : x / 256 < 256 ^ n := by rw [Nat.pow_succ] at h; exact Nat.div_lt_of_lt_mul (by rwa [Nat.mul_comm] at h)
    rw [lo, tot_cons, ih _ _ h1]
    have e : x % 256 ^^^ 256 * (x / 256) = x := by
      have h2 := add_xor (i := 8) (b := x % 256) (by have := Nat.mod_lt x (show 256 > 0 by omega); simpa using this) (x / 256)
      rw [Nat.xor_comm, show (256 : Nat) = 2 ^ 8 from rfl, ← h2]
      omega
    have e8 : halves p 8 (256 * (x / 256)) = x / 256 := halves_shift p 8 0 (x / 256)
    have e3 : stp p s (UInt8.ofNat x) ^^^ x / 256 = halves p 8 (s ^^^ x) := by
      unfold stp
      rw [show (UInt8.ofNat x).toNat = x % 256 from by simp]
      conv => lhs; rw [← e8]
      rw [← halves_xor, Nat.xor_assoc, e]
    rw [e3, ← halves_add]
    congr 1
    omega
/-- the number of bytes, the lowest first -/
def lnum : List UInt8 → Nat
  | [] => 0
  | c :: l => c.toNat + 256 * lnum l
theorem lnum_lt : ∀ l : List UInt8, lnum l < 256 ^ l.length
  | [] => by simp [lnum]
  | c :: l => by
    have h := lnum_lt l
    have hc : c.toNat < 256 := c.toNat_lt
    rw [lnum, List.length_cons, Nat.pow_succ]
    omega
theorem lo_lnum : ∀ l : List UInt8, lo l.length (lnum l) = l
  | [] => rfl
  | c :: l => by
    have hc : c.toNat < 256 := c.toNat_lt
    rw [List.length_cons, lo, lnum, show (c.toNat + 256 * lnum l) / 256 = lnum l from by omega, lo_lnum l]
    congr 1
    apply UInt8.toNat_inj.1
    simp
theorem lo_inj {n : Nat} : ∀ {x y : Nat}, x < 256 ^ n → y < 256 ^ n → lo n x = lo n y → x = y := by
  induction n with
  | zero => intro x y hx hy _; simp at hx hy; omega
  | succ n ih =>
    intro x y hx hy h
    have h1 : x / 256 < 256 ^ n := by rw [Nat.pow_succ] at hx; exact Nat.div_lt_of_lt_mul (by rwa [Nat.mul_comm] at hx)
    have h2 : y / 256 < 256 ^ n := by rw [Nat.pow_succ] at hy; exact Nat.div_lt_of_lt_mul (by rwa [Nat.mul_comm] at hy)
    simp only [lo, List.cons.injEq] at h
    have h3 := ih h1 h2 h.2
    have h4 : x % 256 = y % 256 := by
      have := congrArg UInt8.toNat h.1
      simpa using this
    omega

/-- all n bytes ones -/
def ones (n : Nat) : Nat := 256 ^ n - 1
/-- the sum of bytes, of n bytes -/
def sm (p n : Nat) (l : List UInt8) : Nat := tot p (ones n) l ^^^ ones n
def sealed (p n : Nat) (l : List UInt8) : List UInt8 := l ++ lo n (sm p n l)
theorem pow8 (n : Nat) : 256 ^ n = 2 ^ (8 * n) := by rw [Nat.pow_mul]
theorem ones_lt (n : Nat) : ones n < 256 ^ n := by
  have : 0 < 256 ^ n := Nat.pow_pos (by omega)
  unfold ones; omega
/-- a constant of n bytes whose highest bit is 1 -/
def Poly (p n : Nat) : Prop := 0 < n ∧ Top p (8 * n)
theorem poly16 : Poly 33800 2 := ⟨by omega, by decide, by decide⟩
theorem poly32 : Poly 2197175160 4 := ⟨by omega, by decide, by decide⟩
theorem xor_back (a b : Nat) : a ^^^ (a ^^^ b) = b := by rw [← Nat.xor_assoc, Nat.xor_self, Nat.zero_xor]
section
variable {p n : Nat} (hp : Poly p n)
include hp
theorem tot_lt' (l : List UInt8) {s : Nat} (h : s < 256 ^ n) : tot p s l < 256 ^ n := by
  rw [pow8] at h ⊢
  exact tot_lt hp.2.1 (by have := hp.1; omega) l h
theorem sm_lt (l : List UInt8) : sm p n l < 256 ^ n := by
  have h1 := tot_lt' hp l (ones_lt n)
  have h2 := ones_lt n
  unfold sm
  rw [pow8] at *
  exact Nat.xor_lt_two_pow h1 h2
omit hp in
theorem sealed_length (l : List UInt8) : (sealed p n l).length = l.length + n := by simp [sealed, lo_length]
/-- what was sealed has one sum -/
theorem tot_sealed (l : List UInt8) : tot p (ones n) (sealed p n l) = halves p (8 * n) (ones n) := by
  rw [sealed, tot_append, tot_lo _ _ _ _ (sm_lt hp l), sm, xor_back]
/-- and only that has it -/
theorem sealed_of_tot (x : List UInt8) (hn : n ≤ x.length) (h : tot p (ones n) x = halves p (8 * n) (ones n)) : sealed p n (x.take (x.length - n)) = x := by
  have e := List.take_append_drop (x.length - n) x
  generalize hy : x.take (x.length - n) = y at e
  generalize hz : x.drop (x.length - n) = z at e
  have hzl : z.length = n := by rw [← hz]; simp; omega
  have h1 := lnum_lt z
  rw [hzl] at h1
  have h2 := lo_lnum z
  rw [hzl] at h2
  have ht := tot_lt' hp y (ones_lt n)
  have ho := ones_lt n
  rw [← e, tot_append, ← h2, tot_lo _ _ _ _ h1] at h
  have h3 : tot p (ones n) y ^^^ lnum z = ones n := by
    refine halves_inj hp.2 (8 * n) ?_ (by rw [← pow8]; exact ho) h
    rw [pow8] at ht h1
    exact Nat.xor_lt_two_pow ht h1
  have h4 : sm p n y = lnum z := by
    have h5 := xor_back (tot p (ones n) y) (lnum z)
    rw [h3] at h5
    exact h5
  rw [sealed, h4, h2, e]
theorem sealed_iff (x : List UInt8) (hn : n ≤ x.length) : sealed p n (x.take (x.length - n)) = x ↔ tot p (ones n) x = halves p (8 * n) (ones n) := by
  constructor
  · intro h
    rw [← h]
    have := tot_sealed hp (x.take (x.length - n))
    rw [h] at this ⊢
    exact this
  · exact sealed_of_tot hp x hn
end

/-- the byte with one bit -/
def bitAt (j : Nat) : UInt8 := UInt8.ofNat (2 ^ (j % 8))
theorem bitAt_nat (j : Nat) : (bitAt j).toNat = 2 ^ (j % 8) := by
  have h : 2 ^ (j % 8) < 2 ^ 8 := Nat.pow_lt_pow_right (by omega) (Nat.mod_lt _ (by omega))
  unfold bitAt
  rw [UInt8.toNat_ofNat']
  exact Nat.mod_eq_of_lt h
def flip (l : List UInt8) (j : Nat) : List UInt8 := l.set (j / 8) (l.getD (j / 8) 0 ^^^ bitAt j)
/-- bits turned from bit k on, those of the mask's lowest i -/
def flips (mask k : Nat) (l : List UInt8) : Nat → List UInt8
  | 0 => l
  | i + 1 => if mask.testBit i = true ∧ k + i < 8 * l.length then flip (flips mask k l i) (k + i) else flips mask k l i
theorem flips_length (mask k : Nat) (l : List UInt8) : ∀ i, (flips mask k l i).length = l.length
  | 0 => rfl
  | i + 1 => by
    have := flips_length mask k l i
    rw [flips]
    split
    · simp [flip, this]
    · exact this
/-- the mask's bits that are turned -/
def low (mask k : Nat) (l : List UInt8) (i : Nat) : Nat := mask % 2 ^ (min i (8 * l.length - k))
theorem low_succ (mask k : Nat) (l : List UInt8) (i : Nat) : low mask k l (i + 1) = if mask.testBit i = true ∧ k + i < 8 * l.length then low mask k l i ^^^ 2 ^ i else low mask k l i := by
  unfold low
  by_cases h : k + i < 8 * l.length
  · rw [show min (i + 1) (8 * l.length - k) = i + 1 from by omega, show min i (8 * l.length - k) = i from by omega]
    have h2 : mask % 2 ^ (i + 1) = mask % 2 ^ i + 2 ^ i * (mask.testBit i).toNat := by
      rw [Nat.mod_pow_succ, Nat.testBit_eq_decide_div_mod_eq]
      rcases Nat.mod_two_eq_zero_or_one (mask / 2 ^ i) with hh | hh <;> simp [hh]
    by_cases hb : mask.testBit i = true
    · rw [if_pos ⟨hb, h⟩, h2, hb]
      have h3 := add_xor (i := i) (b := mask % 2 ^ i) (Nat.mod_lt _ (Nat.pow_pos (by omega))) 1
      simp only [Nat.mul_one] at h3
      simp only [Bool.toNat_true, Nat.mul_one]
      rw [Nat.add_comm, h3, Nat.xor_comm]
    · rw [if_neg (fun c => hb c.1), h2]
      simp [hb]
  · rw [if_neg (fun c => h c.2), show min (i + 1) (8 * l.length - k) = min i (8 * l.length - k) from by omega]
theorem low_ne (mask k : Nat) (l : List UInt8) (i : Nat) (h : mask.testBit i = true ∧ k + i < 8 * l.length) : low mask k l (i + 1) ≠ 0 := by
  have h1 : low mask k l (i + 1) = mask % 2 ^ (i + 1) := by unfold low; rw [show min (i + 1) (8 * l.length - k) = i + 1 from by omega]
  intro e
  have h2 := Nat.testBit_mod_two_pow mask (i + 1) i
  rw [← h1, e] at h2
  simp [h.1] at h2
theorem low_lt (mask k : Nat) (l : List UInt8) (i : Nat) : low mask k l i < 2 ^ i :=
  Nat.lt_of_lt_of_le (Nat.mod_lt _ (Nat.pow_pos (by omega))) (Nat.pow_le_pow_right (by omega) (Nat.min_le_left _ _))
/-- what turned bits make of a sum -/
theorem tot_flips (p s mask k : Nat) (l : List UInt8) : ∀ i, tot p s (flips mask k l i) = tot p s l ^^^ halves p (8 * l.length - k) (low mask k l i)
  | 0 => by simp [flips, low, Nat.mod_one, halves_zero]
  | i + 1 => by
    have ih := tot_flips p s mask k l i
    rw [flips, low_succ]
    by_cases h : mask.testBit i = true ∧ k + i < 8 * l.length
    · rw [if_pos h, if_pos h, flip, tot_set _ _ _ _ _ (by rw [flips_length]; omega), ih, flips_length, bitAt_nat, halves_xor, Nat.xor_assoc]
      congr 2
      have e1 := halves_shift p ((k + i) % 8) (8 * l.length - (k + i)) 1
      have e2 := halves_shift p i (8 * l.length - (k + i)) 1
      rw [Nat.mul_one] at e1 e2
      rw [show 8 * (l.length - (k + i) / 8) = (k + i) % 8 + (8 * l.length - (k + i)) from by omega, e1, show 8 * l.length - k = i + (8 * l.length - (k + i)) from by omega, e2]
    · rw [if_neg h, if_neg h, ih]
/-- turned bits are told -/
def Told (p k : Nat) (m : Nat) : Prop := ∀ r, halves p r m = 0 → m = 0
theorem opens_flips {p n : Nat} (hp : Poly p n) (l : List UInt8) (mask k i : Nat) (ht : halves p (8 * (sealed p n l).length - k) (low mask k (sealed p n l) i) = 0 → low mask k (sealed p n l) i = 0) :
    sealed p n ((flips mask k (sealed p n l) i).take ((flips mask k (sealed p n l) i).length - n)) = flips mask k (sealed p n l) i ↔ low mask k (sealed p n l) i = 0 := by
  rw [sealed_iff hp _ (by rw [flips_length, sealed_length]; omega), tot_flips, tot_sealed hp]
  constructor
  · intro h
    refine ht ?_
    have := xor_back (halves p (8 * n) (ones n)) (halves p (8 * (sealed p n l).length - k) (low mask k (sealed p n l) i))
    rw [h, Nat.xor_self] at this
    exact this.symm
  · intro h
    rw [h, halves_zero, Nat.xor_zero]
theorem burst_told {p n : Nat} (hp : Poly p n) (l : List UInt8) (mask k i r : Nat) (hi : i ≤ 8 * n) (h : halves p r (low mask k l i) = 0) : low mask k l i = 0 :=
  halves_ne hp.2 r (Nat.lt_of_lt_of_le (low_lt _ _ _ _) (Nat.pow_le_pow_right (by omega) hi)) h
def pairOk (p : Nat) : Bool := (List.range 64).all fun d => d == 0 || halves p d 1 != 1
theorem pair16 : pairOk 33800 = true := by decide +kernel
theorem pair32 : pairOk 2197175160 = true := by decide +kernel
theorem pair_told {p n : Nat} (hp : Poly p n) (hq : pairOk p = true) (l : List UInt8) (k d : Nat) (hd : 0 < d) (hd64 : d < 64) (hk : k < 8 * l.length) (h : halves p (8 * l.length - k) (low (1 ||| 2 ^ d) k l 64) = 0) : low (1 ||| 2 ^ d) k l 64 = 0 := by
  have h1 : 1 < 2 ^ (8 * n) := Nat.one_lt_two_pow (by have := hp.1; omega)
  have e : (1 ||| 2 ^ d) = 2 ^ d + 1 := by
    have := Nat.two_pow_add_eq_or_of_lt (i := d) (b := 1) (Nat.one_lt_two_pow (by omega)) 1
    simp only [Nat.mul_one] at this
    rw [this, Nat.or_comm]
  have hx : 2 ^ d + 1 = 2 ^ d ^^^ 1 := by
    have := add_xor (i := d) (b := 1) (Nat.one_lt_two_pow (by omega)) 1
    simpa using this
  by_cases hr : d < 8 * l.length - k
  · have e2 : low (1 ||| 2 ^ d) k l 64 = 2 ^ d ^^^ 1 := by
      unfold low
      rw [e, ← hx]
      apply Nat.mod_eq_of_lt
      have h3 : 2 ^ (d + 1) ≤ 2 ^ (min 64 (8 * l.length - k)) := Nat.pow_le_pow_right (by omega) (by omega)
      have h4 : 1 < 2 ^ d := Nat.one_lt_two_pow (by omega)
      rw [Nat.pow_succ] at h3
      omega
    rw [e2, show 8 * l.length - k = d + (8 * l.length - k - d) from by omega, halves_add, halves_xor] at h
    have e3 : halves p d (2 ^ d) = 1 := by have := halves_shift p d 0 1; simpa [halves] using this
    rw [e3] at h
    have hlt := halves_lt hp.2.1 d h1
    have h5 := halves_ne hp.2 _ (Nat.xor_lt_two_pow h1 hlt) h
    have h6 : halves p d 1 = 1 := by
      have := xor_back 1 (halves p d 1)
      rw [h5, Nat.xor_zero] at this
      exact this.symm
    exfalso
    unfold pairOk at hq
    rw [List.all_eq_true] at hq
    have := hq d (by simp [hd64])
    simp [h6] at this
    omega
  · have e2 : low (1 ||| 2 ^ d) k l 64 = 1 := by
      unfold low
      rw [e, show min 64 (8 * l.length - k) = 8 * l.length - k from by omega]
      have h3 : 2 ^ d = 2 ^ (8 * l.length - k) * 2 ^ (d - (8 * l.length - k)) := by rw [← Nat.pow_add]; congr 1; omega
      rw [h3, Nat.add_comm, Nat.add_mul_mod_self_left]
      exact Nat.mod_eq_of_lt (Nat.one_lt_two_pow (by omega))
    rw [e2] at h ⊢
    exact halves_ne hp.2 _ h1 h
theorem nine16 : sm 33800 2 [49, 50, 51, 52, 53, 54, 55, 56, 57] = 36974 := by decide +kernel
theorem nine32 : sm 2197175160 4 [49, 50, 51, 52, 53, 54, 55, 56, 57] = 3808858755 := by decide +kernel
end Go.Proofs.Yteemdjamgbbjhaa.Sm

/-
  A log as numbers and lists: sectors, frames, chains; no program in it.
-/
namespace Go.Proofs.Yteemdjamgbbjhaa.Wl
open Go.Proofs.Yteemdjamgbbjhaa.Wd Go.Proofs.Yteemdjamgbbjhaa.Sm Go.Proofs.Yteemdjamgbbjhaa.Dsk

def crc (l : List UInt8) : Nat := sm 2197175160 4 l
/-- how many sectors a frame of n bytes fills -/
def sects (n : Nat) : Nat := (4 + n + 47) / 48
def frontB (turn num i n : Nat) : List UInt8 := hi 4 turn ++ hi 4 num ++ hi 2 i ++ hi 2 n
/-- a part's sector -/
def partB (turn num i n : Nat) (body : List UInt8) : List UInt8 := frontB turn num i n ++ hi 4 (crc (frontB turn num i n ++ body)) ++ body
def allB (b : List UInt8) : List UInt8 := hi 4 b.length ++ b
/-- 48 bytes of it, noughts behind its end -/
def fill48 (s : List UInt8) : List UInt8 := s.take 48 ++ List.replicate (48 - s.length) 0
def bodyB (all : List UInt8) (i : Nat) : List UInt8 := fill48 (all.drop (48 * i))
def partM (turn num : Nat) (b : List UInt8) (i : Nat) : List UInt8 := partB turn num i (sects b.length) (bodyB (allB b) i)
def partsM (turn num : Nat) (b : List UInt8) : List (List UInt8) := (List.range (sects b.length)).map (partM turn num b)
def headF (turn area : Nat) : List UInt8 := [103, 97, 122, 101, 116, 119, 97, 108] ++ hi 4 turn ++ hi 4 area ++ List.replicate 44 0
def headB (turn area : Nat) : List UInt8 := headF turn area ++ hi 4 (crc (headF turn area))
/-- the bytes that sectors claim to be a frame of -/
def claimedM : List (List UInt8) → Option (List UInt8)
  | [] => none
  | h :: t =>
    if 40000 < num ((h.drop 16).take 4) then none
    else if (h :: t).length < sects (num ((h.drop 16).take 4)) then none
    else some (((((h :: t).take (sects (num ((h.drop 16).take 4)))).flatMap (List.drop 16)).drop 4).take (num ((h.drop 16).take 4)))
/-- the frame that stands where sectors begin -/
def standsM (turn num : Nat) (s : List (List UInt8)) : Option (List UInt8) :=
  match claimedM s with
  | none => none
  | some b => if partsM turn num b = s.take (sects b.length) then some b else none
def chainM (turn : Nat) : Nat → Nat → List (List UInt8) → List (List UInt8)
  | 0, _, _ => []
  | f + 1, k, s =>
    match standsM turn k s with
    | none => []
    | some b => b :: chainM turn f (k + 1) (s.drop (sects b.length))
def usedM (fs : List (List UInt8)) : Nat := (fs.map fun b => sects b.length).sum
/-- the sectors of frames, number k on -/
def laidM (turn : Nat) : Nat → List (List UInt8) → List (List UInt8)
  | _, [] => []
  | k, b :: fs => partsM turn k b ++ laidM turn (k + 1) fs

theorem sects_pos (n : Nat) : 0 < sects n := by unfold sects; omega
theorem sects_most (n : Nat) (h : n ≤ 40000) : sects n ≤ 834 := by unfold sects; omega
theorem frontB_len (t k i n : Nat) : (frontB t k i n).length = 12 := by simp [frontB, hi_length]
theorem fill48_len (s : List UInt8) : (fill48 s).length = 48 := by
  simp [fill48, List.length_take]
  omega
theorem bodyB_len (a : List UInt8) (i : Nat) : (bodyB a i).length = 48 := fill48_len _
theorem partB_len (t k i n : Nat) (b : List UInt8) (h : b.length = 48) : (partB t k i n b).length = 64 := by
  simp [partB, frontB_len, hi_length, h]
theorem partM_len (t k : Nat) (b : List UInt8) (i : Nat) : (partM t k b i).length = 64 := partB_len _ _ _ _ _ (bodyB_len _ _)
theorem partsM_len (t k : Nat) (b : List UInt8) : (partsM t k b).length = sects b.length := by simp [partsM]
theorem headF_len (t a : Nat) : (headF t a).length = 60 := by simp [headF, hi_length]
theorem headB_len (t a : Nat) : (headB t a).length = 64 := by simp [headB, headF_len, hi_length]
theorem laidM_len (t : Nat) (fs : List (List UInt8)) : ∀ k, (laidM t k fs).length = usedM fs := by
  induction fs with
  | nil => intro k; rfl
  | cons b fs ih => intro k; simp [laidM, usedM, partsM_len, ih]
theorem partB_drop (t k i n : Nat) (b : List UInt8) : (partB t k i n b).drop 16 = b := by
  have h : (frontB t k i n ++ hi 4 (crc (frontB t k i n ++ b))).length = 16 := by simp [frontB_len, hi_length]
  unfold partB
  rw [← h, List.drop_left]
theorem partM_drop (t k : Nat) (b : List UInt8) (i : Nat) : (partM t k b i).drop 16 = bodyB (allB b) i := partB_drop _ _ _ _ _
theorem allB_len (b : List UInt8) : (allB b).length = 4 + b.length := by simp [allB, hi_length]
/-- the bodies, one behind the other: all bytes, and noughts -/
theorem bodies (a : List UInt8) : ∀ n, a.length ≤ 48 * n → (List.range n).flatMap (bodyB a) = a ++ List.replicate (48 * n - a.length) 0 := by
  intro n
  have key : ∀ m, m ≤ n → (List.range m).flatMap (bodyB a) = a.take (48 * m) ++ List.replicate (48 * m - a.length) 0 := by
    intro m
    induction m with
    | zero => intro _; simp
    | succ m ih =>
      intro hm
      rw [List.range_succ, List.flatMap_append, ih (by omega)]
      simp only [List.flatMap_cons, List.flatMap_nil, List.append_nil, bodyB, fill48]
      by_cases h : a.length ≤ 48 * m
      · have e0 : 48 * (m + 1) - a.length = (48 * m - a.length) + 48 := by omega
        have t1 : a.take (48 * m) = a := List.take_of_length_le h
        have t2 : a.take (48 * (m + 1)) = a := List.take_of_length_le (by omega)
        rw [t1, t2, List.drop_eq_nil_of_le h, List.append_assoc, e0, ← List.replicate_append_replicate]
        simp
      · have e0 : 48 * m - a.length = 0 := by omega
        have e1 : 48 - (a.drop (48 * m)).length = 48 * (m + 1) - a.length := by rw [List.length_drop]; omega
        rw [e0, e1, List.replicate_zero, List.append_nil, show 48 * (m + 1) = 48 * m + 48 by omega, List.take_add, List.append_assoc]
  intro h
  rw [key n (Nat.le_refl _), List.take_of_length_le h]
theorem parts_bodies (t k : Nat) (b : List UInt8) : (partsM t k b).flatMap (List.drop 16) = allB b ++ List.replicate (48 * sects b.length - (allB b).length) 0 := by
  rw [← bodies (allB b) (sects b.length) (by rw [allB_len]; unfold sects; omega)]
  unfold partsM
  rw [List.flatMap_map]
  simp only [Function.comp_def, partM_drop]
/-- what was laid is claimed -/
theorem claimed_parts (t k : Nat) (b : List UInt8) (rest : List (List UInt8)) (hb : b.length ≤ 40000) : claimedM (partsM t k b ++ rest) = some b := by
  have hp := sects_pos b.length
  obtain ⟨m, hm⟩ : ∃ m, sects b.length = m + 1 := ⟨sects b.length - 1, by omega⟩
  have hpa : partsM t k b = partM t k b 0 :: (List.range m).map (fun i => partM t k b (i + 1)) := by
    unfold partsM
    rw [hm, List.range_succ_eq_map]
    simp [Function.comp_def]
  have hn : num (((partM t k b 0).drop 16).take 4) = b.length := by
    rw [partM_drop]
    unfold bodyB fill48
    rw [Nat.mul_zero, List.drop_zero, List.take_append_of_le_length (by rw [List.length_take, allB_len]; omega), List.take_take, Nat.min_eq_left (by omega)]
    unfold allB
    rw [List.take_append_of_le_length (by rw [hi_length]; omega), List.take_of_length_le (by rw [hi_length]; omega), num_hi]
    omega
  have hbod := parts_bodies t k b
  have hlen := partsM_len t k b
  rw [hpa] at hbod hlen ⊢
  unfold claimedM
  simp only [List.cons_append]
  rw [hn, if_neg (by omega), if_neg (by rw [← List.cons_append, List.length_append, hlen]; omega)]
  have ht : ((partM t k b 0 :: List.map (fun i => partM t k b (i + 1)) (List.range m)) ++ rest).take (sects b.length) = partM t k b 0 :: List.map (fun i => partM t k b (i + 1)) (List.range m) := by
    rw [← hlen, List.take_left]
  rw [← List.cons_append, ht, hbod]
  unfold allB
  rw [List.append_assoc, List.drop_left' (by rw [hi_length]), List.take_left]
theorem stands_parts (t k : Nat) (b : List UInt8) (rest : List (List UInt8)) (hb : b.length ≤ 40000) : standsM t k (partsM t k b ++ rest) = some b := by
  unfold standsM
  rw [claimed_parts t k b rest hb]
  simp only
  rw [← partsM_len t k b, List.take_left, if_pos rfl]
/-- what was laid is found -/
theorem chain_laid (t : Nat) (fs : List (List UInt8)) (rest : List (List UInt8)) : ∀ k f, (∀ b ∈ fs, b.length ≤ 40000) → standsM t (k + fs.length) rest = none → fs.length < f → chainM t f k (laidM t k fs ++ rest) = fs := by
  induction fs with
  | nil =>
    intro k f _ hr hf
    cases f with
    | zero => simp at hf
    | succ f =>
      simp only [List.length_nil, Nat.add_zero] at hr
      simp [chainM, laidM, hr]
  | cons b fs ih =>
    intro k f hb hr hf
    cases f with
    | zero => simp at hf
    | succ f =>
      have h1 : standsM t k (laidM t k (b :: fs) ++ rest) = some b := by
        show standsM t k ((partsM t k b ++ laidM t (k + 1) fs) ++ rest) = some b
        rw [List.append_assoc]
        exact stands_parts t k b _ (hb b (by simp))
      have h2 : (laidM t k (b :: fs) ++ rest).drop (sects b.length) = laidM t (k + 1) fs ++ rest := by
        show ((partsM t k b ++ laidM t (k + 1) fs) ++ rest).drop (sects b.length) = _
        rw [List.append_assoc, ← partsM_len t k b, List.drop_left]
      simp only [chainM, h1, h2]
      rw [ih (k + 1) f (fun b hb' => hb b (by simp [hb'])) (by simpa [Nat.add_assoc, Nat.add_comm 1] using hr) (by simpa using hf)]
/-- no part is noughts -/
theorem hi_zero (n x : Nat) (hx : x < 256 ^ n) (h : hi n x = List.replicate n 0) : x = 0 := by
  have h1 := num_hi n x
  have hz : ∀ n, num (List.replicate n 0) = 0 := by
    intro n
    induction n with
    | zero => rfl
    | succ n ih => rw [List.replicate_succ', num_snoc, ih]; rfl
  rw [h, hz, Nat.mod_eq_of_lt hx] at h1
  exact h1.symm
theorem partB_n (t k i n : Nat) (b : List UInt8) : ((partB t k i n b).drop 10).take 2 = hi 2 n := by
  have h : (hi 4 t ++ hi 4 k ++ hi 2 i).length = 10 := by simp [hi_length]
  unfold partB frontB
  rw [List.append_assoc, List.append_assoc, ← h, List.drop_left, List.take_left' (by rw [hi_length])]
theorem part_not_nought (t k i n : Nat) (b : List UInt8) (h0 : 0 < n) (hn : n < 65536) : partB t k i n b ≠ nought := fun h => by
  have h1 := partB_n t k i n b
  rw [h] at h1
  have h2 := hi_zero 2 n (by omega) (by rw [← h1]; rfl)
  omega
theorem stands_none (t k : Nat) (s : List (List UInt8)) (h : ∀ b, b.length ≤ 40000 → s.head? ≠ some (partM t k b 0)) : standsM t k s = none := by
  unfold standsM
  cases hc : claimedM s with
  | none => rfl
  | some b =>
    simp only
    rw [if_neg]
    intro he
    have hb : b.length ≤ 40000 := by
      unfold claimedM at hc
      cases s with
      | nil => cases hc
      | cons x t' =>
        simp only at hc
        split at hc
        · cases hc
        · split at hc
          · cases hc
          · cases hc
            rw [List.length_take]
            omega
    have h0 : (partsM t k b).head? = some (partM t k b 0) := by
      have := sects_pos b.length
      unfold partsM
      rw [List.head?_map, List.head?_range, if_neg (by omega)]
      rfl
    rw [he, List.head?_take, if_neg (by have := sects_pos b.length; omega)] at h0
    exact h b hb h0
theorem stands_nought (t k : Nat) (s : List (List UInt8)) : standsM t k (nought :: s) = none := by
  refine stands_none t k _ fun b hb he => ?_
  simp only [List.head?_cons, Option.some.injEq] at he
  exact part_not_nought t k 0 (sects b.length) _ (sects_pos _) (by have := sects_most _ hb; omega) he.symm
theorem stands_nil (t k : Nat) : standsM t k [] = none := rfl
end Go.Proofs.Yteemdjamgbbjhaa.Wl

/-
  The contracts of the octet functions that make bytes.
-/
namespace Go.Proofs.Yteemdjamgbbjhaa.Oct
set_option maxRecDepth 100000
open Go.RowKit Go.Proofs.Yteemdjamgbbjhaa.Wd

theorem info5 : (Try.prog.info? 5).map (fun i => (i.zero, i.size, i.bytes)) = some (some (.int .u8 0), 1, 1) := by kernel_rfl

theorem size5 : (Try.prog.info? 5).map (·.size) = some 1 := by kernel_rfl

set_option maxHeartbeats 400000 in
theorem put_any (A : Option Addr) (l : List UInt8) (c n k : Nat) (x : Nat) (w : World) (h1 : n = l.length) (hm : n ≤ 140737488355328) (hk : 0 < k) (hk8 : k ≤ 8) (r : Bs w w.heap.size A l) :
    Calls Try.prog 93 #[.slice A n c, .int .u64 (x : Int), .int .i64 (k : Int)] w fun e w' =>
      ∃ g, e = .returned (.slice (some ⟨g, 0, none⟩) (n + k) (n + k)) ∧ w.heap.size ≤ g ∧ Row w' g 5 (bv (l ++ hi k x)) ∧ Below w.heap.size w w' := by
  have hmk : ∀ u : World, (Instr.makeSlice 37 (.int .i64 ((n : Int) + (k : Int))) (.int .i64 ((n : Int) + (k : Int)))).run Try.prog u = .ok (.slice (some ⟨u.heap.size, 0, none⟩) (n + k) (n + k)) (u.alloc (.cells (madeCells #[.int .u8 0] (n + k)) 5)) := fun u => by
    have := run_make_row' (P := Try.prog) 37 5 (.int .u8 0) 1 Try.underlying37 info5 rfl .i64 .i64 (n + k) (by omega) (by omega) u
    simpa using this
  have H1 := Lib.hid h1; clear h1
  go_enter Try.func93, Try.ntmps93
  go_wp2_with (refine wpList_copy_bs (o := ⟨some 16, _, _, _, _, _⟩) rfl (.tmp 14) (.tmp 15) 37 37 rfl 5 Try.underlying37 size5 w.heap.size 0 (n + k) (n + k) A l n c (by rfl) (by rfl) (by exact H1.out.symm) (List.replicate (n + k) (.int .u8 0)) 5 (by exact Row.made w _ _ _) w.heap.size (by exact r.alloc (Nat.le_refl _) _) (by omega) (by simp) ?_; intro w2 hr2 hg2)
  have hb2 : Below w.heap.size w w2 := ((Below.refl _ _).alloc (Nat.le_refl _) _).grown hg2 (by simp) (fun k hk => by simp at hk; omega)
  clear hg2
  go_loopw [1, 8] (fun x1 i wr => ∃ (j y : Nat) (q : Int), j ≤ k ∧ i = .int .i64 q ∧ x1 = .int .u64 (y : Int) ∧ Hid (q = (n : Int) + k - 1 - j) ∧ Hid (y = x / 256 ^ j) ∧ Row wr w.heap.size 5 (bv (l ++ List.replicate (k - j) 0 ++ hi j x)) ∧ Below w.heap.size w wr) (fun _ i _ => (intOf i + 1).toNat)
  case atStart =>
    refine ⟨0, x, (n : Int) + k - 1, by omega, rfl, rfl, (show _ = _ by simp), (show _ = _ by simp), ?_, hb2⟩
    have : splice (List.replicate (n + k) (Value.int .u8 0)) 0 (bv l) = bv (l ++ List.replicate (k - 0) 0 ++ hi 0 x) := by
      simp only [splice, hi, List.append_nil, bv_append, List.take_zero, List.nil_append, Nat.zero_add, bv_length, ← H1.out, Nat.sub_zero, ← bv_zero]
      rw [List.drop_replicate, Nat.add_sub_cancel_left]
    rw [← this]; exact hr2
  case round =>
    obtain ⟨j, y, q, hj, rfl, rfl, hq, hy, hrow, hbel⟩ := hrel
    clear hr2 hb2
    by_cases hlt : j < k
    · obtain ⟨p, hp⟩ : ∃ p : Nat, q = (p : Int) := ⟨q.toNat, by have := hq.out; omega⟩
      subst hp
      have hp1 : n ≤ p := by have := hq.out; omega
      have hp2 : p < n + k := by have := hq.out; omega
      have hpe : Hid (p = n + (k - j - 1)) := (show _ = _ by have := hq.out; omega)
      clear hq
      have hcell : wr.cell? ⟨w.heap.size, p, none⟩ = some (.int .u8 0) := by
        rw [hrow.cell, hpe.out]
        have e1 : (l ++ List.replicate (k - j) 0 ++ hi j x)[n + (k - j - 1)]? = some (0 : UInt8) := by
          rw [List.append_assoc, List.getElem?_append_right (by rw [← H1.out]; omega), ← H1.out, Nat.add_sub_cancel_left, List.getElem?_append_left (by simp; omega)]
          rw [List.getElem?_replicate, if_pos (by omega)]
        rw [show (bv (l ++ List.replicate (k - j) 0 ++ hi j x))[n + (k - j - 1)]? = ((l ++ List.replicate (k - j) 0 ++ hi j x)[n + (k - j - 1)]?).map (fun b => Value.int .u8 (b.toNat : Int)) from by simp only [bv, List.getElem?_map], e1]; rfl
      have hfr := hrow.frozen p
      go_wp2
      go_roundw
      case rel =>
        refine ⟨j + 1, y / 256, (p : Int) - 1, by omega, rfl, by simp, ?_, ?_, ?_, hbel.setCell (Nat.le_refl _) _⟩
        · show _ = _
          have := hpe.out; omega
        · show _ = _
          rw [hy.out, Nat.div_div_eq_div_mul, Nat.pow_succ]
        · have h3 := hrow.store p (.int .u8 ((y : Int) % 256))
          rw [bv_set, hpe.out, H1.out, show k - j = k - j - 1 + 1 from by omega, Nat.add_sub_cancel, set_mid, hy.out] at h3
          rw [hpe.out, H1.out, show k - (j + 1) = k - j - 1 from by omega, hy.out]
          exact h3
      case measure => simp [intOf]
    · obtain rfl : j = k := by omega
      have hq2 : q < (n : Int) := by have := hq.out; omega
      have hrow2 : Row wr w.heap.size 5 (bv (l ++ hi j x)) := by simpa using hrow
      clear hq
      go_wp2
      go_ret
      exact ⟨_, rfl, Nat.le_refl _, hrow2, hbel⟩

/-- what a function that makes a new row of bytes leaves -/
def Made (w : World) (l : List UInt8) (e : Ending) (w' : World) : Prop :=
  ∃ g n, e = .returned (.slice (some ⟨g, 0, none⟩) n n) ∧ Hid (l.length = n) ∧ w.heap.size ≤ g ∧ Row w' g 5 (bv l) ∧ Below w.heap.size w w'

theorem put_made (A : Option Addr) (l : List UInt8) (c n k : Nat) (x : Nat) (w : World) (h1 : n = l.length) (hm : n ≤ 140737488355328) (hk : 0 < k) (hk8 : k ≤ 8) (r : Bs w w.heap.size A l) :
    Calls Try.prog 93 #[.slice A n c, .int .u64 (x : Int), .int .i64 (k : Int)] w (Made w (l ++ hi k x)) := by
  refine (put_any A l c n k x w h1 hm hk hk8 r).mono ?_
  rintro e w' ⟨g, rfl, hg, hr, hb⟩
  exact ⟨g, n + k, rfl, (show _ = _ by rw [List.length_append, hi_length, h1]), hg, hr, hb⟩

theorem put16_any (A : Option Addr) (l : List UInt8) (c n : Nat) (x : Nat) (w : World) (h1 : n = l.length) (hm : n ≤ 140737488355328) (hx : (x : Int) < 65536) (r : Bs w w.heap.size A l) :
    Calls Try.prog 94 #[.slice A n c, .int .u16 (x : Int)] w (Made w (l ++ hi 2 x)) := by
  have HC := put_made A l c n 2 x w h1 hm (by omega) (by omega) r
  rw [show ((2 : Nat) : Int) = 2 from rfl] at HC
  have H := Lib.hid HC
  clear HC h1
  go_enter Try.func94, Try.ntmps94
  go_wp2_with fail
  refine (H.out).mono ?_
  rintro e w' ⟨g, m, rfl, hl, hq⟩
  go_wp2
  go_ret
  exact ⟨g, m, rfl, hl, hq⟩

theorem put32_any (A : Option Addr) (l : List UInt8) (c n : Nat) (x : Nat) (w : World) (h1 : n = l.length) (hm : n ≤ 140737488355328) (hx : (x : Int) < 4294967296) (r : Bs w w.heap.size A l) :
    Calls Try.prog 79 #[.slice A n c, .int .u32 (x : Int)] w (Made w (l ++ hi 4 x)) := by
  have HC := put_made A l c n 4 x w h1 hm (by omega) (by omega) r
  rw [show ((4 : Nat) : Int) = 4 from rfl] at HC
  have H := Lib.hid HC
  clear HC h1
  go_enter Try.func79, Try.ntmps79
  go_wp2_with fail
  refine (H.out).mono ?_
  rintro e w' ⟨g, m, rfl, hl, hq⟩
  go_wp2
  go_ret
  exact ⟨g, m, rfl, hl, hq⟩

end Go.Proofs.Yteemdjamgbbjhaa.Oct

/-
  The contracts of octet's Reader.
-/
namespace Go.Proofs.Yteemdjamgbbjhaa.Oct
set_option maxRecDepth 100000
open Go.RowKit Go.Proofs.Yteemdjamgbbjhaa.Wd

/-- block g is a Reader of l that stands at place at, with the error err -/
def Rdr (w : World) (g : Nat) (l : List UInt8) (at_ : Nat) (err : Int) : Prop :=
  ∃ A n c, Row w g 155 [.slice A n c, .int .i64 (at_ : Int), .int .i64 err] ∧ Hid (l.length = n) ∧ Bs w g A l ∧ at_ ≤ n ∧ n ≤ c ∧ c ≤ 9223372036854775807 ∧ (A = none → c = 0)

section
variable {w w' : World} {g : Nat} {l : List UInt8} {at_ : Nat} {err : Int}
theorem Rdr.lt (h : Rdr w g l at_ err) : g < w.heap.size := by obtain ⟨_, _, _, hr, _⟩ := h; exact hr.lt
theorem Rdr.keep (h : Rdr w g l at_ err) (hk : ∀ k, k ≤ g → w'.heap[k]? = w.heap[k]?) : Rdr w' g l at_ err := by
  obtain ⟨A, n, c, hr, hn, hb, h1⟩ := h
  exact ⟨A, n, c, (hk g (Nat.le_refl _)).trans hr, hn, hb.keep fun b o hlt => World.cell?_of_block (w := w) (hk b (by omega)), h1⟩
theorem Rdr.below {B : Nat} (h : Rdr w g l at_ err) (hb : Below B w w') (hg : g < B) : Rdr w' g l at_ err := h.keep fun k hk => hb.block k (by omega)
theorem Rdr.drewN (h : Rdr w g l at_ err) (n : Nat) : Rdr (w.drewN n) g l at_ err := h
theorem Rdr.grown {g' : Nat} (h : Rdr w g l at_ err) (hb : w.grownBy w' (some g')) (hg : g < g') : Rdr w' g l at_ err := h.keep fun k hk => hb.block k (by have := h.lt; omega) (by simp; omega)
end

theorem err_nil (w : World) : Calls Try.prog 106 #[.pointer none] w fun e w' => e = .returned (.int .i64 1) ∧ w = w' := by
  go_enter Try.func106, Try.ntmps106
  go_wp2
  go_ret
  exact ⟨rfl, rfl⟩

theorem err_any (g : Nat) (l : List UInt8) (at_ : Nat) (err : Int) (w : World) (h : Rdr w g l at_ err) :
    Calls Try.prog 106 #[.pointer (some ⟨g, 0, none⟩)] w fun e w' => e = .returned (.int .i64 err) ∧ w = w' := by
  obtain ⟨A, n, c, hr, hn, hb, h1, h2, h3, h4⟩ := h
  clear h4
  have hc2 : w.cell? ⟨g, 2, none⟩ = some (.int .i64 err) := hr.cell 2
  go_enter Try.func106, Try.ntmps106
  go_wp2
  go_ret
  exact ⟨rfl, rfl⟩

theorem left_nil (w : World) : Calls Try.prog 107 #[.pointer none] w fun e w' => e = .returned (.int .i64 0) ∧ Still w w' := by
  go_enter Try.func107, Try.ntmps107
  go_wp2
  go_ret
  exact ⟨rfl, Still.refl _⟩

theorem left_any (g : Nat) (l : List UInt8) (at_ n : Nat) (err : Int) (w : World) (h : Rdr w g l at_ err) (hl : l.length = n) :
    Calls Try.prog 107 #[.pointer (some ⟨g, 0, none⟩)] w fun e w' => e = .returned (.int .i64 ((n : Int) - (at_ : Int))) ∧ Still w w' := by
  obtain ⟨A, m, c, hr, hn, hb, h1, h2, h3, h4⟩ := h
  clear h4
  obtain rfl : n = m := by rw [← hl, hn.out]
  clear hl hn
  have hc0 : w.cell? ⟨g, 0, none⟩ = some (.slice A n c) := hr.cell 0
  have hc1 : w.cell? ⟨g, 1, none⟩ = some (.int .i64 (at_ : Int)) := hr.cell 1
  have hi1 : (at_ : Int) ≤ (n : Int) := by omega
  go_enter Try.func107, Try.ntmps107
  go_wp2
  go_quiet (fail)
  go_wp2
  go_ret
  exact ⟨rfl, _, rfl⟩

/-- one taking: what is taken, the place and the error behind it -/
def step (l : List UInt8) (at_ : Nat) (err n : Int) : List UInt8 × Nat × Int :=
  if err ≠ 0 then ([], at_, err) else if n < 0 then ([], at_, 2) else if ((l.length - at_ : Nat) : Int) < n then ([], at_, 7) else ((l.drop at_).take n.toNat, at_ + n.toNat, 0)

/-- what a taking leaves -/
def Took (w : World) (g : Nat) (l : List UInt8) (at_ : Nat) (err n : Int) (e : Ending) (w' : World) : Prop :=
  ∃ A m c, e = .returned (.slice A m c) ∧ Hid ((step l at_ err n).1.length = m) ∧ (A = none → c = 0) ∧ Bs w' g A (step l at_ err n).1 ∧ Rdr w' g l (step l at_ err n).2.1 (step l at_ err n).2.2 ∧ w.grownBy w' (some g)

theorem take_nil (n : Int) (w : World) : Calls Try.prog 105 #[.pointer none, .int .i64 n] w fun e w' => e = .returned (.slice none 0 0) ∧ Still w w' := by
  go_enter Try.func105, Try.ntmps105
  go_wp2_with fail
  refine (err_nil _).mono ?_
  rintro e w' ⟨rfl, rfl⟩
  go_wp2
  go_ret
  exact ⟨rfl, Still.refl _⟩

theorem take_err (g : Nat) (l : List UInt8) (at_ : Nat) (err n : Int) (w : World) (h : Rdr w g l at_ err) (he : err ≠ 0) :
    Calls Try.prog 105 #[.pointer (some ⟨g, 0, none⟩), .int .i64 n] w (Took w g l at_ err n) := by
  have hst : step l at_ err n = ([], at_, err) := by simp [step, he]
  unfold Took
  rw [hst]
  have hb : (err != 0) = true := by simpa using he
  clear hst
  go_enter Try.func105, Try.ntmps105
  go_wp2_with fail
  refine (err_any g l at_ err _ h).mono ?_
  rintro e w' ⟨rfl, rfl⟩
  go_wp2
  go_ret
  exact ⟨none, 0, 0, rfl, (show _ = _ from rfl), fun _ => rfl, Bs.nil _ _ _, h, World.grownBy.refl _ _⟩

theorem grown_store (w : World) (g i : Nat) (v : Value) : w.grownBy (w.setCell ⟨g, i, none⟩ v) (some g) :=
  ⟨rfl, rfl, rfl, by simp [World.setCell], fun k _ hne => Below.heap_setCell w _ v k (fun e => hne (by rw [e]))⟩
theorem grown_still {a w w' : World} {r : Option Nat} (h : a.grownBy w r) (hs : Still w w') : a.grownBy w' r := by
  obtain ⟨n, rfl⟩ := hs
  exact ⟨h.os, h.tape, h.output, h.size, h.block⟩
theorem grown_trans {a b c : World} {r : Option Nat} (h : a.grownBy b r) (k : b.grownBy c r) : a.grownBy c r :=
  ⟨k.os.trans h.os, k.tape.trans h.tape, k.output.trans h.output, Nat.le_trans h.size k.size, fun i hi hne => (k.block i (Nat.lt_of_lt_of_le hi h.size) hne).trans (h.block i hi hne)⟩

theorem Rdr.set1 {w : World} {g : Nat} {l : List UInt8} {a b : Nat} {e : Int} (h : Rdr w g l a e) (hb : b ≤ l.length) : Rdr (w.setCell ⟨g, 1, none⟩ (.int .i64 (b : Int))) g l b e := by
  obtain ⟨A, n, c, hr, hn, hbs, h1, h2, h3⟩ := h
  refine ⟨A, n, c, hr.store 1 _, hn, hbs.keep fun b' o hlt => ?_, by rw [← hn.out]; exact hb, h2, h3⟩
  exact World.cell?_of_block (w := w) (Below.heap_setCell w _ _ b' (by simp; omega))
theorem Rdr.set2 {w : World} {g : Nat} {l : List UInt8} {a : Nat} {e e' : Int} (h : Rdr w g l a e) : Rdr (w.setCell ⟨g, 2, none⟩ (.int .i64 e')) g l a e' := by
  obtain ⟨A, n, c, hr, hn, hbs, h1, h2, h3⟩ := h
  refine ⟨A, n, c, hr.store 2 _, hn, hbs.keep fun b' o hlt => ?_, h1, h2, h3⟩
  exact World.cell?_of_block (w := w) (Below.heap_setCell w _ _ b' (by simp; omega))

theorem take_neg (g : Nat) (l : List UInt8) (at_ : Nat) (n : Int) (w : World) (h : Rdr w g l at_ 0) (hn : n < 0) :
    Calls Try.prog 105 #[.pointer (some ⟨g, 0, none⟩), .int .i64 n] w (Took w g l at_ 0 n) := by
  have hst : step l at_ 0 n = ([], at_, 2) := by simp [step, hn]
  unfold Took
  rw [hst]
  clear hst
  have h0 := h
  obtain ⟨A, m, c, hr, hm, hb, h1, h2, h3, h4⟩ := h0
  clear h4
  have hc2 : w.cell? ⟨g, 2, none⟩ = some (.int .i64 0) := hr.cell 2
  have hf2 := hr.frozen 2
  go_enter Try.func105, Try.ntmps105
  go_wp2_with fail
  refine (err_any g l at_ 0 _ h).mono ?_
  rintro e w' ⟨rfl, rfl⟩
  go_wp2
  go_ret
  exact ⟨none, 0, 0, rfl, (show _ = _ from rfl), fun _ => rfl, Bs.nil _ _ _, h.set2, grown_store _ _ _ _⟩

theorem take_short (g : Nat) (l : List UInt8) (at_ : Nat) (n : Int) (w : World) (h : Rdr w g l at_ 0) (hn : 0 ≤ n) (hs : ((l.length - at_ : Nat) : Int) < n) :
    Calls Try.prog 105 #[.pointer (some ⟨g, 0, none⟩), .int .i64 n] w (Took w g l at_ 0 n) := by
  have hst : step l at_ 0 n = ([], at_, 7) := by
    have : ¬ n < 0 := by omega
    simp [step, this, hs]
  unfold Took
  rw [hst]
  clear hst
  have h0 := h
  obtain ⟨A, m, c, hr, hm, hb, h1, h2, h3, h4⟩ := h0
  clear h4
  have hc2 : ∀ k, (w.drewN k).cell? ⟨g, 2, none⟩ = some (.int .i64 0) := fun _ => hr.cell 2
  have hf2 : ∀ k, (w.drewN k).frozen? ⟨g, 2, none⟩ = false := fun _ => hr.frozen 2
  have hs' : (m : Int) - (at_ : Int) < n := by have := hm.out; omega
  clear hs
  go_enter Try.func105, Try.ntmps105
  go_wp2_with fail
  refine (err_any g l at_ 0 _ h).mono ?_
  rintro e w' ⟨rfl, rfl⟩
  go_wp2_with fail
  refine (left_any g l at_ m 0 _ h hm.out).mono ?_
  rintro e w' ⟨rfl, q, rfl⟩
  have hc2 := hc2 q
  have hf2 := hf2 q
  go_wp2
  go_ret
  exact ⟨none, 0, 0, rfl, (show _ = _ from rfl), fun _ => rfl, Bs.nil _ _ _, (h.drewN q).set2, grown_trans (grown_still (World.grownBy.refl _ _) ⟨q, rfl⟩) (grown_store _ _ _ _)⟩

set_option maxHeartbeats 400000 in
theorem take_some (g : Nat) (l : List UInt8) (at_ n : Nat) (w : World) (hR : Rdr w g l at_ 0) (hs : at_ + n ≤ l.length) :
    Calls Try.prog 105 #[.pointer (some ⟨g, 0, none⟩), .int .i64 (n : Int)] w (Took w g l at_ 0 (n : Int)) := by
  have hst : step l at_ 0 n = ((l.drop at_).take n, at_ + n, 0) := by
    have : ¬ (n : Int) < 0 := by omega
    have h2 : ¬ ((l.length - at_ : Nat) : Int) < n := by omega
    unfold step
    rw [if_neg (by simp), if_neg this, if_neg h2, Int.toNat_natCast]
  unfold Took
  rw [hst]
  clear hst
  have h0 := hR
  obtain ⟨A, m, c, hr, hm, hb, h1, h2, h3, h4⟩ := h0
  have H4 := Lib.hid h4
  clear h4
  have hs' : at_ + n ≤ m := by have := hm.out; omega
  have hs'' : (n : Int) ≤ (m : Int) - (at_ : Int) := by omega
  clear hs
  go_enter Try.func105, Try.ntmps105
  go_wp2_with fail
  refine (err_any g l at_ 0 _ hR).mono ?_
  rintro e w' ⟨rfl, rfl⟩
  go_wp2_with fail
  refine (left_any g l at_ m 0 _ hR hm.out).mono ?_
  rintro e w' ⟨rfl, q, rfl⟩
  have hr1 := hr.drewN q
  have hc0 : (w.drewN q).cell? ⟨g, 0, none⟩ = some (.slice A m c) := hr1.cell 0
  have hc1 : (w.drewN q).cell? ⟨g, 1, none⟩ = some (.int .i64 (at_ : Int)) := hr1.cell 1
  have hf1 := hr1.frozen 1
  have hr2 := hr1.store 1 (.int .i64 ((at_ : Int) + n))
  have hd0 : ((w.drewN q).setCell ⟨g, 1, none⟩ (.int .i64 ((at_ : Int) + n))).cell? ⟨g, 0, none⟩ = some (.slice A m c) := hr2.cell 0
  have hd1 : ((w.drewN q).setCell ⟨g, 1, none⟩ (.int .i64 ((at_ : Int) + n))).cell? ⟨g, 1, none⟩ = some (.int .i64 ((at_ : Int) + n)) := hr2.cell 1
  go_wp2
  go_quiet (fail)
  go_wp2
  all_goals go_ret
  · rename_i hca
    obtain rfl : n = 0 := by omega
    refine ⟨A, 0, 0, rfl, (show _ = _ by simp), fun _ => rfl, by simpa using Bs.nil _ _ _, ?_, ?_⟩
    · exact ((hR.drewN q).set1 (b := at_ + 0) (by rw [hm.out]; omega)).drewN _
    · exact grown_still (grown_trans (grown_still (World.grownBy.refl _ _) ⟨q, rfl⟩) (grown_store _ _ _ _)) ⟨_, rfl⟩
  · rename_i hca
    refine ⟨_, n, c - at_, rfl, (show _ = _ by have := hm.out; omega), fun hA => ?_, ?_, ?_, ?_⟩
    · have hA' : A = none := by simpa using hA
      have := H4.out hA'; omega
    · have h5 := ((hR.drewN q).set1 (b := at_ + n) (by rw [hm.out]; omega)).drewN nq
      refine (hb.cut at_ n (by rw [hm.out]; omega)).keep fun b o hlt => ?_
      exact World.cell?_of_block (w := w) (Below.heap_setCell (w.drewN q) _ _ b (by simp; omega))
    · exact ((hR.drewN q).set1 (b := at_ + n) (by rw [hm.out]; omega)).drewN _
    · exact grown_still (grown_trans (grown_still (World.grownBy.refl _ _) ⟨q, rfl⟩) (grown_store _ _ _ _)) ⟨_, rfl⟩

theorem take_any (g : Nat) (l : List UInt8) (at_ : Nat) (err n : Int) (w : World) (h : Rdr w g l at_ err) :
    Calls Try.prog 105 #[.pointer (some ⟨g, 0, none⟩), .int .i64 n] w (Took w g l at_ err n) := by
  by_cases he : err = 0
  · subst he
    by_cases hn : n < 0
    · exact take_neg g l at_ n w h hn
    · by_cases hs : ((l.length - at_ : Nat) : Int) < n
      · exact take_short g l at_ n w h (by omega) hs
      · obtain ⟨k, rfl⟩ := Int.eq_ofNat_of_zero_le (show 0 ≤ n by omega)
        have hle : at_ ≤ l.length := by obtain ⟨_, _, _, _, hm, _, h1, _⟩ := h; rw [hm.out]; exact h1
        exact take_some g l at_ k w h (by omega)
  · exact take_err g l at_ err n w h he
end Go.Proofs.Yteemdjamgbbjhaa.Oct

/-
  The contracts of the octet functions that only read bytes.
-/
namespace Go.Proofs.Yteemdjamgbbjhaa.Oct
set_option maxRecDepth 100000
open Go.RowKit Go.Proofs.Yteemdjamgbbjhaa.Wd

end Go.Proofs.Yteemdjamgbbjhaa.Oct

/-
  The contracts of octet's Reader: numbers, bytes, and how a Reader is made.
-/
namespace Go.Proofs.Yteemdjamgbbjhaa.Oct
set_option maxRecDepth 100000
open Go.RowKit Go.Proofs.Yteemdjamgbbjhaa.Wd

theorem number_nil (n : Int) (w : World) : Calls Try.prog 103 #[.pointer none, .int .i64 n] w fun e w' => e = .returned (.int .u64 0) ∧ Still w w' := by
  go_enter Try.func103, Try.ntmps103
  go_wp2_with fail
  refine (take_nil _ _).mono ?_
  rintro e w' ⟨rfl, q, rfl⟩
  go_wp2
  refine wp_loop_rounds 1 ?_
  rw [rounds_succ]
  go_wp2
  go_ret
  exact ⟨rfl, q, rfl⟩

theorem step_len (l : List UInt8) (at_ : Nat) (err n : Int) (k : Nat) (hn : n ≤ k) : (step l at_ err n).1.length ≤ k := by
  unfold step
  split
  · simp
  · split
    · simp
    · split
      · simp
      · simp; omega

def Numbered (w : World) (g : Nat) (l : List UInt8) (at_ : Nat) (err n : Int) (e : Ending) (w' : World) : Prop :=
  e = .returned (.int .u64 ((num (step l at_ err n).1 : Nat) : Int)) ∧ Rdr w' g l (step l at_ err n).2.1 (step l at_ err n).2.2 ∧ w.grownBy w' (some g)

set_option maxHeartbeats 400000 in
theorem number_any (g : Nat) (l : List UInt8) (at_ : Nat) (err n : Int) (w : World) (hR : Rdr w g l at_ err) (hn8 : n ≤ 8) :
    Calls Try.prog 103 #[.pointer (some ⟨g, 0, none⟩), .int .i64 n] w (Numbered w g l at_ err n) := by
  have hlen := step_len l at_ err n 8 hn8
  go_enter Try.func103, Try.ntmps103
  go_wp2_with fail
  refine (take_any g l at_ err n _ hR).mono ?_
  rintro e w1 ⟨A, m, c, rfl, hm, hA, hb, hR1, hg⟩
  clear hA
  have HP : Hid (∀ x : Nat, x = num (step l at_ err n).1 → Numbered w g l at_ err n (.returned (.int .u64 (x : Int))) w1) := fun x hx => ⟨by rw [hx], hR1, hg⟩
  clear hR1 hg
  generalize hs : (step l at_ err n).1 = t at hm hb hlen HP
  clear hs
  have hm8 : m ≤ 8 := by rw [← hm.out]; exact hlen
  clear hlen
  go_wp2
  go_loop [5, 12] (fun v i => ∃ k y : Nat, k ≤ m ∧ i = .int .i64 k ∧ v = .int .u64 (y : Int) ∧ Hid (y = num (t.take k))) (fun _ i => m - (intOf i).toNat)
  case atStart => exact ⟨0, 0, by omega, rfl, rfl, (show _ = _ by simp [num])⟩
  case round =>
    obtain ⟨k, y, hk, rfl, rfl, hy⟩ := hrel
    by_cases hlt : k < m
    · have hk' : k < t.length := by rw [hm.out]; exact hlt
      obtain ⟨b1, o1, rfl, hbb, hc1⟩ := hb (by omega)
      have hx1 := hc1 k hk'
      have HT : Hid (num (t.take (k + 1)) = y * 256 + (t.getD k 0).toNat) := (show _ = _ by
        rw [List.take_succ_eq_append_getElem hk', num_snoc, ← hy.out]; simp [hk'])
      have HL : Hid (y < 256 ^ k) := (show _ < _ by
        rw [hy.out]; have := num_lt (t.take k); rw [List.length_take, Nat.min_eq_left (by omega)] at this; exact this)
      clear hc1
      generalize t.getD k 0 = x at hx1 HT
      go_wp2
      go_round
      case rel =>
        refine ⟨k + 1, y * 256 + x.toNat, by omega, by go_num, ?_, HT.out.symm⟩
        rw [u64_shl_or y x k HL.out (by omega)]
      case measure => simp [intOf]; omega
    · obtain rfl : k = m := by omega
      have HQ : Hid (y = num t) := (show _ = _ by rw [hy.out, List.take_of_length_le (by rw [hm.out]; exact Nat.le_refl _)])
      clear hy
      go_wp2
      go_ret
      exact HP.out y HQ.out

theorem step_num_lt (l : List UInt8) (at_ : Nat) (err : Int) (n : Nat) : num (step l at_ err (n : Int)).1 < 256 ^ n :=
  Nat.lt_of_lt_of_le (num_lt _) (Nat.pow_le_pow_right (by omega) (step_len l at_ err n n (by omega)))

theorem u32_any (g : Nat) (l : List UInt8) (at_ : Nat) (err : Int) (w : World) (hR : Rdr w g l at_ err) :
    Calls Try.prog 97 #[.pointer (some ⟨g, 0, none⟩)] w fun e w' => e = .returned (.int .u32 ((num (step l at_ err 4).1 : Nat) : Int)) ∧ Rdr w' g l (step l at_ err 4).2.1 (step l at_ err 4).2.2 ∧ w.grownBy w' (some g) := by
  have HC := number_any g l at_ err 4 w hR (by omega)
  unfold Numbered at HC
  have hlt := step_num_lt l at_ err 4
  rw [show ((4 : Nat) : Int) = 4 from rfl] at hlt
  have hlt' : ((num (step l at_ err 4).1 : Nat) : Int) < 4294967296 := by omega
  clear hlt
  generalize num (step l at_ err 4).1 = x at HC hlt' ⊢
  have H := Lib.hid HC
  clear HC
  go_enter Try.func97, Try.ntmps97
  go_wp2_with fail
  refine H.out.mono ?_
  rintro e w' ⟨rfl, h1, h2⟩
  go_wp2
  go_ret
  exact ⟨rfl, h1, h2⟩

end Go.Proofs.Yteemdjamgbbjhaa.Oct

/-
  The contracts of octet.Read and of the statements' wakes.
-/
namespace Go.Proofs.Yteemdjamgbbjhaa.Oct
set_option maxRecDepth 100000
open Go.RowKit Go.Proofs.Yteemdjamgbbjhaa.Wd

/-- what Read leaves: a new Reader at the first byte -/
def ReadOf (w : World) (l : List UInt8) (e : Ending) (w' : World) : Prop :=
  ∃ g, e = .returned (.pointer (some ⟨g, 0, none⟩)) ∧ w.heap.size ≤ g ∧ Rdr w' g l 0 0 ∧ Below w.heap.size w w'

theorem read_any (A : Option Addr) (l : List UInt8) (n c : Nat) (w : World) (hl : l.length = n) (hn : n ≤ 140737488355328) (B : Nat) (hb : Bs w B A l) (hA : A = none → c = 0) :
    Calls Try.prog 96 #[.slice A n c] w (ReadOf w l) := by
  obtain ⟨i0, hi, hz0, hz1, hz2⟩ := info_parts info5
  have HL := Lib.hid hl
  have HA := Lib.hid hA
  clear hl hA
  go_enter Try.func96, Try.ntmps96
  go_wp2_with (at_builtin; refine wpList_append_bs rfl _ _ 37 rfl w.heap.size 5 i0 (.int .u8 0) Try.underlying37 hi hz0 hz1 hz2 rfl (.slice none 0 0) 0 [] rfl (World.ownsRow_nil _ _ _ _) A n c l rfl HL.out B hb HA.out (by omega) (Nat.le_refl _) ?_; intro v w2 hown2 hg2; obtain ⟨A2, c2, rfl, hl2, hn2, hc2, hA2, hbs2, _⟩ := own_bs (l := l) (by simpa using hown2); clear hown2; have HL2 := Lib.hid hl2; have HA2 := Lib.hid hA2; clear hl2 hA2)
  go_ret
  have hbel : Below w.heap.size w w2 := (Below.refl _ _).grown hg2 (Nat.le_refl _) (fun k hk => by cases hk)
  refine ⟨w2.heap.size, rfl, hbel.size, ⟨A2, n, c2, ?_, (show _ = _ from HL.out), hbs2.alloc (Nat.le_refl _) _, Nat.zero_le _, ?_, ?_, HA2.out⟩, hbel.alloc hbel.size _⟩
  · simpa using Row.new w2 155 [.slice A2 n c2, .int .i64 0, .int .i64 0]
  · omega
  · unfold maxLen at hc2; omega

theorem lit_bs (w : World) (l : List UInt8) (t : TypeId) : Bs (w.alloc (.cells (bv l).toArray t)) (w.heap.size + 1) (some ⟨w.heap.size, 0, none⟩) l :=
  (Row.new w t (bv l)).bs (by omega)

theorem below_still {B : Nat} {a w w' : World} (h : Below B a w) (hs : Still w w') : Below B a w' := by
  obtain ⟨n, rfl⟩ := hs
  exact ⟨h.os, h.tape, h.output, h.size, h.block⟩
end Go.Proofs.Yteemdjamgbbjhaa.Oct

/-
  The contracts of the sums' steps, and of sums of bytes.
-/
namespace Go.Proofs.Yteemdjamgbbjhaa.Sum
set_option maxRecDepth 100000
open Go.RowKit Go.Proofs.Yteemdjamgbbjhaa.Wd Go.Proofs.Yteemdjamgbbjhaa.Oct Go.Proofs.Yteemdjamgbbjhaa.Sm

theorem ones2 : ones 2 = 65535 := by decide
theorem ones4 : ones 4 = 4294967295 := by decide

theorem step32_any (s : Nat) (c : UInt8) (w : World) (hs : s < 4294967296) :
    Calls Try.prog 104 #[.int .u32 (s : Int), .int .u8 (c.toNat : Int), .int .u32 2197175160] w fun e w' => e = .returned (.int .u32 ((stp 2197175160 s c : Nat) : Int)) ∧ w = w' := by
  have hc : c.toNat < 256 := c.toNat_lt
  have hx := u32_xor_nat s c.toNat hs (by omega)
  have hxl : s ^^^ c.toNat < 4294967296 := Nat.xor_lt_two_pow (n := 32) hs (by omega)
  have hst : Hid (halves 2197175160 8 (s ^^^ c.toNat) = stp 2197175160 s c) := (show _ = _ from rfl)
  generalize hq : s ^^^ c.toNat = q at hx hxl hst
  clear hq
  have hwr : IntKind.u32.wrap (c.toNat : Int) = (c.toNat : Int) := by rw [IntKind.wrap_u32]; omega
  have HX := Lib.hid hx
  clear hx
  go_enter Try.func104, Try.ntmps104
  go_wp2
  clear hwr
  go_loop [0, 12] (fun x i => ∃ k y : Nat, k ≤ 8 ∧ y < 4294967296 ∧ i = .int .i64 k ∧ x = .int .u32 (y : Int) ∧ Hid (halves 2197175160 (8 - k) y = stp 2197175160 s c)) (fun _ i => 8 - (intOf i).toNat)
  case atStart => exact ⟨0, q, by omega, hxl, rfl, by simp only [HX.out], hst⟩
  case round =>
    obtain ⟨k, y, hk, hy, rfl, rfl, hr⟩ := hrel
    by_cases hlt : k < 8
    · have ha := u32_and_nat y 1 hy (by omega)
      rw [Nat.and_one_is_mod] at ha
      rw [show 8 - k = 8 - (k + 1) + 1 from by omega, halves] at hr
      by_cases hodd : y % 2 = 1
      · rw [hodd] at ha
        have h1 : bits .and .u32 (y : Int) 1 = 1 := ha
        clear ha
        go_wp2
        go_round
        case rel =>
          have e := u32_xor_nat (y / 2) 2197175160 (by omega) (by omega)
          refine ⟨k + 1, half 2197175160 y, by omega, half_lt (k := 32) (by decide) hy, by go_num, ?_, hr⟩
          rw [half_odd hodd, ← e]
          simp
        case measure => simp [intOf]; omega
      · have h0 : y % 2 = 0 := by omega
        rw [h0] at ha
        have h1 : bits .and .u32 (y : Int) 1 = 0 := ha
        clear ha hodd
        go_wp2
        go_round
        case rel =>
          refine ⟨k + 1, half 2197175160 y, by omega, half_lt (k := 32) (by decide) hy, by go_num, ?_, hr⟩
          rw [half_even h0]
          simp
        case measure => simp [intOf]; omega
    · obtain rfl : k = 8 := by omega
      go_wp2
      go_ret
      exact ⟨by rw [← hr.out]; rfl, rfl⟩

theorem sum32_any (A : Option Addr) (l : List UInt8) (c n : Nat) (w : World) (h1 : l.length = n) (hm : n ≤ maxLen) (B : Nat) (r : Bs w B A l) :
    Calls Try.prog 101 #[.slice A n c, .int .u32 2197175160] w fun e w' => e = .returned (.int .u32 ((sm 2197175160 4 l : Nat) : Int)) ∧ w = w' := by
  unfold maxLen at hm
  have H1 := Lib.hid h1; clear h1
  go_enter Try.func101, Try.ntmps101
  go_wp2
  go_loop [5, 12] (fun x i => ∃ k y : Nat, k ≤ n ∧ y < 4294967296 ∧ i = .int .i64 k ∧ x = .int .u32 (y : Int) ∧ Hid (tot 2197175160 (ones 4) (l.take k) = y)) (fun _ i => n - (intOf i).toNat)
  case atStart => exact ⟨0, ones 4, by omega, by decide, rfl, by simp [ones4]; try rfl, (show _ = _ by simp [tot])⟩
  case round =>
    obtain ⟨k, y, hk, hy, rfl, rfl, hr⟩ := hrel
    by_cases hlt : k < n
    · have hk' : k < l.length := by rw [H1.out]; exact hlt
      obtain ⟨b1, o1, rfl, hb1, hc1⟩ := r (by omega)
      have hx1 := hc1 k hk'
      have HT := Lib.hid (tot_take 2197175160 (ones 4) l k hk')
      clear hc1
      generalize l.getD k 0 = x at hx1 HT
      have HS := Lib.hid (step32_any y x w hy)
      go_wp2_with fail
      refine (HS.out).mono ?_
      rintro e w1 ⟨rfl, rfl⟩
      have hlt2 : stp 2197175160 y x < 4294967296 := stp_lt (k := 32) (by decide) (by omega) hy x
      have HQ : Hid (tot 2197175160 (ones 4) (l.take (k + 1)) = stp 2197175160 y x) := (show _ = _ by rw [← HT.out, hr.out])
      clear HT HS
      generalize stp 2197175160 y x = z at hlt2 HQ
      go_wp2
      go_round
      case rel => exact ⟨k + 1, z, by omega, hlt2, by go_num, rfl, HQ⟩
      case measure => simp [intOf]; omega
    · obtain rfl : k = n := by omega
      have HR : Hid (tot 2197175160 (ones 4) l = y) := (show _ = _ by rw [← hr.out, List.take_of_length_le (by rw [H1.out]; exact Nat.le_refl _)])
      clear hr
      go_wp2
      go_ret
      refine ⟨ret_int ?_, rfl⟩
      have hx := u32_xor_nat (ones 4) y (by decide) hy
      rw [show IntKind.u32.max = ((ones 4 : Nat) : Int) from by decide, hx, Nat.xor_comm, ← HR.out]
      rfl

theorem Sum32_any (A : Option Addr) (l : List UInt8) (c n : Nat) (w : World) (h1 : l.length = n) (hm : n ≤ maxLen) (B : Nat) (r : Bs w B A l) :
    Calls Try.prog 91 #[.slice A n c] w fun e w' => e = .returned (.int .u32 ((sm 2197175160 4 l : Nat) : Int)) ∧ w = w' := by
  have HC := Lib.hid (sum32_any A l c n w h1 hm B r)
  clear h1
  go_enter Try.func91, Try.ntmps91
  go_wp2_with fail
  refine (HC.out).mono ?_
  rintro e w1 ⟨rfl, rfl⟩
  go_wp2
  go_ret
  exact ⟨rfl, rfl⟩
end Go.Proofs.Yteemdjamgbbjhaa.Sum

/-
  The log's small calls, by their contracts.
-/
namespace Go.Proofs.Yteemdjamgbbjhaa.Wl
set_option maxRecDepth 100000
open Go.RowKit Go.Proofs.Yteemdjamgbbjhaa.Wd Go.Proofs.Yteemdjamgbbjhaa.Dsk Go.Proofs.Yteemdjamgbbjhaa.Oct Go.Proofs.Yteemdjamgbbjhaa.Sum

/-- a world is given a name -/
theorem nw {P : Program} {c : Code} {Q : Exit → Act → World → Prop} {a : Act} {W : World} (h : ∀ w1, W = w1 → c.wp P Q a w1) : c.wp P Q a W := h W rfl
theorem nwl {P : Program} {ops : Array Oper} {rest : List Oper} {Q : Exit → Act → World → Prop} {a : Act} {W : World} (h : ∀ w1, W = w1 → wpList P ops Q rest a w1) : wpList P ops Q rest a W := h W rfl
/-- a whole variable is written -/
theorem wp_store_whole {P : Program} {op : Oper} {a : Act} {w : World} {K : Act → World → Prop} {Q : Exit → Act → World → Prop} (ty : TypeId) (x y : Operand) (ho : op.op = .store ty x y)
    (g : Nat) (cs : List Value) (hx : a.eval x = .pointer (some ⟨g, 0, none⟩)) (hy : a.eval y = .agg cs.toArray) (t : TypeId) (old : List Value) (hr : Row w g t old) (hl : cs.length = old.length) (h1 : ∀ v ∈ cs, v.oneCell' = true) (hi : (P.info? ty).map (·.size) = some cs.length)
    (h : ∀ w', Row w' g t cs → w.grownBy w' (some g) → K (a.put op.dst undef) w') : op.wp P a w K Q := by
  refine wp_store_mid ty x y ho g 0 cs.toArray hx hy (by rw [List.size_toArray]; exact Row.there hr (by omega)) (by rw [List.size_toArray]; exact hi) (all_oneCell_toArray h1) (h _ ?_ (grown_setCells g cs 0 w))
  have := Row.setCells cs 0 old w hr (by omega)
  rwa [splice_all old cs hl.symm] at this
theorem wpList_store_whole {P : Program} {ops : Array Oper} {rest : List Oper} {op : Oper} {a : Act} {w : World} {Q : Exit → Act → World → Prop} (hw : Region.wanted op (yielded ops a.tmps) = true) (ty : TypeId) (x y : Operand) (ho : op.op = .store ty x y)
    (g : Nat) (cs : List Value) (hx : a.eval x = .pointer (some ⟨g, 0, none⟩)) (hy : a.eval y = .agg cs.toArray) (t : TypeId) (old : List Value) (hr : Row w g t old) (hl : cs.length = old.length) (h1 : ∀ v ∈ cs, v.oneCell' = true) (hi : (P.info? ty).map (·.size) = some cs.length)
    (h : ∀ w', Row w' g t cs → w.grownBy w' (some g) → wpList P ops Q rest (a.put op.dst undef) w') : wpList P ops Q (op :: rest) a w :=
  wpList_wanted hw fun _ hK => wp_store_whole ty x y ho g cs hx hy t old hr hl h1 hi fun w' h2 h3 => hK _ _ (h w' h2 h3)
/-- a variable is read whole -/
theorem wpList_load_row {P : Program} {ops : Array Oper} {rest : List Oper} {op : Oper} {a : Act} {w : World} {Q : Exit → Act → World → Prop} (hw : Region.wanted op (yielded ops a.tmps) = true) (ty : TypeId) (x : Operand) (ho : op.op = .load ty x)
    (b o : Nat) (hx : a.eval x = .pointer (some ⟨b, o, none⟩)) (cs : List Value) (d : TypeDesc) (hc : w.rangeAt b o cs) (hu : P.underlying ty = some d) (hd : d.isRow = true) (hi : (P.info? ty).map (·.size) = some cs.length)
    (h : wpList P ops Q rest (a.put op.dst (.agg cs.toArray)) w) : wpList P ops Q (op :: rest) a w :=
  wpList_wanted hw fun _ hK => wp_load_mid ty x ho b o hx cs d hc hu hd hi (hK _ _ h)
theorem Row.all {w : World} {g : Nat} {t : TypeId} {cs : List Value} (h : Row w g t cs) : w.rangeAt g 0 cs := Row.range h fun j v hj => by simpa using hj
theorem bs_range {w : World} {B b o : Nat} {l : List UInt8} (h : Bs w B (some ⟨b, o, none⟩) l) : w.rangeAt b o (bv l) := fun j v hj => by
  have hj2 : j < l.length := by simpa [bv_length] using (List.getElem?_eq_some_iff.1 hj).1
  obtain ⟨b', o', e, _, hc⟩ := h (by omega)
  cases e
  rw [hc j hj2, ← hj]
  simp [bv, hj2]
/-- a frame's cells, a chain's, a log's -/
def fcs (turn num : Nat) (A : Option Addr) (n c : Nat) : List Value := [.int .u32 (turn : Int), .int .u32 (num : Int), .slice A n c]
def ccs (turn : Nat) (A : Option Addr) (n c used : Nat) : List Value := [.int .u32 (turn : Int), .slice A n c, .int .i64 (used : Int)]
def wcs (dg area turn : Nat) (A : Option Addr) (n c used : Nat) (br : Bool) : List Value :=
  [.pointer (some ⟨dg, 0, none⟩), .int .i64 (area : Int), .int .u32 (turn : Int), .slice A n c, .int .i64 (used : Int), .bool br]
def hcs (turn area : Nat) : List Value := [.int .u32 (turn : Int), .int .u32 (area : Int)]

theorem sectors_any (n : Nat) (w : World) (h : n ≤ 40000) : Calls Try.prog 10 #[.int .i64 (n : Int)] w fun e w' => e = .returned (.int .i64 (sects n : Int)) ∧ w = w' := by
  have h0 : ¬ ((n : Int) < 0) := by omega
  have h1 : ¬ ((40000 : Int) < (n : Int)) := by omega
  have h2 : wrap64 (4 + (n : Int)) = 4 + n := by unfold wrap64; omega
  have h3 : wrap64 (4 + (n : Int) + 48) = 52 + n := by unfold wrap64; omega
  have h4 : wrap64 (52 + (n : Int) - 1) = 51 + n := by unfold wrap64; omega
  go_enter Try.func10, Try.ntmps10
  go_wp2
  go_ret
  exact ⟨ret_int (by unfold sects; omega), rfl⟩
theorem needed_any (n : Nat) (w : World) (h : n ≤ 1000) : Calls Try.prog 44 #[.int .i64 (n : Int)] w fun e w' => e = .returned (.int .i64 (2 + 2 * n : Nat)) ∧ w = w' := by
  have h2 : wrap64 (2 * (n : Int)) = 2 * n := by unfold wrap64; omega
  have h3 : wrap64 (2 + 2 * (n : Int)) = 2 + 2 * n := by unfold wrap64; omega
  go_enter Try.func44, Try.ntmps44
  go_wp2
  go_ret
  exact ⟨by simp, rfl⟩
theorem first_any (g dg area turn used n c : Nat) (A : Option Addr) (br : Bool) (t : Nat) (w : World) (h : Row w g 83 (wcs dg area turn A n c used br)) (ha : area ≤ 1000) (ht : t < 4294967296) :
    Calls Try.prog 62 #[.pointer (some ⟨g, 0, none⟩), .int .u32 (t : Int)] w fun e w' => e = .returned (.int .i64 (2 + t % 2 * area : Nat)) ∧ w = w' := by
  have c1 : w.cell? ⟨g, 1, none⟩ = some (.int .i64 (area : Int)) := h.cell 1
  have h0 : ((t % 2 * area : Nat) : Int) = (t : Int) % 2 * (area : Int) := by simp
  have h1 : t % 2 * area ≤ 1000 := by
    rcases Nat.mod_two_eq_zero_or_one t with e | e <;> rw [e] <;> omega
  go_enter Try.func62, Try.ntmps62
  go_wp2
  go_ret
  exact ⟨ret_int (by simp), rfl⟩
theorem refuses_nil (A : Option Addr) (n c : Nat) (w : World) : Calls Try.prog 55 #[.pointer none, .slice A n c] w fun e w' => e = .returned (.int .i64 1) ∧ w = w' := by
  go_enter Try.func55, Try.ntmps55
  go_wp2
  go_ret
  exact ⟨rfl, rfl⟩
theorem refuses_any (g dg area turn used n c : Nat) (A : Option Addr) (br : Bool) (A2 : Option Addr) (n2 c2 : Nat) (w : World) (h : Row w g 83 (wcs dg area turn A n c used br)) :
    Calls Try.prog 55 #[.pointer (some ⟨g, 0, none⟩), .slice A2 n2 c2] w fun e w' => e = .returned (.int .i64 (if 40000 < n2 then 3 else if br then 8 else 0)) ∧ w = w' := by
  have c5 : w.cell? ⟨g, 5, none⟩ = some (.bool br) := h.cell 5
  by_cases hl : 40000 < n2
  · have h1 : (40000 : Int) < (n2 : Int) := by omega
    go_enter Try.func55, Try.ntmps55
    go_wp2
    go_ret
    exact ⟨rfl, rfl⟩
  · have h1 : ¬ (40000 : Int) < (n2 : Int) := by omega
    rw [if_neg hl]
    cases br with
    | true =>
      go_enter Try.func55, Try.ntmps55
      go_wp2
      go_ret
      exact ⟨rfl, rfl⟩
    | false =>
      go_enter Try.func55, Try.ntmps55
      go_wp2
      go_ret
      exact ⟨rfl, rfl⟩
theorem parts_any (t k : Nat) (A : Option Addr) (n c : Nat) (w : World) : Calls Try.prog 58 #[.agg (fcs t k A n c).toArray] w fun e w' => e = .returned (.func (.func 78) #[] #[.pointer (some ⟨w.heap.size, 0, none⟩)]) ∧ w' = w.alloc (.cells (fcs t k A n c).toArray 101) := by
  go_enter Try.func58, Try.ntmps58
  go_wp2
  go_ret
  exact ⟨rfl, rfl⟩
theorem sall_any (A : Option Addr) (n c : Nat) (w : World) : Calls Try.prog 46 #[.slice A n c] w fun e w' => e = .returned (.func (.func 71) #[] #[.pointer (some ⟨w.heap.size, 0, none⟩)]) ∧ w' = w.alloc (.cells #[.slice A n c] 72) := by
  go_enter Try.func46, Try.ntmps46
  go_wp2
  go_ret
  exact ⟨rfl, rfl⟩
theorem nfor_any (A : Option Addr) (n c : Nat) (w : World) : Calls Try.prog 86 #[.slice A n c] w fun e w' => e = .returned (.func (.func 99) #[] #[.pointer (some ⟨w.heap.size, 0, none⟩)]) ∧ w' = w.alloc (.cells #[.slice A n c] 72) := by
  go_enter Try.func86, Try.ntmps86
  go_wp2
  go_ret
  exact ⟨rfl, rfl⟩
/-- a slice of bytes below B -/
structure Sl (w : World) (B : Nat) (A : Option Addr) (n c : Nat) (l : List UInt8) : Prop where
  len : l.length = n
  cap : n ≤ c
  most : c ≤ maxLen
  nil : A = none → c = 0
  bs : Bs w B A l
theorem Sl.below {w w' : World} {B : Nat} {A : Option Addr} {n c : Nat} {l : List UInt8} (h : Sl w B A n c l) (hb : Below B w w') : Sl w' B A n c l := ⟨h.len, h.cap, h.most, h.nil, h.bs.below hb⟩
theorem Sl.more {w : World} {B B' : Nat} {A : Option Addr} {n c : Nat} {l : List UInt8} (h : Sl w B A n c l) (hb : B ≤ B') : Sl w B' A n c l := ⟨h.len, h.cap, h.most, h.nil, h.bs.more hb⟩
theorem Sl.nil_ (w : World) (B : Nat) : Sl w B none 0 0 [] := ⟨rfl, Nat.le_refl _, Nat.zero_le _, fun _ => rfl, Bs.nil _ _ _⟩
/-- a slice that a call made -/
def MadeSl (w : World) (n : Nat) (l : List UInt8) (e : Ending) (w' : World) : Prop :=
  ∃ A c, e = .returned (.slice A n c) ∧ Sl w' w'.heap.size A n c l ∧ (∀ k, (Value.slice A n c).ownBlock = some k → w.heap.size ≤ k) ∧ Below w.heap.size w w'
theorem clone_any (A : Option Addr) (l : List UInt8) (c n : Nat) (w : World) (h : Sl w w.heap.size A n c l) (hm : n ≤ 140737488355328) :
    Calls Try.prog 66 #[.slice A n c] w (MadeSl w n l) := by
  have q37 : ∀ (w : World) (a : Option Addr) (n c n' c' : Nat), (binOp .eql 37 (.slice a n c) (.slice none n' c')).run Try.prog w = .ok (.bool a.isNone) w := fun w a n c n' c' => Lib.run_eql_slice_nil w _ _ a n c n' c' Try.underlying37
  have HH := Lib.hid h
  obtain ⟨hl, hc, hcm, hA, hb⟩ := h
  obtain ⟨i0, hi, hz0, hz1, hz2⟩ := info_parts info5
  cases A with
  | none =>
    obtain rfl := hA rfl
    obtain rfl : n = 0 := by omega
    clear hl hA hb hc hcm
    go_enter Try.func66, Try.ntmps66
    go_wp2
    go_ret
    exact ⟨none, 0, rfl, HH.out, (fun k hk => by cases hk), Below.refl _ _⟩
  | some a =>
    have HL := Lib.hid hl
    clear hl
    go_enter Try.func66, Try.ntmps66
    go_wp2_with (at_builtin; refine wpList_append_bs rfl _ _ 37 rfl w.heap.size 5 i0 (.int .u8 0) Try.underlying37 hi hz0 hz1 hz2 rfl (.slice (some ⟨w.heap.size, 0, none⟩) 0 0) 0 [] rfl ?own (some a) n c l rfl HL.out w.heap.size (hb.alloc (Nat.le_refl _) _) hA (by omega) (by simp) ?_)
    case own => exact World.ownsRow_made w #[] 0 (Nat.le_refl _) (Nat.zero_le _) rfl
    intro v w2 hown2 hg2
    obtain ⟨A2, c2, rfl, hl2, hn2, hc2, hA2, hbs2, hk2⟩ := own_bs (l := l) (by simpa using hown2)
    go_wp2
    go_ret
    refine ⟨A2, c2, by simp, ⟨?_, ?_, hc2, hA2, hbs2⟩, ?_, ((Below.refl _ w).alloc (Nat.le_refl _) _).grown hg2 (by simp) (by intro k hk; simp [Value.ownBlock] at hk; omega)⟩
    · exact HL.out
    · omega
    · intro k hk
      refine hk2 k ?_
      simpa [Value.ownBlock] using hk
end Go.Proofs.Yteemdjamgbbjhaa.Wl

/-
  slices.Grow and slices.Concat, of bytes.
-/
namespace Go.Proofs.Yteemdjamgbbjhaa.Wl
set_option maxRecDepth 100000
open Go.RowKit Go.Proofs.Yteemdjamgbbjhaa.Wd Go.Proofs.Yteemdjamgbbjhaa.Dsk Go.Proofs.Yteemdjamgbbjhaa.Oct Go.Proofs.Yteemdjamgbbjhaa.Sum

theorem grow_nil (n : Nat) (w : World) (h0 : 0 < n) (hm : n ≤ 100000) : Calls Try.prog 102 #[.slice none 0 0, .int .i64 (n : Int)] w fun e w' =>
    ∃ v, e = .returned v ∧ w'.ownsRow w.heap.size 5 1 v 0 [] ∧ (∀ A m c, v = .slice A m c → m = 0) ∧ Below w.heap.size w w' := by
  obtain ⟨i0, hi, hz0, hz1, hz2⟩ := info_parts info5
  have h1 : ¬ ((n : Int) < 0) := by omega
  have h4 : (n : Int) > 0 := by omega
  have hold : (Builtin.firstCells i0.size 0 (.slice none 0 0)).run Try.prog w.drew = .ok #[] w.drew := run_firstCells_none w.drew i0.size 0 0 0
  have hrz : ∀ ty, (Builtin.append_ #[37, 3] ty #[.slice none 0 0, .int .i64 (n : Int)]).run Try.prog w = .ok (.slice (some ⟨w.heap.size, 0, none⟩) (0 + n) (grownCap w (0 + n) 0 5)) (w.drew.alloc (.cells (#[] ++ Builtin.zeroCells (Value.int .u8 0).cells n ++ Builtin.zeroCells (Value.int .u8 0).cells (grownCap w (0 + n) 0 5 - (0 + n))) 5)) := fun ty =>
    Lib.run_append_grow_zeros w 37 3 ty 5 i0 (.int .u8 0) .i64 .i64 Try.underlying37 Try.underlying3 hi hz0 none 0 0 [] hold n h0 (by omega) (by omega) (by omega) (by rw [hz2]; omega) (growslice_fits (by omega) (by rw [hz2]; omega))
  have hGn : n ≤ grownCap w n 0 5 := grownCap_ge w _ _ _
  rw [Nat.zero_add] at hrz
  obtain ⟨G, hG⟩ : ∃ G, G = grownCap w n 0 5 := ⟨_, rfl⟩
  rw [← hG] at hrz hGn
  have hGm : G ≤ maxLen := by rw [hG]; exact grownCap_le_maxLen w n 0 5 (by unfold maxLen; omega)
  have hG63 : (G : Int) ≤ 9223372036854775807 := by unfold maxLen at hGm; omega
  have h5 : ¬ ((G : Int) < 0) := by omega
  have HG := Lib.hid hG
  clear hold hG
  go_enter Try.func102, Try.ntmps102
  go_wp2_with (at_builtin; refine Lib.wpList_append_run _ rfl _ _ _ _ rfl _ _ rfl rfl _ _ (hrz _) ?_)
  go_ret
  refine ⟨_, rfl, ⟨by simp, .inr ⟨w.heap.size, G, _, rfl, Nat.le_refl _, heap_alloc_new _ _, Nat.zero_le _, hGm, ?_, by simp⟩⟩, ?_, (Below.refl _ _).drew.alloc (Nat.le_refl _) _⟩
  · simp [Builtin.zeroCells]
    omega
  · rintro A m c ⟨⟩
    rfl
/-- two slices of bytes side by side -/
theorem concat_two (A1 A2 : Option Addr) (n1 c1 n2 c2 : Nat) (l1 l2 : List UInt8) (g : Nat) (w : World) (hr : Row w g 37 [.slice A1 n1 c1, .slice A2 n2 c2]) (h1 : Sl w w.heap.size A1 n1 c1 l1) (h2 : Sl w w.heap.size A2 n2 c2 l2) (hp : 0 < n1 + n2) (hm : n1 + n2 ≤ 100000) :
    Calls Try.prog 95 #[.slice (some ⟨g, 0, none⟩) 2 2] w (MadeSl w (n1 + n2) (l1 ++ l2)) := by
  obtain ⟨i0, hi, hz0, hz1, hz2⟩ := info_parts info5
  have e0 : w.cell? ⟨g, 0, none⟩ = some (.slice A1 n1 c1) := hr.cell 0
  have e1 : w.cell? ⟨g, 1, none⟩ = some (.slice A2 n2 c2) := hr.cell 1
  have HR := Lib.hid hr
  have H1 := Lib.hid h1
  have H2 := Lib.hid h2
  have e2 : ((n1 + n2 : Nat) : Int) = (n1 : Int) + n2 := by omega
  clear hr h1 h2
  go_enter Try.func95, Try.ntmps95
  go_wp2_with fail
  go_loopw [3, 11] (fun s i wr => ∃ k : Nat, k ≤ 2 ∧ i = .int .i64 (k : Int) ∧ s = .int .i64 ((if k = 0 then 0 else if k = 1 then n1 else n1 + n2 : Nat) : Int) ∧ w = wr) (fun _ i _ => 2 - (intOf i).toNat)
  case atStart => exact ⟨0, by omega, rfl, rfl, rfl⟩
  case round =>
    obtain ⟨k, hk, rfl, rfl, rfl⟩ := hrel
    have hc : k = 0 ∨ k = 1 ∨ k = 2 := by omega
    rcases hc with rfl | rfl | rfl
    · go_wp2
      exact ⟨⟨1, by omega, rfl, by simp, by simp⟩, by decide⟩
    · have h9 : wrap64 ((n1 : Int) + (n2 : Int)) = n1 + n2 := by unfold wrap64; omega
      have h10 : ¬ (((n1 : Int) + (n2 : Int)) < 0) := by omega
      go_wp2
      exact ⟨⟨2, by omega, rfl, by simp, by simp⟩, by decide⟩
    · go_wp2_with fail
      refine (grow_nil (n1 + n2) w hp hm).mono ?_
      rintro e w1 ⟨v, rfl, hown, hv0, hb1⟩
      have HO := Lib.hid hown
      have HB1 := Lib.hid hb1
      clear hown hb1
      go_wp2_with fail
      go_loopw [6, 27] (fun s i wr => ∃ k : Nat, k ≤ 2 ∧ i = .int .i64 (k : Int) ∧ Hid (wr.ownsRow w.heap.size 5 1 s (if k = 0 then 0 else if k = 1 then n1 else n1 + n2) (bv (if k = 0 then [] else if k = 1 then l1 else l1 ++ l2))) ∧ Hid (Below w.heap.size w wr)) (fun _ i _ => 2 - (intOf i).toNat)
      case atStart => exact ⟨0, by omega, rfl, HO.out, HB1.out⟩
      case round =>
        obtain ⟨k, hk, rfl, HO2, HB2⟩ := hrel
        have hc : k = 0 ∨ k = 1 ∨ k = 2 := by omega
        rcases hc with rfl | rfl | rfl
        · have hown := HO2.out
          simp only [if_true, if_pos] at hown
          have f0 : wr.cell? ⟨g, 0, none⟩ = some (.slice A1 n1 c1) := (HB2.out.cell (p := ⟨g, 0, none⟩) HR.out.lt).trans e0
          have S1 := Lib.hid (H1.out.below HB2.out)
          have HS := Lib.hid HB2.out.size
          have HO3 := Lib.hid hown
          clear hown HO2
          go_wp2_with (at_builtin; refine wpList_append_bs rfl _ _ 37 rfl w.heap.size 5 i0 (.int .u8 0) Try.underlying37 hi hz0 hz1 hz2 rfl _ 0 [] rfl HO3.out A1 n1 c1 l1 rfl S1.out.len w.heap.size S1.out.bs S1.out.nil (by omega) HS.out ?_)
          intro v' w2 hown2 hg2
          have HO4 := Lib.hid hown2
          have HB4 := Lib.hid (HB2.out.grown hg2 HS.out (fun j hj => by rcases HO3.out with ⟨_, ⟨hv, _⟩ | ⟨g', cap, cur, hv, hb, _⟩⟩ <;> rw [hv] at hj <;> cases hj; exact hb))
          clear hown2 hg2
          go_wp2
          exact ⟨⟨1, by omega, rfl, by simpa using HO4, HB4⟩, by decide⟩
        · have hown := HO2.out
          simp only [if_true, if_pos, Nat.one_ne_zero, if_false] at hown
          have f0 : wr.cell? ⟨g, 1, none⟩ = some (.slice A2 n2 c2) := (HB2.out.cell (p := ⟨g, 1, none⟩) HR.out.lt).trans e1
          have S1 := Lib.hid (H2.out.below HB2.out)
          have HS := Lib.hid HB2.out.size
          have HO3 := Lib.hid hown
          clear hown HO2
          go_wp2_with (at_builtin; refine wpList_append_bs rfl _ _ 37 rfl w.heap.size 5 i0 (.int .u8 0) Try.underlying37 hi hz0 hz1 hz2 rfl _ n1 (bv l1) rfl HO3.out A2 n2 c2 l2 rfl S1.out.len w.heap.size S1.out.bs S1.out.nil (by omega) HS.out ?_)
          intro v' w2 hown2 hg2
          have HO4 := Lib.hid hown2
          have HB4 := Lib.hid (HB2.out.grown hg2 HS.out (fun j hj => by rcases HO3.out with ⟨_, ⟨hv, _⟩ | ⟨g', cap, cur, hv, hb, _⟩⟩ <;> rw [hv] at hj <;> cases hj; exact hb))
          clear hown2 hg2
          go_wp2
          exact ⟨⟨2, by omega, rfl, by simpa [bv_append] using HO4, HB4⟩, by decide⟩
        · have hown := HO2.out
          rw [if_neg (show ¬ 2 = 0 by omega), if_neg (show ¬ 2 = 1 by omega), if_neg (show ¬ 2 = 0 by omega), if_neg (show ¬ 2 = 1 by omega)] at hown
          obtain ⟨A, c, rfl, hl, hn, hc, hA, hbs, hk2⟩ := own_bs hown
          have HL := Lib.hid hl
          clear hown hl
          go_wp2
          go_ret
          exact ⟨A, c, by simp, ⟨HL.out, hn, hc, hA, hbs⟩, hk2, HB2.out⟩
end Go.Proofs.Yteemdjamgbbjhaa.Wl

/-
  A part's sector, and a head's.
-/
namespace Go.Proofs.Yteemdjamgbbjhaa.Wl
set_option maxRecDepth 100000
open Go.RowKit Go.Proofs.Yteemdjamgbbjhaa.Wd Go.Proofs.Yteemdjamgbbjhaa.Dsk Go.Proofs.Yteemdjamgbbjhaa.Oct Go.Proofs.Yteemdjamgbbjhaa.Sum

theorem crc_lt (l : List UInt8) : crc l < 4294967296 := Sm.sm_lt Sm.poly32 l
theorem Row.sl {w : World} {g B n : Nat} {t : TypeId} {l : List UInt8} (h : Row w g t (bv l)) (hl : l.length = n) (hn : n ≤ maxLen) (hB : g < B) : Sl w B (some ⟨g, 0, none⟩) n n l := ⟨hl, Nat.le_refl _, hn, (fun e => by cases e), Row.bs h hB⟩
theorem undrew {B : Nat} {w w' : World} (h : Below B w.drew w') : Below B w w' := ⟨h.os, h.tape, h.output, h.size, h.block⟩
theorem maxLen_big : 140737488355328 ≤ maxLen := by unfold maxLen; omega
theorem wp_append_bs {P : Program} {w : World} {o : Oper} {a : Act} {K : Act → World → Prop} {Q : Exit → Act → World → Prop} (s x : Operand) (t : TypeId)
    (ho : o.op = .call { callee := .builtin .append, args := #[s, x], argTypes := #[t, t] })
    (base : Nat) (e : TypeId) (i : TypeInfo) (z : Value) (ht : P.underlying t = some (.slice e)) (hi : P.info? e = some i) (hz : i.zero = some z) (hsize : i.size = 1) (hby : i.bytes = 1) (hzs : z.cells.size = 1)
    (v : Value) (n : Nat) (xs : List Value) (hs : a.eval s = v) (hown : w.ownsRow base e 1 v n xs)
    (ad : Addr) (m c : Nat) (l : List UInt8) (hx : a.eval x = .slice (some ad) m c) (hl : l.length = m) (B : Nat) (hr : Bs w B (some ad) l)
    (h63 : n + m ≤ 140737488355328) (hbase : base ≤ w.heap.size)
    (h : ∀ v' w', w'.ownsRow base e 1 v' (n + m) (xs ++ bv l) → w.grownBy w' v.ownBlock → K (a.put o.dst v') w') : o.wp P a w K Q :=
  wp_append_own w s x t ho base e i z 1 1 ht hi hz hsize hby hzs (by omega) v n xs hs hown ad m c (bv l) hx (by rw [bv_length]; omega) (fun j u hu => by
    have hj : j < l.length := by simpa [bv_length] using (List.getElem?_eq_some_iff.1 hu).1
    obtain ⟨b, o, e, _, hc⟩ := hr (by omega)
    obtain rfl := Option.some.inj e
    rw [Addr.add_lit, hc j hj, ← hu]
    simp [bv, hj]) bv_one (by unfold maxLen; omega) (by omega) hbase fun v' w' h2 h3 _ => h v' w' h2 h3
set_option maxHeartbeats 4000000 in
/-- a part's sector -/
theorem part_any (t k : Nat) (A : Option Addr) (m c : Nat) (i n : Nat) (body : List UInt8) (w : World) (ht : t < 4294967296) (hk : k < 4294967296) (hi6 : i < 65536) (hn6 : n < 65536) (hb : body.length = 48) :
    Calls Try.prog 80 #[.agg (fcs t k A m c).toArray, .int .i64 (i : Int), .int .i64 (n : Int), .agg (bv body).toArray] w fun e w' => e = .returned (blk (partB t k i n body)) ∧ Below w.heap.size w w' := by
  have mixed : Try.prog.follows .mixedOrders = true := by kernel_rfl
  have HB := Lib.hid hb
  have hi16 : IntKind.u16.wrap (i : Int) = i := by rw [IntKind.wrap_u16]; omega
  have hn16 : IntKind.u16.wrap (n : Int) = n := by rw [IntKind.wrap_u16]; omega
  clear hb
  go_enter Try.func80, Try.ntmps80
  go_wp2_with fail
  refine nw fun w1 hw1 => ?_
  have hb1 : Below w.heap.size w w1 := by
    rw [← hw1]
    exact (((Below.refl _ _).alloc (Nat.le_refl _) _).alloc (by simp) _).alloc (by simp; omega) _
  have hs1 : w1.heap.size = w.heap.size + 3 := by rw [← hw1]; simp
  have r1 : Row w1 w.heap.size 101 (fcs t k A m c) := by rw [← hw1]; exact ((Row.new w _ _).alloc _).alloc _
  have r2 : Row w1 (w.heap.size + 1) 131 (bv body) := by
    rw [← hw1]
    have := Row.new (w.alloc (.cells (fcs t k A m c).toArray 101)) 131 (bv body)
    rw [World.size_alloc] at this
    exact this.alloc _
  have r3 : Row w1 (w.heap.size + 2) 89 (bv nought) := by
    rw [← hw1]
    have := Row.new ((w.alloc (.cells (fcs t k A m c).toArray 101)).alloc (.cells (bv body).toArray 131)) 89 (bv nought)
    rw [World.size_alloc, World.size_alloc] at this
    exact this
  have R1 := Lib.hid r1
  have R2 := Lib.hid r2
  have R3 := Lib.hid r3
  have HB1 := Lib.hid hb1
  have HS1 := Lib.hid hs1
  clear hw1 hb1 hs1 r1 r2 r3
  refine wp_region_held_drew (S := (fun w' => Row w' w.heap.size 101 (fcs t k A m c))) (by kernel_rfl) R1.out (fun hHeld => ?_)
  refine wpAnyH_take (i := 0) (oi := ⟨some 11, _, _, _, _, _⟩) (v := ?v0) rfl (by kernel_rfl) (by kernel_rfl) (by kernel_rfl) (fun _ _ _ h => h) (Or.inl ⟨by rfl, ?y0⟩) hHeld ?r0
  case y0 =>
    rintro w' hSw
    go_simp
    try with_reducible rfl
  try simp only [Act.put, List.setIfInBounds_toArray, List.set_cons_zero, List.set_cons_succ]
  refine wpAnyH_take (i := 1) (oi := ⟨some 12, _, _, _, _, _⟩) (v := ?v1) rfl (by kernel_rfl) (by kernel_rfl) (by kernel_rfl) (fun _ _ _ h => h) (Or.inl ⟨by rfl, ?y1⟩) hHeld ?r1
  case y1 =>
    rintro w' hSw
    have c0 : w'.cell? ⟨w.heap.size, 0, none⟩ = some (.int .u32 (t : Int)) := hSw.cell 0
    go_simp
    try with_reducible rfl
  try simp only [Act.put, List.setIfInBounds_toArray, List.set_cons_zero, List.set_cons_succ]
  refine wpAnyH_take (i := 3) (oi := ⟨some 14, _, _, _, _, _⟩) (v := ?v3) rfl (by kernel_rfl) (by kernel_rfl) (by kernel_rfl) (fun _ _ _ h => h) (Or.inl ⟨by rfl, ?y3⟩) hHeld ?r3
  case y3 =>
    rintro w' hSw
    go_simp
    try with_reducible rfl
  try simp only [Act.put, List.setIfInBounds_toArray, List.set_cons_zero, List.set_cons_succ]
  refine wpAnyH_take (i := 4) (oi := ⟨some 15, _, _, _, _, _⟩) (v := ?v4) rfl (by kernel_rfl) (by kernel_rfl) (by kernel_rfl) (fun _ _ _ h => h) (Or.inl ⟨by rfl, ?y4⟩) hHeld ?r4
  case y4 =>
    rintro w' hSw
    have c1 : w'.cell? ⟨w.heap.size, 1, none⟩ = some (.int .u32 (k : Int)) := hSw.cell 1
    go_simp
    try with_reducible rfl
  try simp only [Act.put, List.setIfInBounds_toArray, List.set_cons_zero, List.set_cons_succ]
  refine wpAnyH_ready (rs := [2]) (by kernel_rfl) (by simp) ?_
  refine AllReadyH.cons rfl (fun K hK => ?_) AllReadyH.nil
  go_simp
  refine (put32_any none [] 0 0 t _ rfl (by omega) (by omega) (Bs.nil _ _ _)).mono ?_
  rintro e w2 ⟨g2, n2, rfl, hl2, hg2, hr2, hb2⟩
  replace hb2 := undrew hb2
  have HL2 := hl2
  have R12 := Lib.hid (R1.out.below hb2 R1.out.lt)
  have R22 := Lib.hid (R2.out.below hb2 R2.out.lt)
  have R32 := Lib.hid (R3.out.below hb2 R3.out.lt)
  have HB2 := Lib.hid (HB1.out.trans (hb2.mono HB1.out.size))
  have HG2 := Lib.hid hr2
  have HS2 := Lib.hid hb2.size
  clear hb2 hr2 hg2 hl2
  refine hK _ _ R12.out (fun _ => ?_)
  clear hK K
  try simp only [Act.put, List.setIfInBounds_toArray, List.set_cons_zero, List.set_cons_succ]
  refine wpAnyH_ready (rs := [5]) (by kernel_rfl) (by simp) ?_
  refine AllReadyH.cons rfl (fun K hK => ?_) AllReadyH.nil
  go_simp
  refine (put32_any (some ⟨g2, 0, none⟩) ([] ++ hi 4 t) n2 n2 k _ HL2.out.symm (by have := HL2.out; simp [hi_length] at this; omega) (by omega) (Row.bs HG2.out HG2.out.lt)).mono ?_
  rintro e w3 ⟨g3, n3, rfl, hl3, hg3, hr3, hb3⟩
  have HL3 := hl3
  have R13 := Lib.hid (R12.out.below hb3 R12.out.lt)
  have R23 := Lib.hid (R22.out.below hb3 R22.out.lt)
  have R33 := Lib.hid (R32.out.below hb3 R32.out.lt)
  have HB3 := Lib.hid (HB2.out.trans (hb3.mono HB2.out.size))
  have HG3 := Lib.hid hr3
  have HS3 := Lib.hid (Nat.le_trans HS2.out hb3.size)
  clear hb3 hr3 hg3 hl3
  refine hK _ _ R13.out (fun _ => ?_)
  clear hK K
  try simp only [Act.put, List.setIfInBounds_toArray, List.set_cons_zero, List.set_cons_succ]
  refine wpAnyH_take (i := 6) (oi := ⟨some 9, _, _, _, _, _⟩) (v := ?v6) rfl (by kernel_rfl) (by kernel_rfl) (by kernel_rfl) (fun _ _ _ h => h) (Or.inl ⟨by rfl, ?y6⟩) R13.out ?r6
  case y6 =>
    rintro w' hSw
    go_simp
    try with_reducible rfl
  try simp only [Act.put, List.setIfInBounds_toArray, List.set_cons_zero, List.set_cons_succ]
  refine wpAnyH_done (by kernel_rfl) ?_ _
  go_wp2_with fail
  refine (put16_any (some ⟨g3, 0, none⟩) ([] ++ hi 4 t ++ hi 4 k) n3 n3 i _ HL3.out.symm (by have := HL3.out; simp [hi_length] at this; omega) (by omega) (Row.bs HG3.out HG3.out.lt)).mono ?_
  rintro e w4 ⟨g4, n4, rfl, hl4, hg4, hr4, hb4⟩
  have HL4 := hl4
  have R24 := Lib.hid (R23.out.below hb4 R23.out.lt)
  have R34 := Lib.hid (R33.out.below hb4 R33.out.lt)
  have HB4 := Lib.hid (HB3.out.trans (hb4.mono HB3.out.size))
  have HG4 := Lib.hid hr4
  have HS4 := Lib.hid (Nat.le_trans HS3.out hb4.size)
  clear hb4 hr4 hg4 hl4
  go_wp2_with fail
  refine (put16_any (some ⟨g4, 0, none⟩) ([] ++ hi 4 t ++ hi 4 k ++ hi 2 i) n4 n4 n _ HL4.out.symm (by have := HL4.out; simp [hi_length] at this; omega) (by omega) (Row.bs HG4.out HG4.out.lt)).mono ?_
  rintro e w5 ⟨g5, n5, rfl, hl5, hg5, hr5, hb5⟩
  have hn5 : n5 = 12 := by have := hl5.out; simp [hi_length] at this; omega
  subst hn5
  have hf : [] ++ hi 4 t ++ hi 4 k ++ hi 2 i ++ hi 2 n = frontB t k i n := rfl
  rw [hf] at hr5
  have R25 := Lib.hid (R24.out.below hb5 R24.out.lt)
  have R35 := Lib.hid (R34.out.below hb5 R34.out.lt)
  have HB5 := Lib.hid (HB4.out.trans (hb5.mono HB4.out.size))
  have HG5 := Lib.hid hr5
  have HS5 := Lib.hid (Nat.le_trans HS4.out hb5.size)
  clear hb5 hr5 hg5 hl5 hf
  go_wp2_with fail
  have r6 : Row (w5.alloc (.cells #[.slice (some ⟨g5, 0, none⟩) 12 12, .slice (some ⟨w.heap.size + 1, 0, none⟩) 48 48] 37)) w5.heap.size 37 [.slice (some ⟨g5, 0, none⟩) 12 12, .slice (some ⟨w.heap.size + 1, 0, none⟩) 48 48] := Row.new w5 _ _
  have hb6 : Below w5.heap.size w5 (w5.alloc (.cells #[.slice (some ⟨g5, 0, none⟩) 12 12, .slice (some ⟨w.heap.size + 1, 0, none⟩) 48 48] 37)) := (Below.refl _ _).alloc (Nat.le_refl _) _
  generalize w5.alloc (.cells #[.slice (some ⟨g5, 0, none⟩) 12 12, .slice (some ⟨w.heap.size + 1, 0, none⟩) 48 48] 37) = w6 at r6 hb6 ⊢
  have R26 := Lib.hid (R25.out.below hb6 R25.out.lt)
  have R36 := Lib.hid (R35.out.below hb6 R35.out.lt)
  have HB6 := Lib.hid (HB5.out.trans (hb6.mono HB5.out.size))
  have HG6 := Lib.hid (HG5.out.below hb6 HG5.out.lt)
  have HS6 := Lib.hid (Nat.le_trans HS5.out hb6.size)
  have R6 := Lib.hid r6
  clear r6 hb6
  refine (concat_two (some ⟨g5, 0, none⟩) (some ⟨w.heap.size + 1, 0, none⟩) 12 12 48 48 (frontB t k i n) body _ w6 R6.out (Row.sl HG6.out (frontB_len _ _ _ _) (by unfold maxLen; omega) HG6.out.lt) (Row.sl R26.out HB.out (by unfold maxLen; omega) R26.out.lt) (by omega) (by omega)).mono ?_
  rintro e w7 ⟨A7, c7, rfl, hsl7, _, hb7⟩
  have R27 := Lib.hid (R26.out.below hb7 R26.out.lt)
  have R37 := Lib.hid (R36.out.below hb7 R36.out.lt)
  have HB7 := Lib.hid (HB6.out.trans (hb7.mono HB6.out.size))
  have HG7 := Lib.hid (HG6.out.below hb7 HG6.out.lt)
  have HS7 := Lib.hid (Nat.le_trans HS6.out hb7.size)
  have HSL := Lib.hid hsl7
  clear hb7 hsl7
  go_wp2_with fail
  refine (Sum32_any A7 (frontB t k i n ++ body) c7 60 w7 HSL.out.len (by unfold maxLen; omega) _ HSL.out.bs).mono ?_
  rintro e w8 ⟨rfl, rfl⟩
  obtain ⟨q, hq⟩ : ∃ q, q = Sm.sm 2197175160 4 (frontB t k i n ++ body) := ⟨_, rfl⟩
  have hq4 : (q : Int) < 4294967296 := by rw [hq]; have := crc_lt (frontB t k i n ++ body); unfold crc at this; omega
  rw [← hq]
  have HQ := Lib.hid hq
  clear hq
  go_wp2_with fail
  refine wp_region_held_drew (S := (fun w' => Row w' (w.heap.size + 1) 131 (bv body))) (by kernel_rfl) R27.out (fun hHeld => ?_)
  refine wpAnyH_take (i := 0) (oi := ⟨some 29, _, _, _, _, _⟩) (v := ?v0b) rfl (by kernel_rfl) (by kernel_rfl) (by kernel_rfl) (fun _ _ _ h => h) (Or.inl ⟨by rfl, ?y0b⟩) hHeld ?r0b
  case y0b =>
    rintro w' hSw
    go_simp
    try with_reducible rfl
  try simp only [Act.put, List.setIfInBounds_toArray, List.set_cons_zero, List.set_cons_succ]
  refine wpAnyH_take (i := 1) (oi := ⟨some 30, _, _, _, _, _⟩) (v := ?v1b) rfl (by kernel_rfl) (by kernel_rfl) (by kernel_rfl) (fun _ _ _ h => h) (Or.inl ⟨by rfl, ?y1b⟩) hHeld ?r1b
  case y1b =>
    rintro w' hSw
    go_simp
    try with_reducible rfl
  try simp only [Act.put, List.setIfInBounds_toArray, List.set_cons_zero, List.set_cons_succ]
  refine wpAnyH_take (i := 3) (oi := ⟨some 32, _, _, _, _, _⟩) (v := ?v3b) rfl (by kernel_rfl) (by kernel_rfl) (by kernel_rfl) (fun _ _ _ h => h) (Or.inl ⟨by rfl, ?y3b⟩) hHeld ?r3b
  case y3b =>
    rintro w' hSw
    go_simp
    try with_reducible rfl
  try simp only [Act.put, List.setIfInBounds_toArray, List.set_cons_zero, List.set_cons_succ]
  refine wpAnyH_ready (rs := [2]) (by kernel_rfl) (by simp) ?_
  refine AllReadyH.cons rfl (fun K hK => ?_) AllReadyH.nil
  go_simp
  refine (put32_any (some ⟨g5, 0, none⟩) (frontB t k i n) 12 12 q w7.drew (frontB_len _ _ _ _).symm (by omega) hq4 (show Bs w7.drew w7.heap.size _ _ from (Row.bs HG7.out HG7.out.lt).drew)).mono ?_
  rintro e w9 ⟨g9, n9, rfl, hl9, hg9, hr9, hb9⟩
  replace hb9 := undrew hb9
  have hn9 : n9 = 16 := by have := hl9.out; rw [List.length_append, frontB_len, hi_length] at this; omega
  subst hn9
  have HL9 := hl9
  have HGB := Lib.hid (Nat.le_trans (show w.heap.size + 3 ≤ w7.heap.size from Nat.le_trans (Nat.le_of_eq HS1.out.symm) HS7.out) hg9)
  have R29 := Lib.hid (R27.out.below hb9 R27.out.lt)
  have R39 := Lib.hid (R37.out.below hb9 R37.out.lt)
  have HB9 := Lib.hid (HB7.out.trans (hb9.mono HB7.out.size))
  have HG9 := Lib.hid hr9
  clear hb9 hr9 hg9 hl9
  refine hK _ _ R29.out (fun _ => ?_)
  clear hK K
  try simp only [Act.put, List.setIfInBounds_toArray, List.set_cons_zero, List.set_cons_succ]
  refine wpAnyH_ready (rs := [4]) (by kernel_rfl) (by simp) ?_
  refine AllReadyH.cons rfl (fun K hK => ?_) AllReadyH.nil
  obtain ⟨i0, hi0, hz0, hz1, hz2⟩ := info_parts info5
  have hown9 : w9.ownsRow (w.heap.size + 3) 5 1 (.slice (some ⟨g9, 0, none⟩) 16 16) 16 (bv (frontB t k i n ++ hi 4 q)) := Row.own HG9.out HGB.out (by rw [bv_length, List.length_append, frontB_len, hi_length]) (by unfold maxLen; omega)
  rw [if_pos (by rfl)]
  refine wp_append_bs (.tmp 31) (.tmp 32) 37 rfl (w.heap.size + 3) 5 i0 (.int .u8 0) Try.underlying37 hi0 hz0 hz1 hz2 rfl (.slice (some ⟨g9, 0, none⟩) 16 16) 16 _ rfl hown9 ⟨w.heap.size + 1, 0, none⟩ 48 48 body rfl HB.out w9.heap.size (Row.bs R29.out R29.out.lt) (by omega) (Nat.le_trans HGB.out (Nat.le_of_lt HG9.out.lt)) ?_
  clear hown9
  intro v10 w10 hown10 hg10
  rw [← bv_append] at hown10
  obtain ⟨A10, c10, rfl, hl10, hn10, hc10, hA10, hbs10, hk10⟩ := own_bs hown10
  have ex10 : ∃ g10, A10 = some ⟨g10, 0, none⟩ := by
    rcases hown10 with ⟨_, ⟨hv, h0⟩ | ⟨g', cap, cur, hv, _⟩⟩
    · omega
    · cases hv; exact ⟨_, rfl⟩
  obtain ⟨g10, rfl⟩ := ex10
  have R310 := Lib.hid (R39.out.grown hg10 (by simp [Value.ownBlock]; have := HGB.out; omega))
  have HB10 := Lib.hid (HB9.out.grown hg10 HB9.out.size (fun j hj => by simp [Value.ownBlock] at hj; have := HGB.out; omega))
  have HBS := Lib.hid hbs10
  have HC10 := Lib.hid hn10
  have R210 := Lib.hid (R29.out.grown hg10 (by simp [Value.ownBlock]; have := HGB.out; omega))
  have HK10 := Lib.hid (hk10 g10 rfl)
  clear hown10 hg10 hl10 hA10 hk10 hbs10
  have hbl : (frontB t k i n ++ hi 4 q ++ body).length = 64 := by simp [frontB_len, hi_length, HB.out]
  have hra : w10.rangeAt g10 0 (bv (frontB t k i n ++ hi 4 q ++ body)) := bs_range HBS.out
  have HRA := Lib.hid hra
  have HBL := Lib.hid hbl
  have h64 : ¬ (c10 : Int) < 64 := by have := HC10.out; omega
  clear hra hbl
  refine hK _ _ R210.out (fun _ => ?_)
  clear hK K
  try simp only [Act.put, List.setIfInBounds_toArray, List.set_cons_zero, List.set_cons_succ]
  refine wpAnyH_mono (S := fun w' => Row w' (w.heap.size + 1) 131 (bv body)) (S' := fun w' => Row w' (w.heap.size + 1) 131 (bv body) ∧ w'.rangeAt g10 0 (bv (frontB t k i n ++ hi 4 q ++ body))) (fun w h => h.1) _ _ _ _ ?_
  have hat : ∀ w, (Instr.arrayAt 89 (.slice (some ⟨g10, 0, none⟩) 64 c10)).run Try.prog w = .ok (.pointer (some ⟨g10, 0, none⟩)) w := fun w => run_arrayAt w _ _ 64 _ 64 c10 Try.underlying89 (Nat.le_refl _)
  have hH : Row w10 (w.heap.size + 1) 131 (bv body) ∧ w10.rangeAt g10 0 (bv (frontB t k i n ++ hi 4 q ++ body)) := ⟨R210.out, HRA.out⟩
  have HLB : Hid ((Try.prog.info? 89).map (·.size) = some (bv (frontB t k i n ++ hi 4 q ++ body)).length) := (show _ = _ by rw [bv_length, HBL.out]; exact size39)
  refine wpAnyH_take (i := 5) (oi := ⟨some 34, _, _, _, _, _⟩) (v := ?v5c) rfl (by kernel_rfl) (by kernel_rfl) (by kernel_rfl) (fun _ _ _ h => h) (Or.inl ⟨by rfl, ?y5c⟩) hH ?r5c
  case y5c =>
    rintro w' hSw
    go_simp
    try with_reducible rfl
  try simp only [Act.put, List.setIfInBounds_toArray, List.set_cons_zero, List.set_cons_succ]
  refine wpAnyH_take (i := 6) (oi := ⟨some 35, _, _, _, _, _⟩) rfl (by kernel_rfl) (by kernel_rfl) (by kernel_rfl) (fun _ _ _ h => h) (yieldsIf_load_mid (by rfl) 89 (.tmp 34) rfl g10 0 ?x6c (bv (frontB t k i n ++ hi 4 q ++ body)) _ (fun _ (h : Row _ _ _ _ ∧ World.rangeAt _ _ _ _) => h.2) Try.underlying89 rfl HLB.out) hH ?r6c
  case x6c => first | rfl | (simp [Act.eval, go_sem]; done)
  try simp only [Act.put, List.setIfInBounds_toArray, List.set_cons_zero, List.set_cons_succ]
  refine wpAnyH_ready (rs := [7]) (by kernel_rfl) (by simp) ?_
  refine AllReadyH.cons rfl (fun K hK => ?_) AllReadyH.nil
  rw [if_pos (by rfl)]
  refine wp_store_whole 89 (.tmp 8) (.tmp 35) rfl (w.heap.size + 2) (bv (frontB t k i n ++ hi 4 q ++ body)) rfl rfl _ _ R310.out (by rw [bv_length, bv_length, HBL.out]; rfl) bv_one HLB.out ?_
  intro w11 hr5 hg5
  have HRES := Lib.hid (run_load_blk (P := Try.prog) w11 (w.heap.size + 2) 0 89 (frontB t k i n ++ hi 4 q ++ body) _ (Row.all hr5) Try.underlying89 rfl (by rw [HBL.out]; exact size39))
  have HB11 := Lib.hid (HB10.out.grown hg5 HB10.out.size (fun j hj => by cases hj; omega))
  have hH2 : Row w11 (w.heap.size + 1) 131 (bv body) ∧ w11.rangeAt g10 0 (bv (frontB t k i n ++ hi 4 q ++ body)) := by
    refine ⟨R210.out.grown hg5 (by simp), fun j v hj => ?_⟩
    exact hg5.cell (HRA.out j v hj) (by have := HK10.out; simp; omega)
  refine hK _ _ hH2 (fun _ => ?_)
  clear hK K
  try simp only [Act.put, List.setIfInBounds_toArray, List.set_cons_zero, List.set_cons_succ]
  refine wpAnyH_done (by kernel_rfl) ?_ _
  go_wp2
  refine bodyPost_ret (v := blk (frontB t k i n ++ hi 4 q ++ body)) (results_cell (p := 8) (ty := 89) rfl _ _ ⟨w.heap.size + 2, 0, none⟩ _ rfl HRES.out) rfl ⟨?_, HB11.out⟩
  rw [HQ.out]
  rfl
end Go.Proofs.Yteemdjamgbbjhaa.Wl

/-
  A head's sector.
-/
namespace Go.Proofs.Yteemdjamgbbjhaa.Wl
set_option maxRecDepth 100000
open Go.RowKit Go.Proofs.Yteemdjamgbbjhaa.Wd Go.Proofs.Yteemdjamgbbjhaa.Dsk Go.Proofs.Yteemdjamgbbjhaa.Oct Go.Proofs.Yteemdjamgbbjhaa.Sum

def magic : List UInt8 := [103, 97, 122, 101, 116, 119, 97, 108]
theorem lit_bs2 (w : World) (l : List UInt8) (t : TypeId) (fr : Nat × Nat) : Bs (w.alloc (.cells (bv l).toArray t fr)) (w.heap.size + 1) (some ⟨w.heap.size, 0, none⟩) l := fun _ =>
  ⟨w.heap.size, 0, rfl, by omega, fun i hi => by
    rw [Nat.zero_add]
    rw [cell_of_row _ w.heap.size i _ t fr (heap_alloc_new w _)]; simp [bv, hi]⟩
theorem zeroCells_u8 (k : Nat) : Builtin.zeroCells (Value.int .u8 0).cells k = (bv (List.replicate k 0)).toArray := by
  have hc : (Value.int .u8 0).cells = #[.int .u8 0] := rfl
  rw [hc, ← bv_zero]
  apply Array.ext
  · simp [Builtin.zeroCells]
  · intro i h1 h2
    simp [Builtin.zeroCells, Nat.mod_one]
/-- noughts behind a row that is full -/
theorem append_noughts (w : World) (g n k : Nat) (l : List UInt8) (h : Row w g 5 (bv l)) (hl : l.length = n) (hk : 0 < k) (hm : n + k ≤ 100000) :
    ∃ G W', n + k ≤ G ∧ G ≤ maxLen ∧ (∃ m, Row W' w.heap.size 5 (bv (l ++ List.replicate k 0 ++ List.replicate m 0))) ∧ Below w.heap.size w W' ∧
      ∀ ty, (Builtin.append_ #[37, 3] ty #[.slice (some ⟨g, 0, none⟩) n n, .int .i64 (k : Int)]).run Try.prog w = .ok (.slice (some ⟨w.heap.size, 0, none⟩) (n + k) G) W' := by
  obtain ⟨i0, hi, hz0, hz1, hz2⟩ := info_parts info5
  have hold : (Builtin.firstCells i0.size n (.slice (some ⟨g, 0, none⟩) n n)).run Try.prog w.drew = .ok (bv l).toArray w.drew :=
    run_firstCells_some w.drew i0.size n ⟨g, 0, none⟩ n n (bv l) (by rw [bv_length, hz1]; omega) (fun j v hj => by
      rw [Addr.add_lit, Nat.zero_add]
      exact (h.cell j).trans hj)
  have hrz := fun ty => Lib.run_append_grow_zeros w 37 3 ty 5 i0 (.int .u8 0) .i64 .i64 Try.underlying37 Try.underlying3 hi hz0 (some ⟨g, 0, none⟩) n n (bv l) hold k hk (by omega) (by omega) (by omega) (by rw [hz2]; omega) (growslice_fits (by omega) (by rw [hz2]; omega))
  refine ⟨_, _, grownCap_ge w _ _ _, grownCap_le_maxLen w (n + k) n 5 (by unfold maxLen; omega), ⟨grownCap w (n + k) n 5 - (n + k), ?_⟩, (Below.refl _ _).drew.alloc (Nat.le_refl _) _, hrz⟩
  rw [zeroCells_u8, zeroCells_u8]
  have := Row.new w.drew 5 (bv (l ++ List.replicate k 0 ++ List.replicate (grownCap w (n + k) n 5 - (n + k)) 0))
  rw [bv_append, bv_append] at this ⊢
  simpa using this
theorem Row.front {w : World} {g B : Nat} {t : TypeId} {l m : List UInt8} (h : Row w g t (bv (l ++ m))) (hB : g < B) : Bs w B (some ⟨g, 0, none⟩) l := fun hp =>
  ⟨g, 0, rfl, hB, fun i hi => by
    rw [Nat.zero_add, h.cell, bv_append, List.getElem?_append_left (by rw [bv_length]; exact hi)]
    simp [bv, hi]⟩
set_option maxHeartbeats 4000000 in
/-- a head's sector -/
theorem sector_any (t a : Nat) (w : World) (ht : t < 4294967296) (ha : a < 4294967296) :
    Calls Try.prog 73 #[.agg (hcs t a).toArray] w fun e w' => e = .returned (blk (headB t a)) ∧ Below w.heap.size w w' := by
  have mixed : Try.prog.follows .mixedOrders = true := by kernel_rfl
  go_enter Try.func73, Try.ntmps73
  go_wp2_with fail
  refine nw fun w1 hw1 => ?_
  have hb1 : Below w.heap.size w w1 := by
    rw [← hw1]
    exact ((Below.refl _ _).alloc (Nat.le_refl _) _).alloc (by simp) _
  have hs1 : w1.heap.size = w.heap.size + 2 := by rw [← hw1]; simp
  have r1 : Row w1 w.heap.size 106 (hcs t a) := by rw [← hw1]; exact (Row.new w _ _).alloc _
  have r3 : Row w1 (w.heap.size + 1) 89 (bv nought) := by
    rw [← hw1]
    have := Row.new (w.alloc (.cells (hcs t a).toArray 106)) 89 (bv nought)
    rw [World.size_alloc] at this
    exact this
  have R1 := Lib.hid r1
  have R3 := Lib.hid r3
  have HB1 := Lib.hid hb1
  have HS1 := Lib.hid hs1
  clear hw1 hb1 hs1 r1 r3
  refine wp_region_held_drew (S := (fun w' => Row w' w.heap.size 106 (hcs t a))) (by kernel_rfl) R1.out (fun hHeld => ?_)
  refine wpAnyH_take (i := 2) (oi := ⟨some 6, _, _, _, _, _⟩) (v := ?v2) rfl (by kernel_rfl) (by kernel_rfl) (by kernel_rfl) (fun _ _ _ h => h) (Or.inl ⟨by rfl, ?y2⟩) hHeld ?r2
  case y2 =>
    rintro w' hSw
    go_simp
    try with_reducible rfl
  try simp only [Act.put, List.setIfInBounds_toArray, List.set_cons_zero, List.set_cons_succ]
  refine wpAnyH_take (i := 3) (oi := ⟨some 7, _, _, _, _, _⟩) (v := ?v3) rfl (by kernel_rfl) (by kernel_rfl) (by kernel_rfl) (fun _ _ _ h => h) (Or.inl ⟨by rfl, ?y3⟩) hHeld ?r3
  case y3 =>
    rintro w' hSw
    have c0 : w'.cell? ⟨w.heap.size, 0, none⟩ = some (.int .u32 (t : Int)) := hSw.cell 0
    go_simp
    try with_reducible rfl
  try simp only [Act.put, List.setIfInBounds_toArray, List.set_cons_zero, List.set_cons_succ]
  refine wpAnyH_take (i := 5) (oi := ⟨some 9, _, _, _, _, _⟩) (v := ?v5) rfl (by kernel_rfl) (by kernel_rfl) (by kernel_rfl) (fun _ _ _ h => h) (Or.inl ⟨by rfl, ?y5⟩) hHeld ?r5
  case y5 =>
    rintro w' hSw
    go_simp
    try with_reducible rfl
  try simp only [Act.put, List.setIfInBounds_toArray, List.set_cons_zero, List.set_cons_succ]
  refine wpAnyH_take (i := 6) (oi := ⟨some 10, _, _, _, _, _⟩) (v := ?v6) rfl (by kernel_rfl) (by kernel_rfl) (by kernel_rfl) (fun _ _ _ h => h) (Or.inl ⟨by rfl, ?y6⟩) hHeld ?r6
  case y6 =>
    rintro w' hSw
    have c1 : w'.cell? ⟨w.heap.size, 1, none⟩ = some (.int .u32 (a : Int)) := hSw.cell 1
    go_simp
    try with_reducible rfl
  try simp only [Act.put, List.setIfInBounds_toArray, List.set_cons_zero, List.set_cons_succ]
  have hcv := Lib.run_convert_bytes_const (P := Try.prog) w1.drew 37 5 (bv magic).toArray 8 8 Try.underlying37 Try.underlying5
  obtain ⟨w2, hw2⟩ : ∃ w2, w1.drew.alloc (.cells (bv magic).toArray 5 ((bv magic).toArray.size, (bv magic).toArray.size + 1)) = w2 := ⟨_, rfl⟩
  have r2 : Bs w2 w2.heap.size (some ⟨w1.heap.size, 0, none⟩) magic := by
    rw [← hw2]
    have := lit_bs2 w1.drew magic 5 ((bv magic).toArray.size, (bv magic).toArray.size + 1)
    rw [World.size_alloc]
    exact this
  have hb2 : Below w1.heap.size w1 w2 := by
    rw [← hw2]
    exact (Below.refl _ _).drew.alloc (Nat.le_refl _) _
  have hcv2 : (convert 37 37 (.slice (some ⟨w1.heap.size, 0, none⟩) 8 8)).run Try.prog ((w1.alloc (.cells (bv magic).toArray 5)).drew) = .ok (.slice (some ⟨w1.heap.size, 0, none⟩) 8 8) w2 := by
    rw [← hw2]
    exact hcv
  have HRW := Lib.hid (show Row ((w1.alloc (.cells (bv magic).toArray 5)).drew) w.heap.size 106 (hcs t a) from Row.drew (R1.out.alloc _))
  have R12 := Lib.hid (R1.out.below hb2 R1.out.lt)
  have R32 := Lib.hid (R3.out.below hb2 R3.out.lt)
  have HB2 := Lib.hid (HB1.out.trans (hb2.mono HB1.out.size))
  have HS2 := Lib.hid (show w.heap.size + 2 ≤ w2.heap.size from Nat.le_trans (Nat.le_of_eq HS1.out.symm) hb2.size)
  have HG2 := Lib.hid r2
  clear hcv r2 hb2 hw2
  refine wpAnyH_ready (rs := [0]) (by kernel_rfl) (by simp) ?_
  refine AllReadyH.cons rfl (fun K hK => ?_) AllReadyH.nil
  go_simp
  have hKn := hK
  clear hK
  refine hKn _ _ HRW.out (fun _ => ?_)
  clear hKn K
  obtain ⟨wx, hwx⟩ : ∃ wx, (w1.alloc (.cells (bv magic).toArray 5)).drew = wx := ⟨_, rfl⟩
  rw [hwx] at hcv2
  show wpAnyH _ _ _ _ _ _ _ _ (w1.alloc (.cells (bv magic).toArray 5)).drew
  rw [hwx]
  clear hwx
  try simp only [Act.put, List.setIfInBounds_toArray, List.set_cons_zero, List.set_cons_succ]
  refine wpAnyH_ready (rs := [1]) (by kernel_rfl) (by simp) ?_
  refine AllReadyH.cons rfl (fun K hK => ?_) AllReadyH.nil
  go_simp
  refine hK _ _ R12.out (fun _ => ?_)
  clear hK K
  try simp only [Act.put, List.setIfInBounds_toArray, List.set_cons_zero, List.set_cons_succ]
  refine wpAnyH_ready (rs := [4]) (by kernel_rfl) (by simp) ?_
  refine AllReadyH.cons rfl (fun K hK => ?_) AllReadyH.nil
  go_simp
  refine (put32_any (some ⟨w1.heap.size, 0, none⟩) magic 8 8 t _ rfl (by omega) (by omega) HG2.out).mono ?_
  rintro e w3 ⟨g3, n3, rfl, hl3, hg3, hr3, hb3⟩
  have hn3 : n3 = 12 := by have := hl3.out; simp [hi_length, magic] at this; omega
  subst hn3
  have R13 := Lib.hid (R12.out.below hb3 R12.out.lt)
  have R33 := Lib.hid (R32.out.below hb3 R32.out.lt)
  have HB3 := Lib.hid (HB2.out.trans (hb3.mono HB2.out.size))
  have HS3 := Lib.hid (Nat.le_trans HS2.out hb3.size)
  have HG3 := Lib.hid hr3
  clear hb3 hr3 hg3 hl3
  refine hK _ _ R13.out (fun _ => ?_)
  clear hK K
  try simp only [Act.put, List.setIfInBounds_toArray, List.set_cons_zero, List.set_cons_succ]
  refine wpAnyH_ready (rs := [7]) (by kernel_rfl) (by simp) ?_
  refine AllReadyH.cons rfl (fun K hK => ?_) AllReadyH.nil
  go_simp
  refine (put32_any (some ⟨g3, 0, none⟩) (magic ++ hi 4 t) 12 12 a _ (by simp [hi_length, magic]) (by omega) (by omega) (Row.bs HG3.out HG3.out.lt)).mono ?_
  rintro e w4 ⟨g4, n4, rfl, hl4, hg4, hr4, hb4⟩
  have hn4 : n4 = 16 := by have := hl4.out; simp [hi_length, magic] at this; omega
  subst hn4
  have R14 := Lib.hid (R13.out.below hb4 R13.out.lt)
  have R34 := Lib.hid (R33.out.below hb4 R33.out.lt)
  have HB4 := Lib.hid (HB3.out.trans (hb4.mono HB3.out.size))
  have HS4 := Lib.hid (Nat.le_trans HS3.out hb4.size)
  have HG4 := Lib.hid hr4
  clear hb4 hr4 hg4
  refine hK _ _ R14.out (fun _ => ?_)
  clear hK K
  try simp only [Act.put, List.setIfInBounds_toArray, List.set_cons_zero, List.set_cons_succ]
  refine wpAnyH_take (i := 8) (oi := ⟨some 3, _, _, _, _, _⟩) (v := ?v8) rfl (by kernel_rfl) (by kernel_rfl) (by kernel_rfl) (fun _ _ _ h => h) (Or.inl ⟨by rfl, ?y8⟩) R14.out ?r8
  case y8 =>
    rintro w' hSw
    go_simp
    try with_reducible rfl
  try simp only [Act.put, List.setIfInBounds_toArray, List.set_cons_zero, List.set_cons_succ]
  refine wpAnyH_done (by kernel_rfl) ?_ _
  obtain ⟨G, w5, hG1, hG2, ⟨m5, hr5⟩, hb5, hrun⟩ := append_noughts w4 g4 16 44 _ HG4.out hl4.out (by omega) (by omega)
  obtain ⟨g5, hg5⟩ : ∃ g5, w4.heap.size = g5 := ⟨_, rfl⟩
  rw [hg5] at hr5 hrun
  have R15 := Lib.hid (R14.out.below hb5 R14.out.lt)
  have R35 := Lib.hid (R34.out.below hb5 R34.out.lt)
  have HB5 := Lib.hid (HB4.out.trans (hb5.mono HB4.out.size))
  have HS5 := Lib.hid (Nat.le_trans HS4.out hb5.size)
  have HG5 := Lib.hid hr5
  clear hb5 hr5 hg5 hl4
  rw [show ((44 : Nat) : Int) = 44 from rfl] at hrun
  go_wp2_with (at_builtin; refine Lib.wpList_append_run _ rfl _ _ _ _ rfl _ _ rfl rfl _ _ (hrun _) ?_)
  have hHF : headF t a = magic ++ hi 4 t ++ hi 4 a ++ List.replicate 44 0 := rfl
  rw [← hHF] at HG5
  have HBS := Lib.hid (Row.front HG5.out HG5.out.lt)
  clear hHF HG5 hrun
  refine (Sum32_any (some ⟨g5, 0, none⟩) (headF t a) G 60 w5 (headF_len _ _) (by unfold maxLen; omega) _ HBS.out).mono ?_
  rintro e w6 ⟨rfl, rfl⟩
  obtain ⟨q, hq⟩ : ∃ q, q = Sm.sm 2197175160 4 (headF t a) := ⟨_, rfl⟩
  have hq4 : (q : Int) < 4294967296 := by rw [hq]; have := crc_lt (headF t a); unfold crc at this; omega
  rw [← hq]
  have HQ := Lib.hid hq
  clear hq
  go_wp2_with fail
  refine (put32_any (some ⟨g5, 0, none⟩) (headF t a) G 60 q w5 (headF_len _ _).symm (by omega) hq4 HBS.out).mono ?_
  rintro e w6 ⟨g6, n6, rfl, hl6, hg6, hr6, hb6⟩
  have hn6 : n6 = 64 := by have := hl6.out; rw [List.length_append, headF_len, hi_length] at this; omega
  subst hn6
  have R36 := Lib.hid (R35.out.below hb6 R35.out.lt)
  have HB6 := Lib.hid (HB5.out.trans (hb6.mono HB5.out.size))
  have HG6 := Lib.hid hr6
  have HL6 := Lib.hid hl6.out
  clear hb6 hr6 hg6 hl6
  have hat : ∀ w, (Instr.arrayAt 89 (.slice (some ⟨g6, 0, none⟩) 64 64)).run Try.prog w = .ok (.pointer (some ⟨g6, 0, none⟩)) w := fun w => run_arrayAt w _ _ 64 _ 64 64 Try.underlying89 (Nat.le_refl _)
  have HLB : Hid ((Try.prog.info? 89).map (·.size) = some (bv (headF t a ++ hi 4 q)).length) := (show _ = _ by rw [bv_length, HL6.out]; exact size39)
  have HLL : Hid ((bv (headF t a ++ hi 4 q)).length = (bv nought).length) := (show _ = _ by rw [bv_length, bv_length, HL6.out]; rfl)
  go_wp2_with (first
    | (with_reducible refine wpList_load_row (op := ⟨some 19, _, _, _, _, _⟩) ?_ 89 (.tmp 18) ?_ g6 0 ?_ (bv (headF t a ++ hi 4 q)) _ (Row.all HG6.out) Try.underlying89 ?_ HLB.out ?_)
    | (with_reducible refine wpList_store_whole (op := ⟨none, _, _, _, _, _⟩) ?_ 89 (.tmp 2) (.tmp 19) ?_ (w.heap.size + 1) (bv (headF t a ++ hi 4 q)) ?_ ?_ 89 (bv nought) R36.out HLL.out bv_one HLB.out ?_))
  all_goals try (first | rfl | (simp; done))
  intro w7 hr7 hg7
  have HRES := Lib.hid (run_load_blk (P := Try.prog) w7 (w.heap.size + 1) 0 89 (headF t a ++ hi 4 q) _ (Row.all hr7) Try.underlying89 rfl (by rw [HL6.out]; exact size39))
  have HB7 := Lib.hid (HB6.out.grown hg7 HB6.out.size (fun j hj => by cases hj; omega))
  clear hr7 hg7
  go_wp2
  refine bodyPost_ret (v := blk (headF t a ++ hi 4 q)) (results_cell (p := 2) (ty := 89) rfl _ _ ⟨w.heap.size + 1, 0, none⟩ _ rfl HRES.out) rfl ⟨?_, HB7.out⟩
  rw [HQ.out]
  rfl
end Go.Proofs.Yteemdjamgbbjhaa.Wl

/-
  A drawn region in a round of a range over a function, out of the plain one; nothing here speaks of the program.
-/
namespace Go.Proofs.Yteemdjamgbbjhaa.Dsk
open Go.RowKit Go.Proofs.Yteemdjamgbbjhaa.Wd

def Simple : Result Next → Prop
  | .ok (.value _) _ => True
  | .ok .skip _ => True
  | .halt _ _ => True
  | _ => False
section
variable {P : Program}
theorem simple_v (s : Sem Value) (w : World) : Simple ((do pure (Next.value (← s)) : Sem Next).run P w) := by
  rw [Sem.run_bind]
  cases s.run P w <;> simp [Simple, Result.andThen]
theorem simple_u (s : Sem Unit) (w : World) : Simple ((do s; pure Next.skip : Sem Next).run P w) := by
  rw [Sem.run_bind]
  cases s.run P w <;> simp [Simple, Result.andThen]
theorem simple_bind {α : Type} (s : Sem α) (f : α → Sem Next) (h : ∀ a w, Simple ((f a).run P w)) (w : World) : Simple ((s >>= f).run P w) := by
  rw [Sem.run_bind]
  cases s.run P w with
  | ok a w' => exact h a w'
  | halt x w' => trivial
theorem simple_load {o : Oper} {t : TypeId} {x : Operand} (h : o.op = .load t x) (ρ : Operand → Value) (w : World) : Simple ((execOp ρ o).run P w) := by unfold execOp; simp only [h]; exact simple_v _ _
theorem simple_store {o : Oper} {t : TypeId} {x y : Operand} (h : o.op = .store t x y) (ρ : Operand → Value) (w : World) : Simple ((execOp ρ o).run P w) := by unfold execOp; simp only [h]; exact simple_u _ _
theorem simple_field {o : Oper} {t : TypeId} {x : Operand} {f : Nat} (h : o.op = .fieldAddr t x f) (ρ : Operand → Value) (w : World) : Simple ((execOp ρ o).run P w) := by unfold execOp; simp only [h]; exact simple_v _ _
theorem simple_index {o : Oper} {t : TypeId} {x y : Operand} (h : o.op = .indexAddr t x y) (ρ : Operand → Value) (w : World) : Simple ((execOp ρ o).run P w) := by unfold execOp; simp only [h]; exact simple_v _ _
def headOk : Op → Bool
  | .load .. | .store .. | .fieldAddr .. | .indexAddr .. | .nilCheck .. => true
  | _ => false
theorem simple_nil {o : Oper} {x : Operand} (h : o.op = .nilCheck x) (ρ : Operand → Value) (w : World) : Simple ((execOp ρ o).run P w) := by
  unfold execOp
  simp only [h]
  split
  all_goals first
    | (simp [Simple, runtimePanic]; done)
    | (split <;> first | (simp [Simple, runtimePanic]; done) | skip)
    | skip
  refine simple_bind _ _ (fun p w1 => simple_bind _ _ (fun q w2 => ?_) w1) w
  split
  · exact simple_bind _ _ (fun _ _ => by simp [Simple]) w2
  · simp [Simple]
theorem headOk_simple {o : Oper} (h : headOk o.op = true) (ρ : Operand → Value) (w : World) : Simple ((execOp ρ o).run P w) := by
  cases ho : o.op <;> rw [ho] at h <;> first | (cases h; done) | exact simple_load ho ρ w | exact simple_store ho ρ w | exact simple_field ho ρ w | exact simple_index ho ρ w | exact simple_nil ho ρ w
theorem headOk_defer {o : Oper} (h : headOk o.op = true) : ∀ c, o.op ≠ .defer c := fun c e => by rw [e] at h; cases h
/-- in a round such an operation runs as it does everywhere -/
theorem op_in {o : Oper} {a : Act} {w : World} {n l : Nat} {K : Act → World → Prop} {Q : Exit → Act → World → Prop} (hs : Simple ((execOp a.eval o).run P w)) (hd : ∀ c, o.op ≠ .defer c) (h : o.wp P a w K Q) : o.wpIn (Fence.wide.inRound l) n P a w K Q := by
  refine ⟨fun _ _ => trivial, ?_⟩
  rw [Oper.semAt_eq _ _ _ hd]
  unfold Oper.wp at h
  revert h hs
  generalize (execOp a.eval o).run P w = r
  intro hs h
  cases r with
  | ok x w' => cases x <;> simp only [Simple] at hs <;> exact h
  | halt x w' => cases x <;> exact h
theorem anyIn_of {md : Region.Mode} {ops : Array Oper} {Q : Exit → Act → World → Prop} {n l : Nat} (hd : ∀ (i : Nat) (o : Oper), ops[i]? = some o → ∀ c, o.op ≠ .defer c) (hQ : ¬ LetsOut Q) (hS : ∀ (i : Nat) (o : Oper), ops[i]? = some o → ∀ ρ w, Simple ((execOp ρ o).run P w)) :
    ∀ (fuel : Nat) (listed : Array Bool) (a : Act) (w : World), wpAny P md ops Q fuel listed a w → wpAnyIn (Fence.wide.inRound l) n P md ops Q fuel listed a w
  | 0, _, _, _, h => h
  | fuel + 1, listed, a, w, h => by
    refine ⟨h.1, fun i hi => ?_⟩
    have h1 := h.2 i hi
    unfold wpOp at h1
    unfold wpOpIn
    cases ho : ops[i]? with
    | none =>
      rw [ho] at h1
      exact anyIn_of hd hQ hS fuel _ _ _ h1
    | some o =>
      rw [ho] at h1
      simp only at h1 ⊢
      split at h1
      · rename_i hw
        rw [if_pos hw]
        rcases h1 with h1 | h1
        · exact Oper.wpIn_mono (fun a' w' => anyIn_of hd hQ hS fuel _ a' w') (op_in (hS i o ho _ _) (hd i o ho) h1)
        · exact absurd h1.2 hQ
      · rename_i hw
        rw [if_neg hw]
        exact ⟨fun _ _ => trivial, anyIn_of hd hQ hS fuel _ _ _ h1⟩
theorem region_in {id : Nat} {ops : Array Oper} {Q : Exit → Act → World → Prop} {a : Act} {w : World} {n l : Nat} {S : World → Prop} (hm : P.follows .mixedOrders = true) (hok : (ops.toList.all fun o => headOk o.op) = true) (hQ : ¬ LetsOut Q)
    (hS : S w.drew) (h : S w.drew → wpAnyH P .any ops Q S ops.size (Array.replicate ops.size false) a w.drew) : (Code.region id ops true).wpIn (Fence.wide.inRound l) n P Q a w := by
  have hall : ∀ (i : Nat) (o : Oper), ops[i]? = some o → headOk o.op = true := fun i o ho => by
    have hi := Array.mem_of_getElem? ho
    exact List.all_eq_true.1 hok o (by simpa using hi)
  exact wpIn_region_any hm (anyIn_of (fun i o ho => headOk_defer (hall i o ho)) hQ (fun i o ho => headOk_simple (hall i o ho)) _ _ _ _ (wpAny_of_held _ _ _ _ (h hS)))
theorem wpListIn_load_mid {F : Fence} {n : Nat} {ops : Array Oper} {rest : List Oper} {op : Oper} {a : Act} {w : World} {Q : Exit → Act → World → Prop} (hgd : op.guard = none) (ty : TypeId) (x : Operand) (ho : op.op = .load ty x)
    (b o : Nat) (hx : a.eval x = .pointer (some ⟨b, o, none⟩)) (cs : List Value) (d : TypeDesc) (hc : w.rangeAt b o cs) (hu : P.underlying ty = some d) (hd : d.isRow = true) (hi : (P.info? ty).map (·.size) = some cs.length)
    (h : wpListIn F n P ops Q rest (a.put op.dst (.agg cs.toArray)) w) : wpListIn F n P ops Q (op :: rest) a w := by
  refine wpListIn_plain hgd fun K hK => ⟨fun f hf => by simp [Oper.about, ho] at hf, ?_⟩
  rw [Oper.semAt_eq _ _ _ (fun c e => by rw [ho] at e; cases e)]
  have h1 := run_loadAt_mid (P := P) w b o ty cs d hc hu hd hi
  unfold execOp
  simp only [ho, hx, Sem.run_bind, h1, Result.andThen_ok]
  exact hK _ _ h
theorem wpListIn_store_in {F : Fence} {n : Nat} {ops : Array Oper} {rest : List Oper} {op : Oper} {a : Act} {w : World} {Q : Exit → Act → World → Prop} (hgd : op.guard = none) (ty : TypeId) (x y : Operand) (ho : op.op = .store ty x y)
    (g o : Nat) (vs : List Value) (hx : a.eval x = .pointer (some ⟨g, o, none⟩)) (hy : a.eval y = .agg vs.toArray) (t : TypeId) (cs : List Value) (hr : Row w g t cs) (hfit : o + vs.length ≤ cs.length) (h1 : ∀ v ∈ vs, v.oneCell' = true) (hi : (P.info? ty).map (·.size) = some vs.length)
    (h : ∀ w', Row w' g t (splice cs o vs) → w.grownBy w' (some g) → wpListIn F n P ops Q rest (a.put op.dst undef) w') : wpListIn F n P ops Q (op :: rest) a w := by
  refine wpListIn_plain hgd fun K hK => ⟨fun f hf => by simp [Oper.about, ho] at hf, ?_⟩
  rw [Oper.semAt_eq _ _ _ (fun c e => by rw [ho] at e; cases e)]
  have h2 := run_storeAt_mid (P := P) w g o ty vs.toArray (by rw [List.size_toArray]; exact Row.there hr hfit) (by rw [List.size_toArray]; exact hi) (all_oneCell_toArray h1)
  rw [List.toList_toArray] at h2
  unfold execOp
  simp only [ho, hx, hy, Sem.run_bind, h2, Result.andThen_ok]
  exact hK _ _ (h _ (Row.setCells vs o cs w hr hfit) (grown_setCells g vs o w))
end
end Go.Proofs.Yteemdjamgbbjhaa.Dsk
