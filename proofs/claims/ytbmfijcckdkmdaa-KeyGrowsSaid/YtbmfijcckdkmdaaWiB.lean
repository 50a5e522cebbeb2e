/-
  The reference's bits.
-/
import Derived.Test.YtbmfijcckdkmdaaWiA
namespace Go.Proofs.Ytbmfijcckdkmdaa.Wi
set_option maxRecDepth 100000
open Go.RowKit Go.Proofs.Ytbmfijcckdkmdaa.Wd

theorem zeros_len : zeros.length = 260 := List.length_replicate
theorem zeros_get (j : Nat) : zeros.getD j 0 = 0 := by
  unfold zeros
  rw [List.getD_eq_getElem?_getD, List.getElem?_replicate]
  split <;> rfl
/-- behind k rounds -/
def BitI (h l k : Nat) (m : List Nat) : Prop := m.length = 260 ∧ ∀ j, j < 260 → m.getD j 0 = if j < k then l / 2 ^ j % 2 else if 64 ≤ j ∧ j < 64 + k then h / 2 ^ (j - 64) % 2 else 0
theorem BitI.start (h l : Nat) : BitI h l 0 zeros := ⟨zeros_len, fun j hj => by rw [if_neg (by omega), if_neg (by omega), zeros_get]⟩
theorem getD_set (m : List Nat) (i x j : Nat) (h : i < m.length) : (m.set i x).getD j 0 = if j = i then x else m.getD j 0 := by
  simp only [List.getD_eq_getElem?_getD, List.getElem?_set]
  by_cases e : i = j
  · subst e; simp [h]
  · rw [if_neg e, if_neg (fun h => e h.symm)]
theorem BitI.step {h l k : Nat} {m : List Nat} (hm : BitI h l k m) (hk : k < 64) : BitI h l (k + 1) ((m.set k (l / 2 ^ k % 2)).set (64 + k) (h / 2 ^ k % 2)) := by
  obtain ⟨hl, hp⟩ := hm
  refine ⟨by simp [hl], fun j hj => ?_⟩
  rw [getD_set _ _ _ _ (by simp; omega), getD_set _ _ _ _ (by omega), hp j hj]
  by_cases e1 : j = 64 + k
  · subst e1
    rw [if_pos rfl, if_neg (by omega), if_pos (by omega), Nat.add_sub_cancel_left]
  · rw [if_neg e1]
    by_cases e2 : j = k
    · subst e2; rw [if_pos rfl, if_pos (by omega)]
    · rw [if_neg e2]
      by_cases e3 : j < k
      · rw [if_pos e3, if_pos (by omega)]
      · rw [if_neg e3]
        by_cases e4 : 64 ≤ j ∧ j < 64 + k
        · rw [if_pos e4, if_neg (show ¬ j < k + 1 by omega), if_pos (by omega)]
        · rw [if_neg e4, if_neg (show ¬ j < k + 1 by omega), if_neg (by omega)]
theorem two_div (h l j : Nat) (hl : l < 18446744073709551616) (hj : j < 64) : (h * 18446744073709551616 + l) / 2 ^ j % 2 = l / 2 ^ j % 2 := by
  have e : (18446744073709551616 : Nat) = 2 ^ (63 - j) * 2 * 2 ^ j := by
    rw [Nat.mul_assoc, Nat.mul_comm 2, ← Nat.pow_succ, ← Nat.pow_add, show 63 - j + (j + 1) = 64 from by omega]
  rw [e, ← Nat.mul_assoc, ← Nat.mul_assoc, Nat.add_comm, Nat.add_mul_div_right _ _ (Nat.two_pow_pos j)]
  omega
theorem two_div_high (h l j : Nat) (hl : l < 18446744073709551616) (hj : 64 ≤ j) : (h * 18446744073709551616 + l) / 2 ^ j = h / 2 ^ (j - 64) := by
  have e : 2 ^ j = 18446744073709551616 * 2 ^ (j - 64) := by
    rw [show (18446744073709551616 : Nat) = 2 ^ 64 from by decide, ← Nat.pow_add, show 64 + (j - 64) = j from by omega]
  rw [e, ← Nat.div_div_eq_div_mul]
  congr 1
  omega
theorem BitI.done {h l : Nat} {m : List Nat} (hm : BitI h l 64 m) (hh : h < 18446744073709551616) (hl : l < 18446744073709551616) : m = bitsN (h * 18446744073709551616 + l) := by
  obtain ⟨hlen, hp⟩ := hm
  refine List.ext_getElem (by rw [hlen, bitsN_len]) fun j h1 h2 => ?_
  have hj : j < 260 := by omega
  have e1 := hp j hj
  have e2 := bitsN_get (h * 18446744073709551616 + l) j hj
  simp only [List.getD_eq_getElem?_getD, List.getElem?_eq_getElem h1, List.getElem?_eq_getElem h2, Option.getD_some] at e1 e2
  rw [e1, e2]
  by_cases hj1 : j < 64
  · rw [if_pos hj1, two_div h l j hl hj1]
  · rw [if_neg hj1, two_div_high h l j hl (by omega)]
    by_cases hj2 : j < 128
    · rw [if_pos (by omega)]
    · rw [if_neg (by omega)]
      have : h / 2 ^ (j - 64) = 0 := Nat.div_eq_of_lt (Nat.lt_of_lt_of_le hh (Nat.le_trans (show 18446744073709551616 ≤ 2 ^ 64 from by decide) (Nat.pow_le_pow_right (by omega) (by omega))))
      rw [this]

theorem bit_v (x k : Nat) (hx : x < 18446744073709551616) : wrap64 (bits .and .u64 ((x : Int) / 2 ^ k) 1) = ((x / 2 ^ k % 2 : Nat) : Int) := by
  have e : (x : Int) / 2 ^ k = ((x / 2 ^ k : Nat) : Int) := by simp
  have h1 := u64_and_nat (x / 2 ^ k) 1 (Nat.lt_of_le_of_lt (Nat.div_le_self _ _) hx) (by decide)
  rw [Nat.and_one_is_mod] at h1
  rw [e, show (1 : Int) = ((1 : Nat) : Int) from rfl, h1]
  have : x / 2 ^ k % 2 < 2 := Nat.mod_lt _ (by omega)
  generalize x / 2 ^ k % 2 = z at *
  unfold wrap64
  omega
/-- the world of a round -/
def BitW (h l : Nat) (w wr : World) (k : Nat) : Prop := ∃ m, BitI h l k m ∧ Row wr (w.heap.size + 1 + 1) 59 (iv m) ∧ Row wr w.heap.size 33 [.int .u64 (h : Int), .int .u64 (l : Int)] ∧ Row wr (w.heap.size + 1) 59 (iv zeros) ∧ Below w.heap.size w wr

set_option maxHeartbeats 2000000 in
theorem Bits_any (h l : Nat) (w : World) (hh : h < 18446744073709551616) (hl : l < 18446744073709551616) :
    Calls Try.prog 41 #[.agg #[.int .u64 (h : Int), .int .u64 (l : Int)]] w fun e w' => e = .returned (arr (bitsN (h * 18446744073709551616 + l))) ∧ Below w.heap.size w w' := by
  go_enter Try.func41, Try.ntmps41
  have hR0 := row_last w w.heap.size 33 [.int .u64 (h : Int), .int .u64 (l : Int)] rfl
  have hB0 := (Below.refl w.heap.size w).alloc (Nat.le_refl _) (.cells #[.int .u64 (h : Int), .int .u64 (l : Int)] 33)
  have HR0 := Lib.hid hR0
  have HB0 := Lib.hid hB0
  clear hR0 hB0
  go_wp2_with (first
    | (refine wpList_alloc45 rfl rfl (some 2) rfl (w.heap.size + 1) (by simp) ?_; intro w1 hr1 hb1 hs1; have HR1 := Lib.hid hr1; have HQ1 := Lib.hid (HR0.out.below hb1 HR0.out.lt); have HB1 := Lib.hid (HB0.out.trans (hb1.mono HB0.out.size)); have HS1 := Lib.hid hs1; clear hr1 hb1 hs1)
    | (refine wpList_alloc45 rfl rfl (some 3) rfl (w.heap.size + 1 + 1) (by rw [HS1.out]) ?_; intro w2 hr2 hb2 hs2; have HR2 := Lib.hid hr2; have HQ2 := Lib.hid (HQ1.out.below hb2 HQ1.out.lt); have HP2 := Lib.hid (HR1.out.below hb2 HR1.out.lt); have HB2 := Lib.hid (HB1.out.trans (hb2.mono HB1.out.size)); clear hr2 hb2 hs2 HR1 HQ1 HB1 HS1 HR0 HB0))
  have HI0 := Lib.hid (show BitW h l w w2 0 from ⟨zeros, BitI.start h l, HR2.out, HQ2.out, HP2.out, HB2.out⟩)
  clear HR2 HQ2 HP2 HB2
  go_loopw [4] (fun i wr => ∃ k : Nat, k ≤ 64 ∧ i = .int .i64 k ∧ Hid (BitW h l w wr k)) (fun i _ => 64 - (intOf i).toNat)
  case atStart => exact ⟨0, by omega, rfl, HI0⟩
  rename World => wr
  obtain ⟨k, hk, rfl, HI⟩ := hrel
  clear HI0
  obtain ⟨m, hm, hrm, hrq, hrz, hbel⟩ := HI.out
  clear HI
  by_cases hlt : k < 64
  case neg =>
    obtain rfl : k = 64 := by omega
    have hmb := hm.done hh hl
    subst hmb
    have HR := Lib.hid hrm
    have HZ := Lib.hid hrz
    have HB := Lib.hid hbel
    clear hm hrm hrq hrz hbel
    go_wp2_with (first
      | (refine wpList_load45 rfl (.tmp 3) rfl (w.heap.size + 1 + 1) rfl (bitsN (h * 18446744073709551616 + l)) HR.out (bitsN_len _) (some 26) rfl ?_)
      | (refine wpList_store45 rfl (.tmp 2) (.tmp 26) rfl rfl (w.heap.size + 1) rfl (bitsN (h * 18446744073709551616 + l)) zeros rfl HZ.out zeros_len (bitsN_len _) ?_; intro w5 hr5 hg5 hs5; have HR5 := Lib.hid hr5; have HB5 := Lib.hid (HB.out.grown hg5 HB.out.size (fun i hi => by cases hi; omega)); clear hr5 hg5 hs5))
    exact bodyPost_ret (v := arr (bitsN (h * 18446744073709551616 + l))) (results45 rfl _ _ (w.heap.size + 1) _ rfl HR5.out (bitsN_len _)) rfl ⟨rfl, HB5.out⟩
  case pos =>
    have hc0 := hrq.cell 0
    have hc1 := hrq.cell 1
    simp at hc0 hc1
    have hck := (hrm.cell k).trans (iv_cell m k (by rw [hm.1]; omega))
    have hcj := (hrm.cell (64 + k)).trans (iv_cell m (64 + k) (by rw [hm.1]; omega))
    have hfk := hrm.frozen k
    have hfj := hrm.frozen (64 + k)
    have e1 := bit_v l k hl
    have e2 := bit_v h k hh
    have hn := hm.step hlt
    have hr2 := (hrm.store k (.int .i64 ((l / 2 ^ k % 2 : Nat) : Int))).store (64 + k) (.int .i64 ((h / 2 ^ k % 2 : Nat) : Int))
    rw [iv_set, iv_set] at hr2
    have hq2 := (hrq.far (p := ⟨w.heap.size + 1 + 1, k, none⟩) (by dsimp only; omega) (.int .i64 ((l / 2 ^ k % 2 : Nat) : Int))).far (p := ⟨w.heap.size + 1 + 1, 64 + k, none⟩) (by dsimp only; omega) (.int .i64 ((h / 2 ^ k % 2 : Nat) : Int))
    have hz2 := (hrz.far (p := ⟨w.heap.size + 1 + 1, k, none⟩) (by dsimp only; omega) (.int .i64 ((l / 2 ^ k % 2 : Nat) : Int))).far (p := ⟨w.heap.size + 1 + 1, 64 + k, none⟩) (by dsimp only; omega) (.int .i64 ((h / 2 ^ k % 2 : Nat) : Int))
    have hb2 := (hbel.setCell (p := ⟨w.heap.size + 1 + 1, k, none⟩) (by dsimp only; omega) (.int .i64 ((l / 2 ^ k % 2 : Nat) : Int))).setCell (p := ⟨w.heap.size + 1 + 1, 64 + k, none⟩) (by dsimp only; omega) (.int .i64 ((h / 2 ^ k % 2 : Nat) : Int))
    have HF := Lib.hid (show BitW h l w _ (k + 1) from ⟨_, hn, hr2, hq2, hz2, hb2⟩)
    clear hm hn hr2 hq2 hz2 hb2 hrm hrq hrz hbel
    generalize l / 2 ^ k % 2 = x at *
    generalize h / 2 ^ k % 2 = y at *
    generalize m.getD k 0 = p at *
    generalize m.getD (64 + k) 0 = q at *
    go_wp2
    exact ⟨⟨k + 1, by omega, by go_num, HF⟩, by simp [intOf]; omega⟩
end Go.Proofs.Ytbmfijcckdkmdaa.Wi
