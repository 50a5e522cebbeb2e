/-
  The reference's number of bits.
-/
import Derived.Test.YtbmfijcckdkmdaaWiC
namespace Go.Proofs.Ytbmfijcckdkmdaa.Wi
set_option maxRecDepth 100000
open Go.RowKit Go.Proofs.Ytbmfijcckdkmdaa.Wd

theorem or_bit (x p k : Nat) (hx : x < 2 ^ k) (hp : p ≤ 1) (hk : k < 64) : bits .or .u64 (x : Int) ((p * 2 ^ k : Nat) : Int) = ((x + p * 2 ^ k : Nat) : Int) := by
  have hk2 : 2 ^ k * 2 ≤ 2 ^ 64 := by rw [← Nat.pow_succ]; exact Nat.pow_le_pow_right (by omega) (by omega)
  have h64 : (2 : Nat) ^ 64 = 18446744073709551616 := by decide
  have hpk : p * 2 ^ k ≤ 2 ^ k := by have := Nat.mul_le_mul_right (2 ^ k) hp; omega
  rw [u64_or_nat x (p * 2 ^ k) (by omega) (by omega)]
  congr 1
  have := Nat.two_pow_add_eq_or_of_lt (i := k) (b := x) hx p
  rw [Nat.mul_comm, Nat.or_comm, ← this, Nat.add_comm]
theorem wrap_bit (p k : Nat) (hp : p ≤ 1) (hk : k < 64) : IntKind.u64.wrap ((p : Int) * 2 ^ k) = ((p * 2 ^ k : Nat) : Int) := by
  have hk2 : 2 ^ k * 2 ≤ 2 ^ 64 := by rw [← Nat.pow_succ]; exact Nat.pow_le_pow_right (by omega) (by omega)
  have h64 : (2 : Nat) ^ 64 = 18446744073709551616 := by decide
  have hpk : p * 2 ^ k ≤ 2 ^ k := by have := Nat.mul_le_mul_right (2 ^ k) hp; omega
  have e : (p : Int) * 2 ^ k = ((p * 2 ^ k : Nat) : Int) := by simp
  rw [e]
  exact u64_wrap (by omega) (by omega)
/-- one bit more -/
theorem mod_bit (x k : Nat) : x % 2 ^ (k + 1) = x % 2 ^ k + x / 2 ^ k % 2 * 2 ^ k := by
  rw [Nat.pow_succ, Nat.mod_mul, Nat.mul_comm (x / 2 ^ k % 2)]
/-- the world of a round -/
def OfW (n : Nat) (w wr : World) (k : Nat) : Prop := ∃ h l : Nat, l = n % 2 ^ k ∧ h = n / 18446744073709551616 % 2 ^ k ∧ Row wr (w.heap.size + 1 + 1) 33 [.int .u64 (h : Int), .int .u64 (l : Int)] ∧ Row wr w.heap.size 59 (iv (bitsN n)) ∧ Row wr (w.heap.size + 1) 33 [.int .u64 0, .int .u64 0] ∧ Below w.heap.size w wr

set_option maxHeartbeats 2000000 in
theorem Of_any (n h l : Nat) (w : World) (hl : l = n % 18446744073709551616) (hh : h = n / 18446744073709551616 % 18446744073709551616) :
    Calls Try.prog 42 #[arr (bitsN n)] w fun e w' => e = .returned (.agg #[.int .u64 (h : Int), .int .u64 (l : Int)]) ∧ Below w.heap.size w w' := by
  have HLL := Lib.hid hl
  have HHH := Lib.hid hh
  clear hl hh
  go_enter Try.func42, Try.ntmps42
  go_wp2_with (first
    | (refine wpList_box45 rfl (.tmp 0) rfl (bitsN n) rfl (some 1) rfl w.heap.size rfl ?_; intro w1 hr1 hb1 hs1; have HR1 := Lib.hid hr1; have HB1 := Lib.hid hb1; have HS1 := Lib.hid hs1; clear hr1 hb1 hs1))
  have hsz := HS1.out
  rw [hsz]
  have HI0 := Lib.hid (show OfW n w ((w1.alloc (.cells #[.int .u64 0, .int .u64 0] 33)).alloc (.cells #[.int .u64 0, .int .u64 0] 33)) 0 from
    ⟨0, 0, by rw [Nat.pow_zero, Nat.mod_one], by rw [Nat.pow_zero, Nat.mod_one], row_last _ _ _ _ (by simp [hsz]), (HR1.out.alloc _).alloc _, (row_last _ _ _ _ hsz.symm).alloc _, (HB1.out.alloc HB1.out.size _).alloc (by simp [hsz]; omega) _⟩)
  generalize (w1.alloc (.cells #[.int .u64 0, .int .u64 0] 33)).alloc (.cells #[.int .u64 0, .int .u64 0] 33) = w2 at HI0 ⊢
  clear hsz HS1 HR1 HB1
  go_loopw [4] (fun i wr => ∃ k : Nat, k ≤ 64 ∧ i = .int .i64 k ∧ Hid (OfW n w wr k)) (fun i _ => 64 - (intOf i).toNat)
  case atStart => exact ⟨0, by omega, rfl, HI0⟩
  rename World => wr
  obtain ⟨k, hk, rfl, HI⟩ := hrel
  clear HI0
  obtain ⟨hi, lo, hlo, hhi, hro, hra, hrz, hbel⟩ := HI.out
  clear HI
  by_cases hlt : k < 64
  case neg =>
    obtain rfl : k = 64 := by omega
    have e1 : lo = l := by rw [hlo, HLL.out]
    have e2 : hi = h := by rw [hhi, HHH.out]
    subst e1 e2
    have hc0 := hro.cell 0
    have hc1 := hro.cell 1
    have hz0 := hrz.cell 0
    have hz1 := hrz.cell 1
    have hf0 := hrz.frozen 0
    have hf1 := hrz.frozen 1
    simp at hc0 hc1 hz0 hz1
    have HB := Lib.hid hbel
    clear hlo hhi hro hra hrz hbel
    go_wp2
    exact bodyPost_ret (v := .agg #[.int .u64 (hi : Int), .int .u64 (lo : Int)]) (by simp [results, Try.results42, go_sem, *]) rfl ⟨rfl, (HB.out.setCell (by dsimp only; omega) _).setCell (by dsimp only; omega) _⟩
  case pos =>
    have HR0 := Lib.hid hro
    have HRA := Lib.hid hra
    have HRZ := Lib.hid hrz
    have HB := Lib.hid hbel
    obtain ⟨p, hp⟩ : ∃ p, p = n / 2 ^ k % 2 := ⟨_, rfl⟩
    obtain ⟨q, hq⟩ : ∃ p, p = n / 18446744073709551616 / 2 ^ k % 2 := ⟨_, rfl⟩
    obtain ⟨l2, hl2⟩ : ∃ z, z = lo + p * 2 ^ k := ⟨_, rfl⟩
    obtain ⟨h2, hh2⟩ : ∃ z, z = hi + q * 2 ^ k := ⟨_, rfl⟩
    have hp1 : p ≤ 1 := by have := Nat.mod_lt (n / 2 ^ k) (show 0 < 2 by omega); omega
    have hq1 : q ≤ 1 := by have := Nat.mod_lt (n / 18446744073709551616 / 2 ^ k) (show 0 < 2 by omega); omega
    have hlo2 : l2 = n % 2 ^ (k + 1) := by rw [mod_bit, ← hlo, ← hp, hl2]
    have hhi2 : h2 = n / 18446744073709551616 % 2 ^ (k + 1) := by rw [mod_bit, ← hhi, ← hq, hh2]
    have hk260 : (k : Int) < 260 := by omega
    obtain ⟨j, hj⟩ : ∃ j, j = 64 + k := ⟨_, rfl⟩
    have hj260 : (j : Int) < 260 := by omega
    have hjw : IntKind.i64.wrap (64 + (k : Int)) = (j : Int) := by rw [IntKind.wrap_i64]; omega
    have HC5 := Lib.hid (show ∀ w', Below (w.heap.size + 1 + 1) wr w' → w'.cell? ⟨w.heap.size, k, none⟩ = some (.int .i64 (p : Int)) from fun w' hb => by
      rw [hp, ← bitsN_get n k (by omega)]; exact ((HRA.out.below hb (by omega)).cell k).trans (iv_cell _ k (by rw [bitsN_len]; omega)))
    have HC6 := Lib.hid (show ∀ w', Below (w.heap.size + 1 + 1) wr w' → w'.cell? ⟨w.heap.size, j, none⟩ = some (.int .i64 (q : Int)) from fun w' hb => by
      rw [hj, hq, show n / 18446744073709551616 / 2 ^ k = n / 2 ^ (64 + k) from by rw [Nat.pow_add, ← Nat.div_div_eq_div_mul], ← bitsN_get n (64 + k) (by omega)]; exact ((HRA.out.below hb (by omega)).cell (64 + k)).trans (iv_cell _ (64 + k) (by rw [bitsN_len]; omega)))
    have wp : IntKind.u64.wrap (p : Int) = (p : Int) := u64_wrap (by omega) (by omega)
    have wq : IntKind.u64.wrap (q : Int) = (q : Int) := u64_wrap (by omega) (by omega)
    obtain ⟨s, hs⟩ : ∃ z, z = p * 2 ^ k := ⟨_, rfl⟩
    obtain ⟨t, ht⟩ : ∃ z, z = q * 2 ^ k := ⟨_, rfl⟩
    have ws : IntKind.u64.wrap ((p : Int) * 2 ^ k) = (s : Int) := by rw [hs]; exact wrap_bit p k hp1 hlt
    have wt : IntKind.u64.wrap ((q : Int) * 2 ^ k) = (t : Int) := by rw [ht]; exact wrap_bit q k hq1 hlt
    have o5 : bits .or .u64 (lo : Int) (s : Int) = (l2 : Int) := by rw [hl2, hs]; exact or_bit lo p k (by rw [hlo]; exact Nat.mod_lt _ (Nat.two_pow_pos k)) hp1 hlt
    have o6 : bits .or .u64 (hi : Int) (t : Int) = (h2 : Int) := by rw [hh2, ht]; exact or_bit hi q k (by rw [hhi]; exact Nat.mod_lt _ (Nat.two_pow_pos k)) hq1 hlt
    clear hs ht
    have HL2 := Lib.hid hlo2
    have HH2 := Lib.hid hhi2
    have hc0 := hro.cell 0
    have hc1 := hro.cell 1
    simp at hc0 hc1
    clear hj hro hra hrz hbel hp hq hl2 hh2 hlo hhi hlo2 hhi2
    go_wp2_with fail
    clear hc0 hc1
    refine wp_region_held_drew (S := fun w' => Below (w.heap.size + 1 + 1) wr w') (by kernel_rfl) (Below.refl _ _).drew (fun hHeld => ?_)
    have S5 := Lib.hid hHeld
    have HR5 := Lib.hid HR0.out.drew
    clear hHeld HR0
    generalize wr.drew = wd5 at S5 HR5 ⊢
    have hf0 := HR5.out.frozen 0
    have hf1 := HR5.out.frozen 1
    have hc0 := HR5.out.cell 0
    have hc1 := HR5.out.cell 1
    simp at hc0 hc1
    refine wpAnyH_take (i := 0) (oi := ⟨some 9, _, _, _, _, _⟩) (v := ?vo5_1) rfl (by kernel_rfl) (by kernel_rfl) (by kernel_rfl) (fun _ _ _ h => h) (Or.inl ⟨by rfl, ?yo5_1⟩) S5.out ?ro5_1
    case yo5_1 =>
      rintro w' hSw
      go_simp
      try with_reducible rfl
    try simp only [Act.put, List.setIfInBounds_toArray, List.set_cons_zero, List.set_cons_succ]
    refine wpAnyH_take (i := 2) (oi := ⟨some 11, _, _, _, _, _⟩) (v := ?vo5_2) rfl (by kernel_rfl) (by kernel_rfl) (by kernel_rfl) (fun _ _ _ h => h) (Or.inl ⟨by rfl, ?yo5_2⟩) S5.out ?ro5_2
    case yo5_2 =>
      rintro w' hSw
      go_simp
      try with_reducible rfl
    try simp only [Act.put, List.setIfInBounds_toArray, List.set_cons_zero, List.set_cons_succ]
    refine wpAnyH_take (i := 3) (oi := ⟨some 12, _, _, _, _, _⟩) (v := ?vo5_3) rfl (by kernel_rfl) (by kernel_rfl) (by kernel_rfl) (fun _ _ _ h => h) (Or.inl ⟨by rfl, ?yo5_3⟩) S5.out ?ro5_3
    case yo5_3 =>
      rintro w' hSw
      go_simp
      try with_reducible rfl
    try simp only [Act.put, List.setIfInBounds_toArray, List.set_cons_zero, List.set_cons_succ]
    refine wpAnyH_take (i := 4) (oi := ⟨some 13, _, _, _, _, _⟩) (v := ?vo5_4) rfl (by kernel_rfl) (by kernel_rfl) (by kernel_rfl) (fun _ _ _ h => h) (Or.inl ⟨by rfl, ?yo5_4⟩) S5.out ?ro5_4
    case yo5_4 =>
      rintro w' hSw
      have c0 := HC5.out w' hSw
      go_simp
      try with_reducible rfl
    try simp only [Act.put, List.setIfInBounds_toArray, List.set_cons_zero, List.set_cons_succ]
    refine wpAnyH_take (i := 5) (oi := ⟨some 14, _, _, _, _, _⟩) (v := ?vo5_5) rfl (by kernel_rfl) (by kernel_rfl) (by kernel_rfl) (fun _ _ _ h => h) (Or.inl ⟨by rfl, ?yo5_5⟩) S5.out ?ro5_5
    case yo5_5 =>
      rintro w' hSw
      go_simp
      try with_reducible rfl
    try simp only [Act.put, List.setIfInBounds_toArray, List.set_cons_zero, List.set_cons_succ]
    refine wpAnyH_take (i := 6) (oi := ⟨some 15, _, _, _, _, _⟩) (v := ?vo5_6) rfl (by kernel_rfl) (by kernel_rfl) (by kernel_rfl) (fun _ _ _ h => h) (Or.inl ⟨by rfl, ?yo5_6⟩) S5.out ?ro5_6
    case yo5_6 =>
      rintro w' hSw
      go_simp
      try with_reducible rfl
    try simp only [Act.put, List.setIfInBounds_toArray, List.set_cons_zero, List.set_cons_succ]
    refine wpAnyH_take (i := 7) (oi := ⟨some 16, _, _, _, _, _⟩) (v := ?vo5_7) rfl (by kernel_rfl) (by kernel_rfl) (by kernel_rfl) (fun _ _ _ h => h) (Or.inl ⟨by rfl, ?yo5_7⟩) S5.out ?ro5_7
    case yo5_7 =>
      rintro w' hSw
      go_simp
      try with_reducible rfl
    try simp only [Act.put, List.setIfInBounds_toArray, List.set_cons_zero, List.set_cons_succ]
    refine wpAnyH_ready (rs := [1]) (by kernel_rfl) (by simp) ?_
    refine (AllReadyH.cons rfl (fun K hK => ?_) AllReadyH.nil)
    rw [if_pos (by rfl)]
    go_simp
    refine hK _ _ S5.out (fun _ => ?_)
    clear hK K
    try simp only [Act.put, List.setIfInBounds_toArray, List.set_cons_zero, List.set_cons_succ]
    refine wpAnyH_take (i := 8) (oi := ⟨some 17, _, _, _, _, _⟩) (v := ?vo5_9) rfl (by kernel_rfl) (by kernel_rfl) (by kernel_rfl) (fun _ _ _ h => h) (Or.inl ⟨by rfl, ?yo5_9⟩) S5.out ?ro5_9
    case yo5_9 =>
      rintro w' hSw
      go_simp
      try with_reducible rfl
    try simp only [Act.put, List.setIfInBounds_toArray, List.set_cons_zero, List.set_cons_succ]
    refine wpAnyH_take (i := 9) (oi := ⟨some 18, _, _, _, _, _⟩) (v := ?vo5_10) rfl (by kernel_rfl) (by kernel_rfl) (by kernel_rfl) (fun _ _ _ h => h) (Or.inl ⟨by rfl, ?yo5_10⟩) S5.out ?ro5_10
    case yo5_10 =>
      rintro w' hSw
      go_simp
      try with_reducible rfl
    try simp only [Act.put, List.setIfInBounds_toArray, List.set_cons_zero, List.set_cons_succ]
    refine wpAnyH_ready (rs := [10]) (by kernel_rfl) (by simp) ?_
    refine (AllReadyH.cons rfl (fun K hK => ?_) AllReadyH.nil)
    rw [if_pos (by rfl)]
    go_simp
    have HT5 := Lib.hid ((HR5.out.store 1 (.int .u64 (l2 : Int))))
    have HS5 : Hid (Below (w.heap.size + 1 + 1) wr (wd5.setCell ⟨w.heap.size + 1 + 1, 1, none⟩ (.int .u64 (l2 : Int)))) := Lib.hid (S5.out.setCell (p := ⟨w.heap.size + 1 + 1, 1, none⟩) (Nat.le_refl _) _)
    generalize wd5.setCell ⟨w.heap.size + 1 + 1, 1, none⟩ (.int .u64 (l2 : Int)) = v5 at HT5 HS5 ⊢
    refine hK _ _ HS5.out (fun _ => ?_)
    clear hK K
    try simp only [Act.put, List.setIfInBounds_toArray, List.set_cons_zero, List.set_cons_succ]
    refine wpAnyH_done (by kernel_rfl) ?_ _
    clear hf0 hf1 hc0 hc1
    have hf0 := HT5.out.frozen 0
    have hf1 := HT5.out.frozen 1
    have hc0 := HT5.out.cell 0
    have hc1 := HT5.out.cell 1
    simp at hc0 hc1
    go_wp2_with fail
    refine wp_region_held_drew (S := fun w' => Below (w.heap.size + 1 + 1) wr w') (by kernel_rfl) HS5.out.drew (fun hHeld => ?_)
    have S6 := Lib.hid hHeld
    have HR6 := Lib.hid HT5.out.drew
    clear hHeld hf0 hf1 hc0 hc1
    generalize v5.drew = wd6 at S6 HR6 ⊢
    have hf0 := HR6.out.frozen 0
    have hf1 := HR6.out.frozen 1
    have hc0 := HR6.out.cell 0
    have hc1 := HR6.out.cell 1
    simp at hc0 hc1
    refine wpAnyH_take (i := 0) (oi := ⟨some 19, _, _, _, _, _⟩) (v := ?vo6_1) rfl (by kernel_rfl) (by kernel_rfl) (by kernel_rfl) (fun _ _ _ h => h) (Or.inl ⟨by rfl, ?yo6_1⟩) S6.out ?ro6_1
    case yo6_1 =>
      rintro w' hSw
      go_simp
      try with_reducible rfl
    try simp only [Act.put, List.setIfInBounds_toArray, List.set_cons_zero, List.set_cons_succ]
    refine wpAnyH_take (i := 2) (oi := ⟨some 21, _, _, _, _, _⟩) (v := ?vo6_2) rfl (by kernel_rfl) (by kernel_rfl) (by kernel_rfl) (fun _ _ _ h => h) (Or.inl ⟨by rfl, ?yo6_2⟩) S6.out ?ro6_2
    case yo6_2 =>
      rintro w' hSw
      go_simp
      try with_reducible rfl
    try simp only [Act.put, List.setIfInBounds_toArray, List.set_cons_zero, List.set_cons_succ]
    refine wpAnyH_take (i := 3) (oi := ⟨some 22, _, _, _, _, _⟩) (v := ?vo6_3) rfl (by kernel_rfl) (by kernel_rfl) (by kernel_rfl) (fun _ _ _ h => h) (Or.inl ⟨by rfl, ?yo6_3⟩) S6.out ?ro6_3
    case yo6_3 =>
      rintro w' hSw
      go_simp
      try with_reducible rfl
    try simp only [Act.put, List.setIfInBounds_toArray, List.set_cons_zero, List.set_cons_succ]
    refine wpAnyH_take (i := 4) (oi := ⟨some 23, _, _, _, _, _⟩) (v := ?vo6_4) rfl (by kernel_rfl) (by kernel_rfl) (by kernel_rfl) (fun _ _ _ h => h) (Or.inl ⟨by rfl, ?yo6_4⟩) S6.out ?ro6_4
    case yo6_4 =>
      rintro w' hSw
      go_simp
      try with_reducible rfl
    try simp only [Act.put, List.setIfInBounds_toArray, List.set_cons_zero, List.set_cons_succ]
    refine wpAnyH_take (i := 5) (oi := ⟨some 24, _, _, _, _, _⟩) (v := ?vo6_5) rfl (by kernel_rfl) (by kernel_rfl) (by kernel_rfl) (fun _ _ _ h => h) (Or.inl ⟨by rfl, ?yo6_5⟩) S6.out ?ro6_5
    case yo6_5 =>
      rintro w' hSw
      have c0 := HC6.out w' hSw
      go_simp
      try with_reducible rfl
    try simp only [Act.put, List.setIfInBounds_toArray, List.set_cons_zero, List.set_cons_succ]
    refine wpAnyH_take (i := 6) (oi := ⟨some 25, _, _, _, _, _⟩) (v := ?vo6_6) rfl (by kernel_rfl) (by kernel_rfl) (by kernel_rfl) (fun _ _ _ h => h) (Or.inl ⟨by rfl, ?yo6_6⟩) S6.out ?ro6_6
    case yo6_6 =>
      rintro w' hSw
      go_simp
      try with_reducible rfl
    try simp only [Act.put, List.setIfInBounds_toArray, List.set_cons_zero, List.set_cons_succ]
    refine wpAnyH_take (i := 7) (oi := ⟨some 26, _, _, _, _, _⟩) (v := ?vo6_7) rfl (by kernel_rfl) (by kernel_rfl) (by kernel_rfl) (fun _ _ _ h => h) (Or.inl ⟨by rfl, ?yo6_7⟩) S6.out ?ro6_7
    case yo6_7 =>
      rintro w' hSw
      go_simp
      try with_reducible rfl
    try simp only [Act.put, List.setIfInBounds_toArray, List.set_cons_zero, List.set_cons_succ]
    refine wpAnyH_take (i := 8) (oi := ⟨some 27, _, _, _, _, _⟩) (v := ?vo6_8) rfl (by kernel_rfl) (by kernel_rfl) (by kernel_rfl) (fun _ _ _ h => h) (Or.inl ⟨by rfl, ?yo6_8⟩) S6.out ?ro6_8
    case yo6_8 =>
      rintro w' hSw
      go_simp
      try with_reducible rfl
    try simp only [Act.put, List.setIfInBounds_toArray, List.set_cons_zero, List.set_cons_succ]
    refine wpAnyH_ready (rs := [1]) (by kernel_rfl) (by simp) ?_
    refine (AllReadyH.cons rfl (fun K hK => ?_) AllReadyH.nil)
    rw [if_pos (by rfl)]
    go_simp
    refine hK _ _ S6.out (fun _ => ?_)
    clear hK K
    try simp only [Act.put, List.setIfInBounds_toArray, List.set_cons_zero, List.set_cons_succ]
    refine wpAnyH_take (i := 9) (oi := ⟨some 28, _, _, _, _, _⟩) (v := ?vo6_10) rfl (by kernel_rfl) (by kernel_rfl) (by kernel_rfl) (fun _ _ _ h => h) (Or.inl ⟨by rfl, ?yo6_10⟩) S6.out ?ro6_10
    case yo6_10 =>
      rintro w' hSw
      go_simp
      try with_reducible rfl
    try simp only [Act.put, List.setIfInBounds_toArray, List.set_cons_zero, List.set_cons_succ]
    refine wpAnyH_take (i := 10) (oi := ⟨some 29, _, _, _, _, _⟩) (v := ?vo6_11) rfl (by kernel_rfl) (by kernel_rfl) (by kernel_rfl) (fun _ _ _ h => h) (Or.inl ⟨by rfl, ?yo6_11⟩) S6.out ?ro6_11
    case yo6_11 =>
      rintro w' hSw
      go_simp
      try with_reducible rfl
    try simp only [Act.put, List.setIfInBounds_toArray, List.set_cons_zero, List.set_cons_succ]
    refine wpAnyH_ready (rs := [11]) (by kernel_rfl) (by simp) ?_
    refine (AllReadyH.cons rfl (fun K hK => ?_) AllReadyH.nil)
    rw [if_pos (by rfl)]
    go_simp
    have HT6 := Lib.hid ((HR6.out.store 0 (.int .u64 (h2 : Int))))
    have HS6 : Hid (Below (w.heap.size + 1 + 1) wr (wd6.setCell ⟨w.heap.size + 1 + 1, 0, none⟩ (.int .u64 (h2 : Int)))) := Lib.hid (S6.out.setCell (p := ⟨w.heap.size + 1 + 1, 0, none⟩) (Nat.le_refl _) _)
    generalize wd6.setCell ⟨w.heap.size + 1 + 1, 0, none⟩ (.int .u64 (h2 : Int)) = v6 at HT6 HS6 ⊢
    refine hK _ _ HS6.out (fun _ => ?_)
    clear hK K
    try simp only [Act.put, List.setIfInBounds_toArray, List.set_cons_zero, List.set_cons_succ]
    refine wpAnyH_done (by kernel_rfl) ?_ _
    clear hf0 hf1 hc0 hc1
    have HF := Lib.hid (show OfW n w v6 (k + 1) from ⟨_, _, HL2.out, HH2.out, HT6.out, HRA.out.below HS6.out (by omega), HRZ.out.below HS6.out (by omega), HB.out.trans (HS6.out.mono (by omega))⟩)
    clear HT5 HS5 HT6 HS6 HRA HRZ HB HC5 HC6
    go_wp2
    exact ⟨⟨k + 1, by omega, by go_num, HF⟩, by simp [intOf]; omega⟩
end Go.Proofs.Ytbmfijcckdkmdaa.Wi
