/-
  The reference's sum of bits.
-/
import Derived.Test.YtbmfijcckdkmdaaWiB
namespace Go.Proofs.Ytbmfijcckdkmdaa.Wi
set_option maxRecDepth 100000
open Go.RowKit Go.Proofs.Ytbmfijcckdkmdaa.Wd

/-- behind the bits below k, the carry c -/
def PlusI (x Y k c : Nat) (m : List Nat) : Prop := m.length = 260 ∧ (∀ j, j < 260 → m.getD j 0 = if j < k then (x + Y) / 2 ^ j % 2 else x / 2 ^ j % 2) ∧ c = (x % 2 ^ k + Y % 2 ^ k) / 2 ^ k
theorem PlusI.start (x y up : Nat) : PlusI x (y * 2 ^ up) up 0 (bitsN x) := by
  refine ⟨bitsN_len x, fun j hj => ?_, ?_⟩
  · rw [bitsN_get x j hj]
    by_cases h : j < up
    · rw [if_pos h]
      have e : y * 2 ^ up = y * 2 ^ (up - j - 1) * 2 * 2 ^ j := by
        rw [Nat.mul_assoc, Nat.mul_assoc, Nat.mul_comm 2, ← Nat.pow_succ, ← Nat.pow_add, show up - j - 1 + (j + 1) = up from by omega]
      rw [e, Nat.add_mul_div_right _ _ (Nat.two_pow_pos j)]
      omega
    · rw [if_neg h]
  · rw [Nat.mul_mod_left, Nat.add_zero]
    exact (Nat.div_eq_of_lt (Nat.mod_lt _ (Nat.two_pow_pos up))).symm
theorem PlusI.carry {x Y k c : Nat} {m : List Nat} (h : PlusI x Y k c m) : c ≤ 1 := by
  rw [h.2.2]
  have h1 := Nat.mod_lt x (Nat.two_pow_pos k)
  have h2 := Nat.mod_lt Y (Nat.two_pow_pos k)
  have : x % 2 ^ k + Y % 2 ^ k < 2 * 2 ^ k := by omega
  have := (Nat.div_lt_iff_lt_mul (Nat.two_pow_pos k)).2 this
  omega
theorem PlusI.step {x Y k c n : Nat} {m : List Nat} (h : PlusI x Y k c m) (hk : k < 260) (hn : n = x / 2 ^ k % 2 + Y / 2 ^ k % 2 + c) : PlusI x Y (k + 1) (n / 2) (m.set k (n % 2)) := by
  obtain ⟨hl, hp, hc⟩ := h
  have hP := Nat.two_pow_pos k
  have h1 := Nat.mod_lt x hP
  have h2 := Nat.mod_lt Y hP
  have ex : 2 ^ k * (x / 2 ^ k) + x % 2 ^ k = x := Nat.div_add_mod x (2 ^ k)
  have eY : 2 ^ k * (Y / 2 ^ k) + Y % 2 ^ k = Y := Nat.div_add_mod Y (2 ^ k)
  refine ⟨by simp [hl], fun j hj => ?_, ?_⟩
  · rw [getD_set _ _ _ _ (by omega)]
    by_cases e : j = k
    · subst e
      rw [if_pos rfl, if_pos (by omega), hn, hc]
      have es : x + Y = (x % 2 ^ j + Y % 2 ^ j) + (x / 2 ^ j + Y / 2 ^ j) * 2 ^ j := by rw [Nat.add_mul, Nat.mul_comm (x / 2 ^ j), Nat.mul_comm (Y / 2 ^ j)]; omega
      rw [es, Nat.add_mul_div_right _ _ hP]
      omega
    · rw [if_neg e, hp j hj]
      by_cases e2 : j < k
      · rw [if_pos e2, if_pos (by omega)]
      · rw [if_neg e2, if_neg (by omega)]
  · have e1 : x % 2 ^ (k + 1) = x % 2 ^ k + 2 ^ k * (x / 2 ^ k % 2) := by rw [Nat.pow_succ, Nat.mod_mul]
    have e2 : Y % 2 ^ (k + 1) = Y % 2 ^ k + 2 ^ k * (Y / 2 ^ k % 2) := by rw [Nat.pow_succ, Nat.mod_mul]
    rw [e1, e2, Nat.pow_succ, ← Nat.div_div_eq_div_mul]
    have es : x % 2 ^ k + 2 ^ k * (x / 2 ^ k % 2) + (Y % 2 ^ k + 2 ^ k * (Y / 2 ^ k % 2)) = (x % 2 ^ k + Y % 2 ^ k) + (x / 2 ^ k % 2 + Y / 2 ^ k % 2) * 2 ^ k := by rw [Nat.add_mul, Nat.mul_comm (x / 2 ^ k % 2), Nat.mul_comm (Y / 2 ^ k % 2)]; omega
    rw [es, Nat.add_mul_div_right _ _ hP, ← hc, hn, Nat.add_comm c]
theorem PlusI.done {x Y c : Nat} {m : List Nat} (h : PlusI x Y 260 c m) : m = bitsN (x + Y) := by
  obtain ⟨hlen, hp, -⟩ := h
  refine List.ext_getElem (by rw [hlen, bitsN_len]) fun j h1 h2 => ?_
  have hj : j < 260 := by omega
  have e1 := hp j hj
  have e2 := bitsN_get (x + Y) j hj
  simp only [List.getD_eq_getElem?_getD, List.getElem?_eq_getElem h1, List.getElem?_eq_getElem h2, Option.getD_some] at e1 e2
  rw [e1, e2, if_pos hj]
/-- the world of a round -/
def PlusW (x y up : Nat) (w wr : World) (k c : Nat) : Prop := ∃ m, PlusI x (y * 2 ^ up) k c m ∧ Row wr w.heap.size 59 (iv m) ∧ Row wr (w.heap.size + 1) 59 (iv (bitsN y)) ∧ Row wr (w.heap.size + 1 + 1) 59 (iv zeros) ∧ Below w.heap.size w wr

set_option maxHeartbeats 2000000 in
theorem plus_ref (x y up : Nat) (w : World) (hup : up ≤ 260) :
    Calls Try.prog 40 #[arr (bitsN x), arr (bitsN y), .int .i64 (up : Int)] w fun e w' => e = .returned (arr (bitsN (x + y * 2 ^ up))) ∧ Below w.heap.size w w' := by
  go_enter Try.func40, Try.ntmps40
  go_wp2_with (first
    | (refine wpList_box45 rfl (.tmp 0) rfl (bitsN x) rfl (some 3) rfl w.heap.size rfl ?_; intro w1 hr1 hb1 hs1; have HR1 := Lib.hid hr1; have HB1 := Lib.hid hb1; have HS1 := Lib.hid hs1; clear hr1 hb1 hs1)
    | (refine wpList_box45 rfl (.tmp 1) rfl (bitsN y) rfl (some 4) rfl (w.heap.size + 1) (by rw [HS1.out]) ?_; intro w2 hr2 hb2 hs2; have HR2 := Lib.hid hr2; have HP2 := Lib.hid (HR1.out.below hb2 HR1.out.lt); have HB2 := Lib.hid (HB1.out.trans (hb2.mono HB1.out.size)); have HS2 := Lib.hid hs2; clear hr2 hb2 hs2 HR1 HB1 HS1)
    | (refine wpList_alloc45 rfl rfl (some 6) rfl (w.heap.size + 1 + 1) (by rw [HS2.out]) ?_; intro w3 hr3 hb3 hs3; have HR3 := Lib.hid hr3; have HQ3 := Lib.hid (HR2.out.below hb3 HR2.out.lt); have HP3 := Lib.hid (HP2.out.below hb3 HP2.out.lt); have HB3 := Lib.hid (HB2.out.trans (hb3.mono HB2.out.size)); clear hr3 hb3 hs3 HR2 HP2 HB2 HS2))
  have HI0 := Lib.hid (show PlusW x y up w w3 up 0 from ⟨bitsN x, PlusI.start x y up, HP3.out, HQ3.out, HR3.out, HB3.out⟩)
  clear HR3 HQ3 HP3 HB3
  go_loopw [7, 8] (fun cc i wr => ∃ k c : Nat, up ≤ k ∧ k ≤ 260 ∧ c ≤ 1 ∧ cc = .int .i64 c ∧ i = .int .i64 k ∧ Hid (PlusW x y up w wr k c)) (fun _ i _ => 260 - (intOf i).toNat)
  case atStart => exact ⟨up, 0, by omega, hup, by omega, rfl, rfl, HI0⟩
  rename World => wr
  obtain ⟨k, c, hk0, hk, hc, rfl, rfl, HI⟩ := hrel
  clear HI0
  obtain ⟨m, hm, hrm, hrb, hrz, hbel⟩ := HI.out
  clear HI
  by_cases hlt : k < 260
  case neg =>
    obtain rfl : k = 260 := by omega
    have hmb := hm.done
    subst hmb
    have HR := Lib.hid hrm
    have HZ := Lib.hid hrz
    have HB := Lib.hid hbel
    clear hm hrm hrb hrz hbel
    obtain ⟨z, hz⟩ : ∃ z, z = x + y * 2 ^ up := ⟨_, rfl⟩
    rw [← hz] at HR
    have HZZ := Lib.hid hz
    clear hz
    go_wp2_with (first
      | (refine wpList_load45 rfl (.tmp 3) rfl w.heap.size rfl (bitsN z) HR.out (bitsN_len _) (some 32) rfl ?_)
      | (refine wpList_store45 rfl (.tmp 6) (.tmp 32) rfl rfl (w.heap.size + 1 + 1) rfl (bitsN z) zeros rfl HZ.out zeros_len (bitsN_len _) ?_; intro w5 hr5 hg5 hs5; have HR5 := Lib.hid hr5; have HB5 := Lib.hid (HB.out.grown hg5 HB.out.size (fun i hi => by cases hi; omega)); clear hr5 hg5 hs5))
    exact bodyPost_ret (v := arr (bitsN z)) (results45 rfl _ _ (w.heap.size + 1 + 1) _ rfl HR5.out (bitsN_len _)) rfl ⟨by rw [← HZZ.out], HB5.out⟩
  case pos =>
    have HM := Lib.hid hm
    have HML := Lib.hid hm.1
    have HYL := Lib.hid (bitsN_len y)
    have HRM := Lib.hid hrm
    have HRB := Lib.hid hrb
    have HRZ := Lib.hid hrz
    have HB := Lib.hid hbel
    clear hm hrm hrb hrz hbel
    obtain ⟨q, hq⟩ : ∃ q, q = k - up := ⟨_, rfl⟩
    have hsub : (k : Int) - (up : Int) = (q : Int) := by omega
    have hq260 : q < 260 := by omega
    have hq260i : (q : Int) < 260 := by omega
    have hwq : IntKind.i64.wrap (q : Int) = (q : Int) := by rw [IntKind.wrap_i64]; omega
    obtain ⟨p, hp⟩ : ∃ p, p = m.getD k 0 := ⟨_, rfl⟩
    obtain ⟨r, hr⟩ : ∃ r, r = (bitsN y).getD q 0 := ⟨_, rfl⟩
    obtain ⟨s, hs⟩ : ∃ s, s = p + r := ⟨_, rfl⟩
    obtain ⟨n, hn⟩ : ∃ n, n = s + c := ⟨_, rfl⟩
    have HCK := Lib.hid (show ∀ w', Below wr.heap.size wr w' → w'.cell? ⟨w.heap.size, k, none⟩ = some (.int .i64 (p : Int)) from fun w' hb => by
      rw [hp]; exact ((HRM.out.below hb HRM.out.lt).cell k).trans (iv_cell m k (by rw [HML.out]; exact hlt)))
    have HCQ := Lib.hid (show ∀ w', Below wr.heap.size wr w' → w'.cell? ⟨w.heap.size + 1, q, none⟩ = some (.int .i64 (r : Int)) from fun w' hb => by
      rw [hr]; exact ((HRB.out.below hb HRB.out.lt).cell q).trans (iv_cell (bitsN y) q (by rw [HYL.out]; exact hq260)))
    have hpx : p = x / 2 ^ k % 2 := by rw [hp, HM.out.2.1 k hlt, if_neg (by omega)]
    have hrx : r = (y * 2 ^ up) / 2 ^ k % 2 := by
      rw [hr, bitsN_get y q hq260]
      congr 1
      have e : 2 ^ k = 2 ^ up * 2 ^ q := by rw [← Nat.pow_add]; congr 1; omega
      rw [e, ← Nat.div_div_eq_div_mul, Nat.mul_div_cancel _ (Nat.two_pow_pos up)]
    have hp1 : p ≤ 1 := by have := Nat.mod_lt (x / 2 ^ k) (show 0 < 2 by omega); omega
    have hr1 : r ≤ 1 := by have := Nat.mod_lt ((y * 2 ^ up) / 2 ^ k) (show 0 < 2 by omega); omega
    have HN := Lib.hid (HM.out.step (n := n) hlt (by rw [← hpx, ← hrx, hn, hs]))
    have hn3 : n ≤ 3 := by omega
    have hw1 : IntKind.i64.wrap ((p : Int) + (r : Int)) = (s : Int) := by rw [IntKind.wrap_i64]; omega
    have hw2 : IntKind.i64.wrap ((s : Int) + (c : Int)) = (n : Int) := by rw [IntKind.wrap_i64]; omega
    clear hq hp hr hs hn hpx hrx hp1 hr1 HM HYL
    go_wp2_with fail
    refine wp_region_held_drew (S := fun w' => Below wr.heap.size wr w') (by kernel_rfl) (Below.refl _ _).drew (fun hHeld => ?_)
    have S0 := Lib.hid hHeld
    clear hHeld
    generalize wr.drew = wd at S0 ⊢
    refine wpAnyH_take (i := 0) (oi := ⟨some 15, _, _, _, _, _⟩) (v := ?vp1) rfl (by kernel_rfl) (by kernel_rfl) (by kernel_rfl) (fun _ _ _ h => h) (Or.inl ⟨by rfl, ?yp1⟩) S0.out ?rp1
    case yp1 =>
      rintro w' hSw
      go_simp
      try with_reducible rfl
    try simp only [Act.put, List.setIfInBounds_toArray, List.set_cons_zero, List.set_cons_succ]
    refine wpAnyH_take (i := 1) (oi := ⟨some 16, _, _, _, _, _⟩) (v := ?vp2) rfl (by kernel_rfl) (by kernel_rfl) (by kernel_rfl) (fun _ _ _ h => h) (Or.inl ⟨by rfl, ?yp2⟩) S0.out ?rp2
    case yp2 =>
      rintro w' hSw
      go_simp
      try with_reducible rfl
    try simp only [Act.put, List.setIfInBounds_toArray, List.set_cons_zero, List.set_cons_succ]
    refine wpAnyH_take (i := 2) (oi := ⟨some 17, _, _, _, _, _⟩) (v := ?vp3) rfl (by kernel_rfl) (by kernel_rfl) (by kernel_rfl) (fun _ _ _ h => h) (Or.inl ⟨by rfl, ?yp3⟩) S0.out ?rp3
    case yp3 =>
      rintro w' hSw
      have c0 := HCK.out w' hSw
      go_simp
      try with_reducible rfl
    try simp only [Act.put, List.setIfInBounds_toArray, List.set_cons_zero, List.set_cons_succ]
    refine wpAnyH_take (i := 3) (oi := ⟨some 18, _, _, _, _, _⟩) (v := ?vp4) rfl (by kernel_rfl) (by kernel_rfl) (by kernel_rfl) (fun _ _ _ h => h) (Or.inl ⟨by rfl, ?yp4⟩) S0.out ?rp4
    case yp4 =>
      rintro w' hSw
      go_simp
      try with_reducible rfl
    try simp only [Act.put, List.setIfInBounds_toArray, List.set_cons_zero, List.set_cons_succ]
    refine wpAnyH_take (i := 4) (oi := ⟨some 19, _, _, _, _, _⟩) (v := ?vp5) rfl (by kernel_rfl) (by kernel_rfl) (by kernel_rfl) (fun _ _ _ h => h) (Or.inl ⟨by rfl, ?yp5⟩) S0.out ?rp5
    case yp5 =>
      rintro w' hSw
      go_simp
      try with_reducible rfl
    try simp only [Act.put, List.setIfInBounds_toArray, List.set_cons_zero, List.set_cons_succ]
    refine wpAnyH_take (i := 5) (oi := ⟨some 20, _, _, _, _, _⟩) (v := ?vp6) rfl (by kernel_rfl) (by kernel_rfl) (by kernel_rfl) (fun _ _ _ h => h) (Or.inl ⟨by rfl, ?yp6⟩) S0.out ?rp6
    case yp6 =>
      rintro w' hSw
      go_simp
      try with_reducible rfl
    try simp only [Act.put, List.setIfInBounds_toArray, List.set_cons_zero, List.set_cons_succ]
    refine wpAnyH_take (i := 6) (oi := ⟨some 21, _, _, _, _, _⟩) (v := ?vp7) rfl (by kernel_rfl) (by kernel_rfl) (by kernel_rfl) (fun _ _ _ h => h) (Or.inl ⟨by rfl, ?yp7⟩) S0.out ?rp7
    case yp7 =>
      rintro w' hSw
      go_simp
      try with_reducible rfl
    try simp only [Act.put, List.setIfInBounds_toArray, List.set_cons_zero, List.set_cons_succ]
    refine wpAnyH_take (i := 7) (oi := ⟨some 22, _, _, _, _, _⟩) (v := ?vp8) rfl (by kernel_rfl) (by kernel_rfl) (by kernel_rfl) (fun _ _ _ h => h) (Or.inl ⟨by rfl, ?yp8⟩) S0.out ?rp8
    case yp8 =>
      rintro w' hSw
      have c0 := HCQ.out w' hSw
      go_simp
      try with_reducible rfl
    try simp only [Act.put, List.setIfInBounds_toArray, List.set_cons_zero, List.set_cons_succ]
    refine wpAnyH_take (i := 8) (oi := ⟨some 23, _, _, _, _, _⟩) (v := ?vp9) rfl (by kernel_rfl) (by kernel_rfl) (by kernel_rfl) (fun _ _ _ h => h) (Or.inl ⟨by rfl, ?yp9⟩) S0.out ?rp9
    case yp9 =>
      rintro w' hSw
      go_simp
      try with_reducible rfl
    try simp only [Act.put, List.setIfInBounds_toArray, List.set_cons_zero, List.set_cons_succ]
    refine wpAnyH_take (i := 9) (oi := ⟨some 24, _, _, _, _, _⟩) (v := ?vp10) rfl (by kernel_rfl) (by kernel_rfl) (by kernel_rfl) (fun _ _ _ h => h) (Or.inl ⟨by rfl, ?yp10⟩) S0.out ?rp10
    case yp10 =>
      rintro w' hSw
      go_simp
      try with_reducible rfl
    try simp only [Act.put, List.setIfInBounds_toArray, List.set_cons_zero, List.set_cons_succ]
    refine wpAnyH_take (i := 10) (oi := ⟨some 25, _, _, _, _, _⟩) (v := ?vp11) rfl (by kernel_rfl) (by kernel_rfl) (by kernel_rfl) (fun _ _ _ h => h) (Or.inl ⟨by rfl, ?yp11⟩) S0.out ?rp11
    case yp11 =>
      rintro w' hSw
      go_simp
      try with_reducible rfl
    try simp only [Act.put, List.setIfInBounds_toArray, List.set_cons_zero, List.set_cons_succ]
    refine wpAnyH_take (i := 11) (oi := ⟨some 9, _, _, _, _, _⟩) (v := ?vp12) rfl (by kernel_rfl) (by kernel_rfl) (by kernel_rfl) (fun _ _ _ h => h) (Or.inl ⟨by rfl, ?yp12⟩) S0.out ?rp12
    case yp12 =>
      rintro w' hSw
      go_simp
      try with_reducible rfl
    try simp only [Act.put, List.setIfInBounds_toArray, List.set_cons_zero, List.set_cons_succ]
    refine wpAnyH_done (by kernel_rfl) ?_ _
    have hrm := HRM.out.below S0.out HRM.out.lt
    have hrb := HRB.out.below S0.out HRB.out.lt
    have hrz := HRZ.out.below S0.out HRZ.out.lt
    have hbw := HB.out.trans (S0.out.mono HB.out.size)
    have hck := HCK.out _ S0.out
    have hfk := hrm.frozen k
    have hr2 := hrm.store k (.int .i64 ((n % 2 : Nat) : Int))
    rw [iv_set] at hr2
    have HF := Lib.hid (show PlusW x y up w _ (k + 1) (n / 2) from ⟨_, HN.out, hr2, hrb.far (p := ⟨w.heap.size, k, none⟩) (by dsimp only; omega) _, hrz.far (p := ⟨w.heap.size, k, none⟩) (by dsimp only; omega) _, hbw.setCell (p := ⟨w.heap.size, k, none⟩) (by dsimp only; omega) _⟩)
    clear hrm hrb hrz hbw hr2 HRM HRB HRZ HB HCK HCQ HN HML S0 hwq hw1 hw2 hsub hq260 hq260i
    obtain ⟨n2, hn2⟩ : ∃ z, z = n % 2 := ⟨_, rfl⟩
    obtain ⟨nd, hnd⟩ : ∃ z, z = n / 2 := ⟨_, rfl⟩
    have ht2 : (n : Int).tmod 2 = (n2 : Int) := by rw [hn2]; exact (Int.ofNat_tmod n 2).symm
    have htd : (n : Int).tdiv 2 = (nd : Int) := by rw [hnd]; exact (Int.ofNat_tdiv n 2).symm
    rw [← hn2, ← hnd] at HF
    have hndl : nd ≤ 1 := by omega
    have hn2l : n2 ≤ 1 := by omega
    clear hn2 hnd
    go_wp2
    exact ⟨⟨k + 1, nd, by omega, by omega, hndl, rfl, by go_num, HF⟩, by simp [intOf]; omega⟩
end Go.Proofs.Ytbmfijcckdkmdaa.Wi
