/-
  The contracts of the calls that seal and open.
-/
import Derived.Test.YtbankkjfedgnnaaOct1
import Derived.Test.YtbankkjfedgnnaaOct2
import Derived.Test.YtbankkjfedgnnaaSum1
namespace Go.Proofs.Ytbankkjfedgnnaa.Sum
open Go.RowKit Go.Proofs.Ytbankkjfedgnnaa.Wd Go.Proofs.Ytbankkjfedgnnaa.Oct Go.Proofs.Ytbankkjfedgnnaa.Sm

theorem same_n (A1 A2 : Option Addr) (l1 l2 : List UInt8) (c1 c2 n1 n2 : Nat) (w : World) (h1 : l1.length = n1) (h2 : l2.length = n2) (hm : n1 ≤ 140737488355336) (B1 B2 : Nat) (r1 : Bs w B1 A1 l1) (r2 : Bs w B2 A2 l2) :
    Calls Try.prog 14 #[.slice A1 n1 c1, .slice A2 n2 c2] w fun e w' => e = .returned (.bool (decide (l1 = l2))) ∧ Still w w' := by
  subst h1
  subst h2
  exact same_any A1 A2 l1 l2 c1 c2 w (by unfold maxLen; omega) B1 B2 r1 r2
theorem equal_n (A1 A2 : Option Addr) (l1 l2 : List UInt8) (c1 c2 n1 n2 : Nat) (w : World) (h1 : l1.length = n1) (h2 : l2.length = n2) (hm : n1 ≤ 140737488355336) (B1 B2 : Nat) (r1 : Bs w B1 A1 l1) (r2 : Bs w B2 A2 l2) :
    Calls Try.prog 21 #[.slice A1 n1 c1, .slice A2 n2 c2] w fun e w' => e = .returned (.bool (decide (l1 = l2))) ∧ w = w' := by
  subst h1
  subst h2
  exact equal_any A1 A2 l1 l2 c1 c2 w (by unfold maxLen; omega) B1 B2 r1 r2
theorem below_still {B : Nat} {a w w' : World} (h : Below B a w) (hs : Still w w') : Below B a w' := by
  obtain ⟨n, rfl⟩ := hs
  exact ⟨h.os, h.tape, h.output, h.size, h.block⟩
theorem lit_bs (w : World) (l : List UInt8) (t : TypeId) : Bs (w.alloc (.cells (bv l).toArray t)) (w.heap.size + 1) (some ⟨w.heap.size, 0, none⟩) l :=
  (Row.new w t (bv l)).bs (by omega)

/-- a number's n bytes the other way round -/
def rev (n x : Nat) : Nat := num (lo n x)
theorem hi_num : ∀ l : List UInt8, hi l.length (num l) = l
  | [] => rfl
  | c :: l => by
    have h := num_lt l
    have hp : 0 < 256 ^ l.length := Nat.pow_pos (by omega)
    have e2 := hi_mod l.length l.length (c.toNat * 256 ^ l.length + num l) (Nat.le_refl _)
    rw [Nat.add_comm, Nat.add_mul_mod_self_right, Nat.mod_eq_of_lt h, hi_num l] at e2
    rw [List.length_cons, num_cons, hi, Nat.add_comm, ← e2, Nat.add_mul_div_right _ _ hp, Nat.div_eq_of_lt h, Nat.zero_add]
    simp
theorem hi_rev (n x : Nat) : hi n (rev n x) = lo n x := by
  have h := hi_num (lo n x)
  rwa [lo_length] at h
theorem rev_lt (n x : Nat) : rev n x < 256 ^ n := by
  have h := num_lt (lo n x)
  rwa [lo_length] at h
theorem rev2 (x : Nat) (hx : x < 65536) : rev 2 x = x % 256 * 256 + x / 256 := by
  simp [rev, lo, num]; omega
theorem rev4 (x : Nat) (hx : x < 4294967296) : rev 4 x = x % 256 * 16777216 + x / 256 % 256 * 65536 + x / 65536 % 256 * 256 + x / 16777216 := by
  simp only [rev, lo, num, List.foldl_cons, List.foldl_nil, UInt8.toNat_ofNat', Nat.div_div_eq_div_mul, Nat.reduceMul, Nat.reducePow]; omega
theorem and_split {i al bl : Nat} (ha : al < 2 ^ i) (hb : bl < 2 ^ i) (ah bh : Nat) : (2 ^ i * ah + al) &&& (2 ^ i * bh + bl) = 2 ^ i * (ah &&& bh) + (al &&& bl) := by
  apply Nat.eq_of_testBit_eq
  intro j
  rw [Nat.testBit_and, Nat.testBit_two_pow_mul_add _ ha, Nat.testBit_two_pow_mul_add _ hb, Nat.testBit_two_pow_mul_add _ (Nat.and_lt_two_pow _ hb)]
  split <;> simp
theorem or_split {i al bl : Nat} (ha : al < 2 ^ i) (hb : bl < 2 ^ i) (ah bh : Nat) : (2 ^ i * ah + al) ||| (2 ^ i * bh + bl) = 2 ^ i * (ah ||| bh) + (al ||| bl) := by
  apply Nat.eq_of_testBit_eq
  intro j
  rw [Nat.testBit_or, Nat.testBit_two_pow_mul_add _ ha, Nat.testBit_two_pow_mul_add _ hb, Nat.testBit_two_pow_mul_add _ (Nat.or_lt_two_pow ha hb)]
  split <;> simp
theorem and_low (x : Nat) : x &&& 255 = x % 256 := Nat.and_two_pow_sub_one_eq_mod x 8
theorem and_mask (m : Nat) : m &&& 16711935 = 65536 * (m / 65536 % 256) + m % 256 := by
  have h := and_split (i := 16) (al := m % 65536) (bl := 255) (Nat.mod_lt _ (by decide)) (by decide) (m / 65536) 255
  rw [and_low, and_low] at h
  have e1 : 2 ^ 16 * (m / 65536) + m % 65536 = m := by omega
  rw [e1] at h
  have e2 : m % 65536 % 256 = m % 256 := by omega
  rw [e2] at h
  exact h
theorem or_bytes {a b : Nat} (ha : a < 256) : a ||| 256 * b = 256 * b + a := by
  have := Nat.two_pow_add_eq_or_of_lt (i := 8) (b := a) (by simpa using ha) b
  rw [Nat.or_comm]
  exact this.symm
theorem or_bytes2 {b0 b1 b2 b3 : Nat} (h0 : b0 < 256) (h1 : b1 < 256) (h3 : b3 < 256) : (65536 * b3 + b1) ||| 256 * (65536 * b2 + b0) = 65536 * (256 * b2 + b3) + (256 * b0 + b1) := by
  have h := or_split (i := 16) (al := b1) (bl := 256 * b0) (by omega) (by omega) b3 (256 * b2)
  rw [or_bytes h1, or_bytes h3] at h
  have e : 256 * (65536 * b2 + b0) = 2 ^ 16 * (256 * b2) + 256 * b0 := by omega
  rw [e]
  exact h

theorem rev16_any (x : Nat) (w : World) (hx : x < 65536) :
    Calls Try.prog 26 #[.int .u16 (x : Int)] w fun e w' => e = .returned (.int .u16 ((rev 2 x : Nat) : Int)) ∧ w = w' := by
  go_enter Try.func26, Try.ntmps26
  go_wp2
  go_ret
  have e1 : IntKind.u16.wrap ((x : Int) * 256) = ((256 * (x % 256) : Nat) : Int) := by rw [IntKind.wrap_u16]; omega
  have e2 := u16_or_nat (x / 256) (256 * (x % 256)) (by omega) (by omega)
  rw [or_bytes (by omega)] at e2
  refine ⟨ret_int ?_, rfl⟩
  show bits .or .u16 ((x : Int) / 256) (IntKind.u16.wrap ((x : Int) * 256)) = _
  rw [e1, show (x : Int) / 256 = ((x / 256 : Nat) : Int) from by omega, e2, rev2 x hx]
  omega

theorem rev32_any (x : Nat) (w : World) (hx : x < 4294967296) :
    Calls Try.prog 28 #[.int .u32 (x : Int)] w fun e w' => e = .returned (.int .u32 ((rev 4 x : Nat) : Int)) ∧ w = w' := by
  go_enter Try.func28, Try.ntmps28
  go_wp2
  go_ret
  have a1 := u32_and_nat (x / 256) 16711935 (by omega) (by omega)
  have a2 := u32_and_nat x 16711935 hx (by omega)
  rw [and_mask] at a1 a2
  have b0 : x % 256 < 256 := Nat.mod_lt _ (by omega)
  have b1 : x / 256 % 256 < 256 := Nat.mod_lt _ (by omega)
  have b2 : x / 65536 % 256 < 256 := Nat.mod_lt _ (by omega)
  have b3 : x / 256 / 65536 % 256 < 256 := Nat.mod_lt _ (by omega)
  have er := rev4 x hx
  have e3 : x / 16777216 = x / 256 / 65536 % 256 := by rw [Nat.div_div_eq_div_mul]; omega
  rw [e3] at er
  refine ⟨ret_int ?_, rfl⟩
  rw [er]
  generalize x % 256 = y0 at *
  generalize x / 256 / 65536 % 256 = y3 at *
  generalize x / 65536 % 256 = y2 at *
  generalize x / 256 % 256 = y1 at *
  have o1 := u32_or_nat (65536 * y3 + y1) (256 * (65536 * y2 + y0)) (by omega) (by omega)
  rw [or_bytes2 b0 b1 b3] at o1
  have o2 := u32_or_nat (256 * y2 + y3) (65536 * (256 * y0 + y1)) (by omega) (by omega)
  have o3 := Nat.two_pow_add_eq_or_of_lt (i := 16) (b := 256 * y2 + y3) (by omega) (256 * y0 + y1)
  rw [show (2 : Nat) ^ 16 = 65536 from rfl] at o3
  rw [Nat.or_comm, ← o3] at o2
  have f1 : bits .and .u32 ((x : Int) / 256) 16711935 = ((65536 * y3 + y1 : Nat) : Int) := by
    rw [← a1]; congr 1
  have f2 : bits .and .u32 (x : Int) 16711935 = ((65536 * y2 + y0 : Nat) : Int) := by
    rw [← a2]; congr 1
  show bits .or .u32 (bits .or .u32 (bits .and .u32 ((x : Int) / 256) 16711935) (bits .and .u32 (x : Int) 16711935 * 256 % 4294967296) / 65536) (bits .or .u32 (bits .and .u32 ((x : Int) / 256) 16711935) (bits .and .u32 (x : Int) 16711935 * 256 % 4294967296) * 65536 % 4294967296) = _
  rw [f1, f2, show ((65536 * y2 + y0 : Nat) : Int) * 256 % 4294967296 = ((256 * (65536 * y2 + y0) : Nat) : Int) from by omega, o1,
    show ((65536 * (256 * y2 + y3) + (256 * y0 + y1) : Nat) : Int) / 65536 = ((256 * y2 + y3 : Nat) : Int) from by omega,
    show ((65536 * (256 * y2 + y3) + (256 * y0 + y1) : Nat) : Int) * 65536 % 4294967296 = ((65536 * (256 * y0 + y1) : Nat) : Int) from by omega, o2]
  omega

/-- how opening goes: the error, and what goes out -/
def res (p n : Nat) (l : List UInt8) : Int × List UInt8 :=
  if l.length < n then (7, []) else if sealed p n (l.take (l.length - n)) = l then (0, l.take (l.length - n)) else (130, [])
/-- what an opening leaves -/
def Opn (w : World) (r : Int × List UInt8) (e : Ending) (w' : World) : Prop :=
  ∃ A m c l q, e = .returned (.tuple #[.slice A m c, .int .i64 q]) ∧ Hid (l.length = m) ∧ m ≤ c ∧ (A = none → c = 0) ∧ Bs w' w'.heap.size A l ∧ Below w.heap.size w w' ∧ Hid (r = (q, l))

theorem Seal16_any (A : Option Addr) (l : List UInt8) (c n : Nat) (w : World) (h1 : l.length = n) (hm : n ≤ 140737488355320) (r : Bs w w.heap.size A l) :
    Calls Try.prog 15 #[.slice A n c] w (Made w (sealed 33800 2 l)) := by
  have H1 := Lib.hid h1; clear h1
  go_enter Try.func15, Try.ntmps15
  go_wp2_with fail
  refine (Sum16_any A l c n w H1.out (by unfold maxLen; omega) _ r).mono ?_
  rintro e w1 ⟨rfl, rfl⟩
  have hs : sm 33800 2 l < 65536 := sm_lt poly16 l
  have HS : Hid (sealed 33800 2 l = l ++ lo 2 (sm 33800 2 l)) := (show _ = _ from rfl)
  generalize sm 33800 2 l = x at hs HS
  go_wp2_with fail
  refine (rev16_any x w hs).mono ?_
  rintro e w1 ⟨rfl, rfl⟩
  have hr : rev 2 x < 65536 := rev_lt 2 x
  have HR := Lib.hid (hi_rev 2 x)
  generalize rev 2 x = y at hr HR
  have HP := Lib.hid (put16_any A l c n y w H1.out.symm (by omega) (by omega) r)
  go_wp2_with fail
  refine (HP.out).mono ?_
  rintro e w1 ⟨g, m, rfl, hl, hg, hrow, hb⟩
  have HH := Lib.hid hb
  clear hb
  go_wp2
  go_ret
  rw [HS.out, ← HR.out]
  exact ⟨g, m, rfl, hl, hg, hrow, HH.out⟩

theorem open16_any (A : Option Addr) (l : List UInt8) (c n : Nat) (w : World) (h1 : l.length = n) (hm : n ≤ c) (hc : n ≤ 140737488355320) (r : Bs w w.heap.size A l) :
    Calls Try.prog 29 #[.slice A n c, .int .i64 2, .func (.func 15) #[] #[]] w (Opn w (res 33800 2 l)) := by
  have H1 := Lib.hid h1; clear h1
  by_cases hs : n < 2
  · have HR : Hid (res 33800 2 l = (7, [])) := (show _ = _ by unfold res; rw [H1.out, if_pos hs])
    go_enter Try.func29, Try.ntmps29
    go_wp2
    go_ret2
    exact ⟨none, 0, 0, [], 7, rfl, (show _ = _ from rfl), Nat.le_refl _, fun _ => rfl, Bs.nil _ _ _, Below.refl _ _, HR⟩
  · obtain ⟨b1, o1, rfl, hb1, hc1⟩ := r (by rw [H1.out]; omega)
    obtain ⟨m, rfl⟩ : ∃ m, n = m + 2 := ⟨n - 2, by omega⟩
    have HC : Hid (Bs w w.heap.size (some ⟨b1, o1, none⟩) l) := r
    have HT : Hid (Bs w w.heap.size (some ⟨b1, o1, none⟩) (l.take m)) := (show Bs _ _ _ _ by
      have := r.cut 0 m (by rw [H1.out]; omega)
      simpa [Addr.add_lit] using this)
    clear r hc1
    have HS := Lib.hid (Seal16_any (some ⟨b1, o1, none⟩) (l.take m) m m w (by simp [H1.out]) (by omega) HT.out)
    have HL : Hid ((sealed 33800 2 (l.take m)).length = m + 2) := (show _ = _ by rw [sealed_length]; simp [H1.out])
    go_enter Try.func29, Try.ntmps29
    go_wp2_with fail
    refine (HS.out).mono ?_
    rintro e w1 ⟨g, q, rfl, hl, hg, hrow, hb⟩
    obtain rfl : q = m + 2 := by have := hl.out; have := HL.out; omega
    have HB := Lib.hid hb
    have hgl := hrow.lt
    have HG : Hid (Bs w1 w1.heap.size (some ⟨g, 0, none⟩) (sealed 33800 2 (l.take m))) := hrow.bs hgl
    have HG2 : Hid (Bs w1 w1.heap.size (some ⟨g, 0, none⟩) ((sealed 33800 2 (l.take m)).take m)) := (show Bs _ _ _ _ by
      have := HG.out.cut 0 m (by rw [HL.out]; omega)
      simpa [Addr.add_lit] using this)
    clear hb hrow hl HS
    by_cases hd : sealed 33800 2 (l.take m) = l
    · have HR : Hid (res 33800 2 l = (0, (sealed 33800 2 (l.take m)).take m)) := (show _ = _ by
        unfold res
        rw [H1.out, if_neg hs, Nat.add_sub_cancel, if_pos hd]
        unfold sealed
        rw [List.take_append_of_le_length (by simp [H1.out]), List.take_take, Nat.min_self])
      have HE := Lib.hid (equal_n (some ⟨g, 0, none⟩) (some ⟨b1, o1, none⟩) (sealed 33800 2 (l.take m)) l (m + 2) c (m + 2) (m + 2) w1 HL.out H1.out (by omega) _ _ HG.out (HC.out.below HB.out))
      rw [decide_eq_true hd] at HE
      clear hd
      go_wp2_with fail
      refine (HE.out).mono ?_
      rintro e w2 ⟨rfl, rfl⟩
      clear HE
      go_wp2
      go_ret2
      exact ⟨_, m, m, _, 0, rfl, (show _ = _ by simp [HL.out]), Nat.le_refl _, (fun hh => by cases hh), HG2.out, HB.out, HR⟩
    · have HR : Hid (res 33800 2 l = (130, [])) := (show _ = _ by
        unfold res
        rw [H1.out, if_neg hs, Nat.add_sub_cancel, if_neg hd])
      have HE := Lib.hid (equal_n (some ⟨g, 0, none⟩) (some ⟨b1, o1, none⟩) (sealed 33800 2 (l.take m)) l (m + 2) c (m + 2) (m + 2) w1 HL.out H1.out (by omega) _ _ HG.out (HC.out.below HB.out))
      rw [decide_eq_false hd] at HE
      clear hd
      go_wp2_with fail
      refine (HE.out).mono ?_
      rintro e w2 ⟨rfl, rfl⟩
      clear HE
      go_wp2
      go_ret2
      exact ⟨none, 0, 0, [], 130, rfl, (show _ = _ from rfl), Nat.le_refl _, fun _ => rfl, Bs.nil _ _ _, HB.out, HR⟩

theorem Open16_any (A : Option Addr) (l : List UInt8) (c n : Nat) (w : World) (h1 : l.length = n) (hm : n ≤ c) (hc : n ≤ 140737488355320) (r : Bs w w.heap.size A l) :
    Calls Try.prog 18 #[.slice A n c] w (Opn w (res 33800 2 l)) := by
  have HC := Lib.hid (open16_any A l c n w h1 hm hc r)
  clear h1
  go_enter Try.func18, Try.ntmps18
  go_wp2_with fail
  refine (HC.out).mono ?_
  rintro e w1 ⟨A', m, c', l', q, rfl, hl, hmc, hA, hbs, hb, hr⟩
  have HB := Lib.hid hb
  clear hb HC
  have HA := Lib.hid hA
  clear hA
  go_wp2
  go_ret2
  exact ⟨A', m, c', l', q, rfl, hl, hmc, HA.out, hbs, HB.out, hr⟩

theorem Seal32_any (A : Option Addr) (l : List UInt8) (c n : Nat) (w : World) (h1 : l.length = n) (hm : n ≤ 140737488355320) (r : Bs w w.heap.size A l) :
    Calls Try.prog 17 #[.slice A n c] w (Made w (sealed 2197175160 4 l)) := by
  have H1 := Lib.hid h1; clear h1
  go_enter Try.func17, Try.ntmps17
  go_wp2_with fail
  refine (Sum32_any A l c n w H1.out (by unfold maxLen; omega) _ r).mono ?_
  rintro e w1 ⟨rfl, rfl⟩
  have hs : sm 2197175160 4 l < 4294967296 := sm_lt poly32 l
  have HS : Hid (sealed 2197175160 4 l = l ++ lo 4 (sm 2197175160 4 l)) := (show _ = _ from rfl)
  generalize sm 2197175160 4 l = x at hs HS
  go_wp2_with fail
  refine (rev32_any x w hs).mono ?_
  rintro e w1 ⟨rfl, rfl⟩
  have hr : rev 4 x < 4294967296 := rev_lt 4 x
  have HR := Lib.hid (hi_rev 4 x)
  generalize rev 4 x = y at hr HR
  have HP := Lib.hid (put32_any A l c n y w H1.out.symm (by omega) (by omega) r)
  go_wp2_with fail
  refine (HP.out).mono ?_
  rintro e w1 ⟨g, m, rfl, hl, hg, hrow, hb⟩
  have HH := Lib.hid hb
  clear hb
  go_wp2
  go_ret
  rw [HS.out, ← HR.out]
  exact ⟨g, m, rfl, hl, hg, hrow, HH.out⟩

theorem open32_any (A : Option Addr) (l : List UInt8) (c n : Nat) (w : World) (h1 : l.length = n) (hm : n ≤ c) (hc : n ≤ 140737488355320) (r : Bs w w.heap.size A l) :
    Calls Try.prog 29 #[.slice A n c, .int .i64 4, .func (.func 17) #[] #[]] w (Opn w (res 2197175160 4 l)) := by
  have H1 := Lib.hid h1; clear h1
  by_cases hs : n < 4
  · have HR : Hid (res 2197175160 4 l = (7, [])) := (show _ = _ by unfold res; rw [H1.out, if_pos hs])
    go_enter Try.func29, Try.ntmps29
    go_wp2
    go_ret2
    exact ⟨none, 0, 0, [], 7, rfl, (show _ = _ from rfl), Nat.le_refl _, fun _ => rfl, Bs.nil _ _ _, Below.refl _ _, HR⟩
  · obtain ⟨b1, o1, rfl, hb1, hc1⟩ := r (by rw [H1.out]; omega)
    obtain ⟨m, rfl⟩ : ∃ m, n = m + 4 := ⟨n - 4, by omega⟩
    have HC : Hid (Bs w w.heap.size (some ⟨b1, o1, none⟩) l) := r
    have HT : Hid (Bs w w.heap.size (some ⟨b1, o1, none⟩) (l.take m)) := (show Bs _ _ _ _ by
      have := r.cut 0 m (by rw [H1.out]; omega)
      simpa [Addr.add_lit] using this)
    clear r hc1
    have HS := Lib.hid (Seal32_any (some ⟨b1, o1, none⟩) (l.take m) m m w (by simp [H1.out]) (by omega) HT.out)
    have HL : Hid ((sealed 2197175160 4 (l.take m)).length = m + 4) := (show _ = _ by rw [sealed_length]; simp [H1.out])
    go_enter Try.func29, Try.ntmps29
    go_wp2_with fail
    refine (HS.out).mono ?_
    rintro e w1 ⟨g, q, rfl, hl, hg, hrow, hb⟩
    obtain rfl : q = m + 4 := by have := hl.out; have := HL.out; omega
    have HB := Lib.hid hb
    have hgl := hrow.lt
    have HG : Hid (Bs w1 w1.heap.size (some ⟨g, 0, none⟩) (sealed 2197175160 4 (l.take m))) := hrow.bs hgl
    have HG2 : Hid (Bs w1 w1.heap.size (some ⟨g, 0, none⟩) ((sealed 2197175160 4 (l.take m)).take m)) := (show Bs _ _ _ _ by
      have := HG.out.cut 0 m (by rw [HL.out]; omega)
      simpa [Addr.add_lit] using this)
    clear hb hrow hl HS
    by_cases hd : sealed 2197175160 4 (l.take m) = l
    · have HR : Hid (res 2197175160 4 l = (0, (sealed 2197175160 4 (l.take m)).take m)) := (show _ = _ by
        unfold res
        rw [H1.out, if_neg hs, Nat.add_sub_cancel, if_pos hd]
        unfold sealed
        rw [List.take_append_of_le_length (by simp [H1.out]), List.take_take, Nat.min_self])
      have HE := Lib.hid (equal_n (some ⟨g, 0, none⟩) (some ⟨b1, o1, none⟩) (sealed 2197175160 4 (l.take m)) l (m + 4) c (m + 4) (m + 4) w1 HL.out H1.out (by omega) _ _ HG.out (HC.out.below HB.out))
      rw [decide_eq_true hd] at HE
      clear hd
      go_wp2_with fail
      refine (HE.out).mono ?_
      rintro e w2 ⟨rfl, rfl⟩
      clear HE
      go_wp2
      go_ret2
      exact ⟨_, m, m, _, 0, rfl, (show _ = _ by simp [HL.out]), Nat.le_refl _, (fun hh => by cases hh), HG2.out, HB.out, HR⟩
    · have HR : Hid (res 2197175160 4 l = (130, [])) := (show _ = _ by
        unfold res
        rw [H1.out, if_neg hs, Nat.add_sub_cancel, if_neg hd])
      have HE := Lib.hid (equal_n (some ⟨g, 0, none⟩) (some ⟨b1, o1, none⟩) (sealed 2197175160 4 (l.take m)) l (m + 4) c (m + 4) (m + 4) w1 HL.out H1.out (by omega) _ _ HG.out (HC.out.below HB.out))
      rw [decide_eq_false hd] at HE
      clear hd
      go_wp2_with fail
      refine (HE.out).mono ?_
      rintro e w2 ⟨rfl, rfl⟩
      clear HE
      go_wp2
      go_ret2
      exact ⟨none, 0, 0, [], 130, rfl, (show _ = _ from rfl), Nat.le_refl _, fun _ => rfl, Bs.nil _ _ _, HB.out, HR⟩

theorem Open32_any (A : Option Addr) (l : List UInt8) (c n : Nat) (w : World) (h1 : l.length = n) (hm : n ≤ c) (hc : n ≤ 140737488355320) (r : Bs w w.heap.size A l) :
    Calls Try.prog 19 #[.slice A n c] w (Opn w (res 2197175160 4 l)) := by
  have HC := Lib.hid (open32_any A l c n w h1 hm hc r)
  clear h1
  go_enter Try.func19, Try.ntmps19
  go_wp2_with fail
  refine (HC.out).mono ?_
  rintro e w1 ⟨A', m, c', l', q, rfl, hl, hmc, hA, hbs, hb, hr⟩
  have HB := Lib.hid hb
  clear hb HC
  have HA := Lib.hid hA
  clear hA
  go_wp2
  go_ret2
  exact ⟨A', m, c', l', q, rfl, hl, hmc, HA.out, hbs, HB.out, hr⟩
end Go.Proofs.Ytbankkjfedgnnaa.Sum
