/-
  The contracts of the reference's Seal and Opens, and of opened.
-/
import Derived.Test.YtbankkjfedgnnaaSum3
namespace Go.Proofs.Ytbankkjfedgnnaa.Sum
open Go.RowKit Go.Proofs.Ytbankkjfedgnnaa.Wd Go.Proofs.Ytbankkjfedgnnaa.Oct Go.Proofs.Ytbankkjfedgnnaa.Sm

/-- bytes that a call answers -/
def MadeB (w : World) (l : List UInt8) (e : Ending) (w' : World) : Prop :=
  ∃ A n c, e = .returned (.slice A n c) ∧ Hid (l.length = n) ∧ n ≤ c ∧ (A = none → c = 0) ∧ Bs w' w'.heap.size A l ∧ Below w.heap.size w w'
theorem lo_snoc (j : Nat) : ∀ s, lo (j + 1) s = lo j s ++ [UInt8.ofNat (s / 256 ^ j)] := by
  induction j with
  | zero => intro s; simp [lo]
  | succ j ih => intro s; rw [lo, ih, lo, Nat.div_div_eq_div_mul, Nat.pow_succ, Nat.mul_comm 256]; rfl
theorem lo_div (n j s : Nat) : s / 256 ^ j / 256 = s / 256 ^ (j + 1) := by rw [Nat.div_div_eq_div_mul, Nat.pow_succ]

set_option maxHeartbeats 400000 in
theorem rseal16_any (A : Option Addr) (l : List UInt8) (c n : Nat) (w : World) (h1 : l.length = n) (hm : n ≤ 140737488355320) (r : Bs w w.heap.size A l) :
    Calls Try.prog 16 #[.slice A n c, .int .i64 16] w (MadeB w (sealed 33800 2 l)) := by
  obtain ⟨i0, hi, hz0, hz1, hz2⟩ := info_parts info5
  have H1 := Lib.hid h1; clear h1
  have HS := Lib.hid (ref16_any A l c n w H1.out (by unfold maxLen; omega) _ r)
  have HB := Lib.hid (both_any A none l [] c 0 n 0 w H1.out rfl (by omega) r (Bs.nil _ _ _))
  rw [List.append_nil] at HB
  have hlt : sm 33800 2 l < 65536 := sm_lt poly16 l
  have HQ : Hid (sealed 33800 2 l = l ++ lo 2 (sm 33800 2 l)) := (show _ = _ from rfl)
  generalize sm 33800 2 l = s at HS hlt HQ
  go_enter Try.func16, Try.ntmps16
  go_wp2_with fail
  refine (HS.out).mono ?_
  rintro e w1 ⟨rfl, rfl⟩
  go_wp2_with fail
  refine (HB.out).mono ?_
  rintro e w1 ⟨g, q, rfl, hl, hg, hrow, hb⟩
  obtain rfl : q = n := by have := hl.out; have := H1.out; omega
  have HO : Hid (w1.ownsRow w.heap.size 5 1 (.slice (some ⟨g, 0, none⟩) q q) q (bv l)) := hrow.own hg (by rw [bv_length, H1.out]) (by unfold maxLen; omega)
  have HB1 := Lib.hid hb
  clear hb hrow hl HS HB
  go_wp2
  go_loopw [5, 6, 7] (fun y v i wr => ∃ j : Nat, j ≤ 2 ∧ i = .int .i64 ((8 * j : Nat) : Int) ∧ y = .int .u64 ((s / 256 ^ j : Nat) : Int) ∧ Hid (wr.ownsRow w.heap.size 5 1 v (q + j) (bv (l ++ lo j s))) ∧ Hid (Below w.heap.size w wr)) (fun _ _ i _ => 16 - (intOf i).toNat)
  case atStart => exact ⟨0, by omega, rfl, by simp, by simpa [lo] using HO, HB1⟩
  case round =>
    obtain ⟨j, hj, rfl, rfl, ho, hb⟩ := hrel
    by_cases hlt2 : j < 2
    · have hys : s / 256 ^ j < 65536 := Nat.lt_of_le_of_lt (Nat.div_le_self _ _) hlt
      have HY := Lib.hid (lo_div 2 j s)
      have HL := Lib.hid (lo_snoc j s)
      generalize s / 256 ^ j = y at hys HY HL
      have hbs := hb.out.size
      have hyw : IntKind.u8.wrap ((y : Int) % 256) = (((UInt8.ofNat y).toNat : Nat) : Int) := by rw [IntKind.wrap_u8]; simp
      have hc1 : Hid (∀ W : World, Bs (W.alloc (.cells #[.int .u8 (((UInt8.ofNat y).toNat : Nat) : Int)] 5)) (W.heap.size + 1) (some ⟨W.heap.size, 0, none⟩) [UInt8.ofNat y]) := (show ∀ _, _ from fun W => lit_bs W [UInt8.ofNat y] _)
      generalize hbyte : (UInt8.ofNat y).toNat = byt at hyw hc1
      clear hbyte
      have OW : Hid ((wr.alloc (.cells #[.int .u8 (byt : Int)] 5)).ownsRow w.heap.size 5 1 u6 (q + j) (bv (l ++ lo j s))) := ho.out.alloc _
      have OS : w.heap.size ≤ (wr.alloc (.cells #[.int .u8 (byt : Int)] 5)).heap.size := by first | (simp; done) | (simp; omega)
      have OB := Lib.hid (hb.out.alloc hbs (.cells #[.int .u8 (byt : Int)] 5))
      have HC := Lib.hid (hc1.out wr)
      have HK : Hid (∀ k, u6.ownBlock = some k → w.heap.size ≤ k) := (show ∀ _, _ from (by obtain ⟨_, _, _, _, _, _, _, _, h⟩ := own_bs ho.out; exact h))
      clear hc1
      go_wp2_with (at_builtin; refine wpList_append_bs (by rfl) _ _ 22 rfl w.heap.size 5 i0 (.int .u8 0) Try.underlying22 hi hz0 hz1 hz2 rfl u6 (q + j) (bv (l ++ lo j s)) rfl OW.out (some ⟨wr.heap.size, 0, none⟩) 1 1 [UInt8.ofNat y] rfl rfl (wr.heap.size + 1) HC.out (fun hh => by cases hh) (by omega) OS ?_; intro v2 w2 hown2 hg2)
      have HB2 := Lib.hid (OB.out.grown hg2 OS (fun k hk => HK.out k hk))
      have HO2 : Hid (w2.ownsRow w.heap.size 5 1 v2 (q + (j + 1)) (bv (l ++ lo (j + 1) s))) := (show World.ownsRow _ _ _ _ _ _ _ from by
        rw [HL.out, ← List.append_assoc, bv_append]; exact hown2)
      clear hown2 hg2
      go_wp2
      go_roundw
      case rel => exact ⟨j + 1, by omega, by congr 1, by rw [← HY.out]; simp, HO2, HB2⟩
      case measure => simp [intOf]; omega
    · obtain rfl : j = 2 := by omega
      obtain ⟨A2, c2, rfl, hl2, hn2, hc2, hA2, hbs2, _⟩ := own_bs ho.out
      have HA2 := Lib.hid hA2
      have HL2 := Lib.hid hl2
      have HBS := Lib.hid hbs2
      clear hA2 hl2 hbs2 ho
      go_wp2
      go_ret
      rw [HQ.out]
      exact ⟨A2, _, c2, rfl, HL2, hn2, HA2.out, HBS.out, hb.out⟩

set_option maxHeartbeats 400000 in
theorem rseal32_any (A : Option Addr) (l : List UInt8) (c n : Nat) (w : World) (h1 : l.length = n) (hm : n ≤ 140737488355320) (r : Bs w w.heap.size A l) :
    Calls Try.prog 16 #[.slice A n c, .int .i64 32] w (MadeB w (sealed 2197175160 4 l)) := by
  obtain ⟨i0, hi, hz0, hz1, hz2⟩ := info_parts info5
  have H1 := Lib.hid h1; clear h1
  have HS := Lib.hid (ref32_any A l c n w H1.out (by unfold maxLen; omega) _ r)
  have HB := Lib.hid (both_any A none l [] c 0 n 0 w H1.out rfl (by omega) r (Bs.nil _ _ _))
  rw [List.append_nil] at HB
  have hlt : sm 2197175160 4 l < 4294967296 := sm_lt poly32 l
  have HQ : Hid (sealed 2197175160 4 l = l ++ lo 4 (sm 2197175160 4 l)) := (show _ = _ from rfl)
  generalize sm 2197175160 4 l = s at HS hlt HQ
  go_enter Try.func16, Try.ntmps16
  go_wp2_with fail
  refine (HS.out).mono ?_
  rintro e w1 ⟨rfl, rfl⟩
  go_wp2_with fail
  refine (HB.out).mono ?_
  rintro e w1 ⟨g, q, rfl, hl, hg, hrow, hb⟩
  obtain rfl : q = n := by have := hl.out; have := H1.out; omega
  have HO : Hid (w1.ownsRow w.heap.size 5 1 (.slice (some ⟨g, 0, none⟩) q q) q (bv l)) := hrow.own hg (by rw [bv_length, H1.out]) (by unfold maxLen; omega)
  have HB1 := Lib.hid hb
  clear hb hrow hl HS HB
  go_wp2
  go_loopw [5, 6, 7] (fun y v i wr => ∃ j : Nat, j ≤ 4 ∧ i = .int .i64 ((8 * j : Nat) : Int) ∧ y = .int .u64 ((s / 256 ^ j : Nat) : Int) ∧ Hid (wr.ownsRow w.heap.size 5 1 v (q + j) (bv (l ++ lo j s))) ∧ Hid (Below w.heap.size w wr)) (fun _ _ i _ => 32 - (intOf i).toNat)
  case atStart => exact ⟨0, by omega, rfl, by simp, by simpa [lo] using HO, HB1⟩
  case round =>
    obtain ⟨j, hj, rfl, rfl, ho, hb⟩ := hrel
    by_cases hlt2 : j < 4
    · have hys : s / 256 ^ j < 4294967296 := Nat.lt_of_le_of_lt (Nat.div_le_self _ _) hlt
      have HY := Lib.hid (lo_div 4 j s)
      have HL := Lib.hid (lo_snoc j s)
      generalize s / 256 ^ j = y at hys HY HL
      have hbs := hb.out.size
      have hyw : IntKind.u8.wrap ((y : Int) % 256) = (((UInt8.ofNat y).toNat : Nat) : Int) := by rw [IntKind.wrap_u8]; simp
      have hc1 : Hid (∀ W : World, Bs (W.alloc (.cells #[.int .u8 (((UInt8.ofNat y).toNat : Nat) : Int)] 5)) (W.heap.size + 1) (some ⟨W.heap.size, 0, none⟩) [UInt8.ofNat y]) := (show ∀ _, _ from fun W => lit_bs W [UInt8.ofNat y] _)
      generalize hbyte : (UInt8.ofNat y).toNat = byt at hyw hc1
      clear hbyte
      have OW : Hid ((wr.alloc (.cells #[.int .u8 (byt : Int)] 5)).ownsRow w.heap.size 5 1 u6 (q + j) (bv (l ++ lo j s))) := ho.out.alloc _
      have OS : w.heap.size ≤ (wr.alloc (.cells #[.int .u8 (byt : Int)] 5)).heap.size := by first | (simp; done) | (simp; omega)
      have OB := Lib.hid (hb.out.alloc hbs (.cells #[.int .u8 (byt : Int)] 5))
      have HC := Lib.hid (hc1.out wr)
      have HK : Hid (∀ k, u6.ownBlock = some k → w.heap.size ≤ k) := (show ∀ _, _ from (by obtain ⟨_, _, _, _, _, _, _, _, h⟩ := own_bs ho.out; exact h))
      clear hc1
      go_wp2_with (at_builtin; refine wpList_append_bs (by rfl) _ _ 22 rfl w.heap.size 5 i0 (.int .u8 0) Try.underlying22 hi hz0 hz1 hz2 rfl u6 (q + j) (bv (l ++ lo j s)) rfl OW.out (some ⟨wr.heap.size, 0, none⟩) 1 1 [UInt8.ofNat y] rfl rfl (wr.heap.size + 1) HC.out (fun hh => by cases hh) (by omega) OS ?_; intro v2 w2 hown2 hg2)
      have HB2 := Lib.hid (OB.out.grown hg2 OS (fun k hk => HK.out k hk))
      have HO2 : Hid (w2.ownsRow w.heap.size 5 1 v2 (q + (j + 1)) (bv (l ++ lo (j + 1) s))) := (show World.ownsRow _ _ _ _ _ _ _ from by
        rw [HL.out, ← List.append_assoc, bv_append]; exact hown2)
      clear hown2 hg2
      go_wp2
      go_roundw
      case rel => exact ⟨j + 1, by omega, by congr 1, by rw [← HY.out]; simp, HO2, HB2⟩
      case measure => simp [intOf]; omega
    · obtain rfl : j = 4 := by omega
      obtain ⟨A2, c2, rfl, hl2, hn2, hc2, hA2, hbs2, _⟩ := own_bs ho.out
      have HA2 := Lib.hid hA2
      have HL2 := Lib.hid hl2
      have HBS := Lib.hid hbs2
      clear hA2 hl2 hbs2 ho
      go_wp2
      go_ret
      rw [HQ.out]
      exact ⟨A2, _, c2, rfl, HL2, hn2, HA2.out, HBS.out, hb.out⟩

set_option maxHeartbeats 400000 in
theorem ropens16_any (A : Option Addr) (l : List UInt8) (c m : Nat) (w : World) (h1 : l.length = m + 2) (hc : m + 2 ≤ c) (hm : c ≤ 140737488355320) (r : Bs w w.heap.size A l) :
    Calls Try.prog 30 #[.slice A ((m + 2 : Nat) : Nat) c, .int .i64 16] w fun e w' => e = .returned (.bool (decide (sealed 33800 2 (l.take m) = l))) ∧ Below w.heap.size w w' := by
  obtain ⟨b1, o1, rfl, hb1, hc1⟩ := r (by rw [h1]; omega)
  have H1 := Lib.hid h1
  have HC : Hid (Bs w w.heap.size (some ⟨b1, o1, none⟩) l) := r
  have HT : Hid (Bs w w.heap.size (some ⟨b1, o1, none⟩) (l.take m)) := (show Bs _ _ _ _ by
    have := r.cut 0 m (by rw [h1]; omega)
    simpa [Addr.add_lit] using this)
  clear r hc1 h1
  have HS := Lib.hid (rseal16_any (some ⟨b1, o1, none⟩) (l.take m) c m w (by simp [H1.out]) (by omega) HT.out)
  have HL : Hid ((sealed 33800 2 (l.take m)).length = m + 2) := (show _ = _ by rw [sealed_length]; simp [H1.out])
  obtain ⟨d, hd⟩ : ∃ d : Bool, decide (sealed 33800 2 (l.take m) = l) = d := ⟨_, rfl⟩
  have HD := Lib.hid hd
  rw [hd]
  clear hd
  go_enter Try.func30, Try.ntmps30
  go_wp2_with fail
  refine (HS.out).mono ?_
  rintro e w1 ⟨A2, q, c2, rfl, hl, hqc, hA, hbs, hb⟩
  have HQ := Lib.hid hl.out
  have HB := Lib.hid hb
  have HBS := Lib.hid hbs
  have HA := Lib.hid hA
  clear hl hb hbs hA HS
  have HE := Lib.hid (same_n A2 (some ⟨b1, o1, none⟩) (sealed 33800 2 (l.take m)) l c2 c q (m + 2) w1 HQ.out H1.out (by have := HQ.out; have := HL.out; omega) _ _ HBS.out (HC.out.below HB.out))
  rw [HD.out] at HE
  go_wp2_with fail
  refine (HE.out).mono ?_
  rintro e w2 ⟨rfl, hst⟩
  have HB2 := Lib.hid (below_still HB.out hst)
  clear hst HE
  go_wp2
  go_ret
  exact ⟨rfl, HB2.out⟩

set_option maxHeartbeats 400000 in
theorem opened16_any (A A2 : Option Addr) (l l' : List UInt8) (c c2 n m : Nat) (q : Int) (w : World) (h1 : l.length = n) (hc : n ≤ c) (hm : c ≤ 140737488355320) (r : Bs w w.heap.size A l)
    (h2 : l'.length = m) (r2 : Bs w w.heap.size A2 l') (hr : res 33800 2 l = (q, l')) :
    Calls Try.prog 20 #[.slice A2 m c2, .int .i64 q, .slice A n c, .int .i64 16] w fun e w' => e = .returned (.bool true) ∧ Below w.heap.size w w' := by
  by_cases hs : n < 2
  · unfold res at hr
    rw [h1, if_pos hs] at hr
    obtain ⟨rfl, rfl⟩ := Prod.mk.inj hr
    obtain rfl : m = 0 := by simpa using h2.symm
    clear h1 hr h2
    go_enter Try.func20, Try.ntmps20
    go_wp2
    go_ret
    exact ⟨rfl, Below.refl _ _⟩
  · obtain ⟨k, rfl⟩ : ∃ k, n = k + 2 := ⟨n - 2, by omega⟩
    have HO := Lib.hid (ropens16_any A l c k w h1 hc hm r)
    obtain ⟨b1, o1, rfl, hb1, hc1⟩ := r (by rw [h1]; omega)
    have HC : Hid (Bs w w.heap.size (some ⟨b1, o1, none⟩) (l.take k)) := (show Bs _ _ _ _ by
      have := r.cut 0 k (by rw [h1]; omega)
      simpa [Addr.add_lit] using this)
    have H1 := Lib.hid h1
    have R2 := Lib.hid r2
    have H2 := Lib.hid h2
    clear r r2 hc1 h1 h2
    by_cases hd : sealed 33800 2 (l.take k) = l
    · rw [decide_eq_true hd] at HO
      unfold res at hr
      rw [H1.out, if_neg hs, Nat.add_sub_cancel, if_pos hd] at hr
      obtain ⟨rfl, rfl⟩ := Prod.mk.inj hr
      clear hr hd
      obtain rfl : m = k := by have := H2.out; rw [List.length_take, H1.out] at this; omega
      go_enter Try.func20, Try.ntmps20
      go_wp2_with fail
      refine (HO.out).mono ?_
      rintro e w1 ⟨rfl, hb⟩
      have HB := Lib.hid hb
      clear hb HO
      have HE := Lib.hid (same_n A2 (some ⟨b1, o1, none⟩) (l.take m) (l.take m) c2 c m m w1 H2.out H2.out (by omega) _ _ (R2.out.below HB.out) (HC.out.below HB.out))
      rw [decide_eq_true rfl] at HE
      go_wp2_with fail
      refine (HE.out).mono ?_
      rintro e w2 ⟨rfl, hst⟩
      have HB2 := Lib.hid (below_still HB.out hst)
      clear hst HE
      go_wp2
      go_ret
      exact ⟨rfl, HB2.out⟩
    · rw [decide_eq_false hd] at HO
      unfold res at hr
      rw [H1.out, if_neg hs, Nat.add_sub_cancel, if_neg hd] at hr
      obtain ⟨rfl, rfl⟩ := Prod.mk.inj hr
      clear hr hd
      obtain rfl : m = 0 := by simpa using H2.out.symm
      go_enter Try.func20, Try.ntmps20
      go_wp2_with fail
      refine (HO.out).mono ?_
      rintro e w1 ⟨rfl, hb⟩
      have HB := Lib.hid hb
      clear hb HO
      go_wp2
      go_ret
      exact ⟨rfl, HB.out⟩

set_option maxHeartbeats 400000 in
theorem ropens32_any (A : Option Addr) (l : List UInt8) (c m : Nat) (w : World) (h1 : l.length = m + 4) (hc : m + 4 ≤ c) (hm : c ≤ 140737488355320) (r : Bs w w.heap.size A l) :
    Calls Try.prog 30 #[.slice A ((m + 4 : Nat) : Nat) c, .int .i64 32] w fun e w' => e = .returned (.bool (decide (sealed 2197175160 4 (l.take m) = l))) ∧ Below w.heap.size w w' := by
  obtain ⟨b1, o1, rfl, hb1, hc1⟩ := r (by rw [h1]; omega)
  have H1 := Lib.hid h1
  have HC : Hid (Bs w w.heap.size (some ⟨b1, o1, none⟩) l) := r
  have HT : Hid (Bs w w.heap.size (some ⟨b1, o1, none⟩) (l.take m)) := (show Bs _ _ _ _ by
    have := r.cut 0 m (by rw [h1]; omega)
    simpa [Addr.add_lit] using this)
  clear r hc1 h1
  have HS := Lib.hid (rseal32_any (some ⟨b1, o1, none⟩) (l.take m) c m w (by simp [H1.out]) (by omega) HT.out)
  have HL : Hid ((sealed 2197175160 4 (l.take m)).length = m + 4) := (show _ = _ by rw [sealed_length]; simp [H1.out])
  obtain ⟨d, hd⟩ : ∃ d : Bool, decide (sealed 2197175160 4 (l.take m) = l) = d := ⟨_, rfl⟩
  have HD := Lib.hid hd
  rw [hd]
  clear hd
  go_enter Try.func30, Try.ntmps30
  go_wp2_with fail
  refine (HS.out).mono ?_
  rintro e w1 ⟨A2, q, c2, rfl, hl, hqc, hA, hbs, hb⟩
  have HQ := Lib.hid hl.out
  have HB := Lib.hid hb
  have HBS := Lib.hid hbs
  have HA := Lib.hid hA
  clear hl hb hbs hA HS
  have HE := Lib.hid (same_n A2 (some ⟨b1, o1, none⟩) (sealed 2197175160 4 (l.take m)) l c2 c q (m + 4) w1 HQ.out H1.out (by have := HQ.out; have := HL.out; omega) _ _ HBS.out (HC.out.below HB.out))
  rw [HD.out] at HE
  go_wp2_with fail
  refine (HE.out).mono ?_
  rintro e w2 ⟨rfl, hst⟩
  have HB2 := Lib.hid (below_still HB.out hst)
  clear hst HE
  go_wp2
  go_ret
  exact ⟨rfl, HB2.out⟩

set_option maxHeartbeats 400000 in
theorem opened32_any (A A2 : Option Addr) (l l' : List UInt8) (c c2 n m : Nat) (q : Int) (w : World) (h1 : l.length = n) (hc : n ≤ c) (hm : c ≤ 140737488355320) (r : Bs w w.heap.size A l)
    (h2 : l'.length = m) (r2 : Bs w w.heap.size A2 l') (hr : res 2197175160 4 l = (q, l')) :
    Calls Try.prog 20 #[.slice A2 m c2, .int .i64 q, .slice A n c, .int .i64 32] w fun e w' => e = .returned (.bool true) ∧ Below w.heap.size w w' := by
  by_cases hs : n < 4
  · unfold res at hr
    rw [h1, if_pos hs] at hr
    obtain ⟨rfl, rfl⟩ := Prod.mk.inj hr
    obtain rfl : m = 0 := by simpa using h2.symm
    clear h1 hr h2
    go_enter Try.func20, Try.ntmps20
    go_wp2
    go_ret
    exact ⟨rfl, Below.refl _ _⟩
  · obtain ⟨k, rfl⟩ : ∃ k, n = k + 4 := ⟨n - 4, by omega⟩
    have HO := Lib.hid (ropens32_any A l c k w h1 hc hm r)
    obtain ⟨b1, o1, rfl, hb1, hc1⟩ := r (by rw [h1]; omega)
    have HC : Hid (Bs w w.heap.size (some ⟨b1, o1, none⟩) (l.take k)) := (show Bs _ _ _ _ by
      have := r.cut 0 k (by rw [h1]; omega)
      simpa [Addr.add_lit] using this)
    have H1 := Lib.hid h1
    have R2 := Lib.hid r2
    have H2 := Lib.hid h2
    clear r r2 hc1 h1 h2
    by_cases hd : sealed 2197175160 4 (l.take k) = l
    · rw [decide_eq_true hd] at HO
      unfold res at hr
      rw [H1.out, if_neg hs, Nat.add_sub_cancel, if_pos hd] at hr
      obtain ⟨rfl, rfl⟩ := Prod.mk.inj hr
      clear hr hd
      obtain rfl : m = k := by have := H2.out; rw [List.length_take, H1.out] at this; omega
      go_enter Try.func20, Try.ntmps20
      go_wp2_with fail
      refine (HO.out).mono ?_
      rintro e w1 ⟨rfl, hb⟩
      have HB := Lib.hid hb
      clear hb HO
      have HE := Lib.hid (same_n A2 (some ⟨b1, o1, none⟩) (l.take m) (l.take m) c2 c m m w1 H2.out H2.out (by omega) _ _ (R2.out.below HB.out) (HC.out.below HB.out))
      rw [decide_eq_true rfl] at HE
      go_wp2_with fail
      refine (HE.out).mono ?_
      rintro e w2 ⟨rfl, hst⟩
      have HB2 := Lib.hid (below_still HB.out hst)
      clear hst HE
      go_wp2
      go_ret
      exact ⟨rfl, HB2.out⟩
    · rw [decide_eq_false hd] at HO
      unfold res at hr
      rw [H1.out, if_neg hs, Nat.add_sub_cancel, if_neg hd] at hr
      obtain ⟨rfl, rfl⟩ := Prod.mk.inj hr
      clear hr hd
      obtain rfl : m = 0 := by simpa using H2.out.symm
      go_enter Try.func20, Try.ntmps20
      go_wp2_with fail
      refine (HO.out).mono ?_
      rintro e w1 ⟨rfl, hb⟩
      have HB := Lib.hid hb
      clear hb HO
      go_wp2
      go_ret
      exact ⟨rfl, HB.out⟩
end Go.Proofs.Ytbankkjfedgnnaa.Sum
