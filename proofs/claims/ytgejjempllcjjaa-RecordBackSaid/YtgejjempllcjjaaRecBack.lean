/-
  RecordBack: what was encoded is decoded as it was, whatever stands behind; of each beginning it is too short. No condition.
-/
import Derived.Test.YtgejjempllcjjaaRecO
import Derived.Great.BuildSlice
import Derived.Deep.SlicePairs
namespace Go.Proofs.Ytgejjempllcjjaa.Rec
set_option maxRecDepth 100000
open Go.RowKit Go.Proofs.Ytgejjempllcjjaa.Wd Go.Proofs.Ytgejjempllcjjaa.Oct Go.Proofs.Ytgejjempllcjjaa.Dsk Go.ChangeShapes Go.WideShapes Go.ChangeAt

theorem Bs.pre {w : World} {B : Nat} {A : Option Addr} {l : List UInt8} (h : Bs w B A l) (k : Nat) : Bs w B A (l.take k) := fun hp => by
  have hp' : 0 < l.length := by rw [List.length_take] at hp; omega
  obtain ⟨b, o, e, hlt, hc⟩ := h hp'
  refine ⟨b, o, e, hlt, fun i hi => ?_⟩
  rw [List.length_take] at hi
  rw [hc i (by omega)]
  simp [List.getD_eq_getElem?_getD, List.getElem?_take, show i < k from by omega]
theorem bytes_len (r : RM) (h : okM r = true) : 25 ≤ (bytesM r).length ∧ (bytesM r).length ≤ 200 := by
  have ha := ok_arith r h
  unfold bytesM headM restM itemM
  split
  · simp [hi_length]; omega
  · split
    · simp [hi_length]; omega
    · simp [hi_length]
theorem own : ownKnob Try.prog.godebug = none := by kernel_rfl
theorem laidOut : laidOutB Try.prog = true := by kernel_rfl
theorem bytes1 : Try.prog.bytesOf 5 = 1 := by kernel_rfl

set_option maxHeartbeats 4000000 in
theorem back_walk (r : RM) (s : RS) (cut : Int) (A : Option Addr) (q : List UInt8) (n c : Nat) (w : World) (hr : RecOk w (r, s)) (hq : q.length = n) (hc : c ≤ 140737488351232) (hnc : n ≤ c) (hA : A = none → c = 0) (hb : Bs w w.heap.size A q) (hcut : -9223372036854775808 ≤ cut ∧ cut ≤ 9223372036854775807) :
    Calls Try.prog 7 #[.agg (rcs r s).toArray, .int .i64 cut, .slice A n c] w fun e w' => e = .returned (.bool true) ∧ Below w.heap.size w w' := by
  have HRC := Lib.hid hr
  have HQ := Lib.hid hq
  have HA := Lib.hid hA
  have HB := Lib.hid hb
  have HBK : Hid (okM r = true → ∀ b, recM (bytesM r ++ b) 0 = (0, r, ((bytesM r).length, 0))) := fun hok b => recM_back r b hok hr.u1 hr.u2 hr.u3 hr.u4
  clear hr hq hA hb
  obtain ⟨i0, hi, hz0, hz1, hz2⟩ := info_parts info5
  have HEN := Lib.hid (fun (W : World) (h : Below w.heap.size w W) => encode_any r s w.heap.size W (HRC.out.at_.below h) h.size)
  have HSM := Lib.hid (fun (W : World) (y : RS) (h : Below w.heap.size w W) (hy : RecAt W W.heap.size r y) => same_rec r r y s W.heap.size W hy ((HRC.out.at_.below h).more h.size) (Nat.le_refl _))
  unfold rcs at HEN HSM ⊢
  go_enter Try.func7, Try.ntmps7
  go_wp2_with fail
  have r0 : Row (w.alloc (.cells #[.int .u64 (r.lsn : Int), .int .i64 r.kind, .int .u64 (r.txn : Int), .int .u64 (r.back : Int), .int .i64 r.page, .int .i64 r.slot, .slice s.Ao s.no s.co, .slice s.An s.nn s.cn, .int .u64 (r.next : Int)] 25)) w.heap.size 25 (rcs r s) := Row.new w _ _
  have b0 : Below w.heap.size w (w.alloc (.cells #[.int .u64 (r.lsn : Int), .int .i64 r.kind, .int .u64 (r.txn : Int), .int .u64 (r.back : Int), .int .i64 r.page, .int .i64 r.slot, .slice s.Ao s.no s.co, .slice s.An s.nn s.cn, .int .u64 (r.next : Int)] 25)) := (Below.refl _ _).alloc (Nat.le_refl _) _
  refine (wakes_any _).mono ?_
  rintro e w1 ⟨rfl, hb1⟩
  have R1 := Lib.hid (r0.below hb1 (by simp))
  have B1 := Lib.hid (b0.trans (hb1.mono b0.size))
  have hs1 : w.heap.size < w1.heap.size := by have := hb1.size; simp at this; omega
  clear r0 b0 hb1
  have hd := R1.out
  unfold rcs at hd
  have hc0 : w1.cell? ⟨w.heap.size, 0, none⟩ = some (.int .u64 (r.lsn : Int)) := hd.cell 0
  have hc1 : w1.cell? ⟨w.heap.size, 1, none⟩ = some (.int .i64 r.kind) := hd.cell 1
  have hc2 : w1.cell? ⟨w.heap.size, 2, none⟩ = some (.int .u64 (r.txn : Int)) := hd.cell 2
  have hc3 : w1.cell? ⟨w.heap.size, 3, none⟩ = some (.int .u64 (r.back : Int)) := hd.cell 3
  have hc4 : w1.cell? ⟨w.heap.size, 4, none⟩ = some (.int .i64 r.page) := hd.cell 4
  have hc5 : w1.cell? ⟨w.heap.size, 5, none⟩ = some (.int .i64 r.slot) := hd.cell 5
  have hc6 : w1.cell? ⟨w.heap.size, 6, none⟩ = some (.slice s.Ao s.no s.co) := hd.cell 6
  have hc7 : w1.cell? ⟨w.heap.size, 7, none⟩ = some (.slice s.An s.nn s.cn) := hd.cell 7
  have hc8 : w1.cell? ⟨w.heap.size, 8, none⟩ = some (.int .u64 (r.next : Int)) := hd.cell 8
  clear hd
  go_wp2_with fail
  have hrl : Rl (w1.alloc (.cells #[.int .u64 (r.lsn : Int), .int .i64 r.kind, .int .u64 (r.txn : Int), .int .u64 (r.back : Int), .int .i64 r.page, .int .i64 r.slot, .slice s.Ao s.no s.co, .slice s.An s.nn s.cn, .int .u64 (r.next : Int)] 25)) (w1.heap.size + 1) (some ⟨w1.heap.size, 0, none⟩) [(r, s)] := Rl.one (show Row _ _ 25 (rcs r s) from Row.new w1 _ _) (Nat.lt_succ_self _) (((HRC.out.at_.below B1.out).alloc B1.out.size _).more (by omega))
  have hs2 : (w1.alloc (.cells #[.int .u64 (r.lsn : Int), .int .i64 r.kind, .int .u64 (r.txn : Int), .int .u64 (r.back : Int), .int .i64 r.page, .int .i64 r.slot, .slice s.Ao s.no s.co, .slice s.An s.nn s.cn, .int .u64 (r.next : Int)] 25)).heap.size = w1.heap.size + 1 := by simp
  have R2 := Lib.hid (R1.out.alloc (.cells #[.int .u64 (r.lsn : Int), .int .i64 r.kind, .int .u64 (r.txn : Int), .int .u64 (r.back : Int), .int .i64 r.page, .int .i64 r.slot, .slice s.Ao s.no s.co, .slice s.An s.nn s.cn, .int .u64 (r.next : Int)] 25))
  have B2 := Lib.hid (B1.out.alloc B1.out.size (.cells #[.int .u64 (r.lsn : Int), .int .i64 r.kind, .int .u64 (r.txn : Int), .int .u64 (r.back : Int), .int .i64 r.page, .int .i64 r.slot, .slice s.Ao s.no s.co, .slice s.An s.nn s.cn, .int .u64 (r.next : Int)] 25))
  refine (large_any _ 1 1 [(r, s)] _ rfl (by rw [hs2]; exact hrl)).mono ?_
  rintro e w3 ⟨rfl, hb3⟩
  have R3 := Lib.hid (R2.out.below hb3 (by omega))
  have B3 := Lib.hid (B2.out.trans (hb3.mono B2.out.size))
  have hs3 : w.heap.size < w3.heap.size := by have := hb3.size; omega
  clear hrl hb3 hc0 hc1 hc2 hc3 hc4 hc5 hc6 hc7 hc8
  generalize largeM ([(r, s)].map (·.1)) = M
  cases M
  case true =>
    go_wp2_with fail
    go_ret
    exact ⟨rfl, B3.out⟩
  by_cases hbig : 10000 < n
  · have hbig2 : 10000 < (n : Int) := by omega
    go_wp2_with fail
    go_ret
    exact ⟨rfl, B3.out⟩
  have hbig2 : ¬ 10000 < (n : Int) := by omega
  have hd := R3.out
  unfold rcs at hd
  have hd0 : w3.cell? ⟨w.heap.size, 0, none⟩ = some (.int .u64 (r.lsn : Int)) := hd.cell 0
  have hd1 : w3.cell? ⟨w.heap.size, 1, none⟩ = some (.int .i64 r.kind) := hd.cell 1
  have hd2 : w3.cell? ⟨w.heap.size, 2, none⟩ = some (.int .u64 (r.txn : Int)) := hd.cell 2
  have hd3 : w3.cell? ⟨w.heap.size, 3, none⟩ = some (.int .u64 (r.back : Int)) := hd.cell 3
  have hd4 : w3.cell? ⟨w.heap.size, 4, none⟩ = some (.int .i64 r.page) := hd.cell 4
  have hd5 : w3.cell? ⟨w.heap.size, 5, none⟩ = some (.int .i64 r.slot) := hd.cell 5
  have hd6 : w3.cell? ⟨w.heap.size, 6, none⟩ = some (.slice s.Ao s.no s.co) := hd.cell 6
  have hd7 : w3.cell? ⟨w.heap.size, 7, none⟩ = some (.slice s.An s.nn s.cn) := hd.cell 7
  have hd8 : w3.cell? ⟨w.heap.size, 8, none⟩ = some (.int .u64 (r.next : Int)) := hd.cell 8
  clear hd
  go_wp2_with fail
  refine (HEN.out _ B3.out).mono ?_
  rintro e w4 ⟨v, rfl, ho, hb4⟩
  have R4 := Lib.hid (R3.out.below hb4 (by omega))
  have B4 := Lib.hid (B3.out.trans (hb4.mono B3.out.size))
  have hs4 : w.heap.size < w4.heap.size := by have := hb4.size; omega
  obtain ⟨A1, n1, c1, rfl, h1, h2, h3, h4, h5⟩ := ho.open
  clear hb4 hd0 hd1 hd2 hd3 hd4 hd5 hd6 hd7 hd8
  cases hK : okM r
  · have hn1 : n1 = 0 := by rw [← h1, hK]; rfl
    subst hn1
    simp only [Bool.false_eq_true, if_false]
    clear h1 h2 h3 h4 h5 ho HEN HSM HBK
    go_wp2_with fail
    go_ret
    exact ⟨rfl, B4.out⟩
  · have HBK2 := Lib.hid (HBK.out hK)
    rw [hK] at ho h1 h5
    simp only [if_true] at ho h1 h5 ⊢
    have hlen : 25 ≤ n1 ∧ n1 ≤ 200 := by rw [← h1]; exact bytes_len r hK
    have HO := Lib.hid ho
    have HL1 := Lib.hid h1
    have HB1 := Lib.hid h5
    have HA1 := Lib.hid h4
    clear h1 h4 h5 ho HBK
    go_wp2_with (first
      | (at_builtin; (refine wpList_append_bs (o := ⟨some 38, _, _, _, _, _⟩) rfl (.tmp 36) (.tmp 37) 23 rfl w4.heap.size 5 i0 (.int .u8 0) Try.underlying23 hi hz0 hz1 hz2 rfl (.slice (some ⟨w4.heap.size, 0, none⟩) 0 0) 0 (bv []) rfl (Own.of_row (l := []) (Row.new w4 _ _) (Nat.le_refl _) rfl (Nat.zero_le _)) A1 n1 c1 (bytesM r) rfl HL1.out w4.heap.size (HB1.out.alloc (Nat.le_refl _) _) HA1.out (by omega) (by simp) ?_; intro v2 w5 hown2 hg2; have HG2 := Lib.hid (((Below.refl _ _).alloc (Nat.le_refl _) _).trans (below_own hg2 (fun k hk => by cases hk; exact Nat.le_refl _) (by simp))); have HO2 := Lib.hid hown2; clear hown2 hg2))
      | (at_builtin; (refine wpList_append_bs (o := ⟨some 40, _, _, _, _, _⟩) rfl (.tmp 38) (.tmp 39) 23 rfl w4.heap.size 5 i0 (.int .u8 0) Try.underlying23 hi hz0 hz1 hz2 rfl v2 (0 + n1) (bv [] ++ bv (bytesM r)) rfl HO2.out A n c q rfl HQ.out w4.heap.size (((HB.out.below B4.out).more B4.out.size).below HG2.out) HA.out (by omega) HG2.out.size ?_; intro v3 w6 hown3 hg3; have HG3 := Lib.hid (HG2.out.trans (below_own hg3 (fun k hk => (World.ownsRow.lt HO2.out k hk).1) HG2.out.size)); have HO3 : Hid (Own w6 w4.heap.size v3 (bytesM r ++ q)) := Lib.hid (show Own w6 w4.heap.size v3 (bytesM r ++ q) from Own.of_add (l := bytesM r) (by have hh := hown3; rw [show bv ([] : List UInt8) = [] from rfl, List.nil_append, Nat.zero_add] at hh; rw [HL1.out]; exact hh) HQ.out); clear hown3 hg3; obtain ⟨A3, n3, c3, rfl, h1, h2, h3, h4, h5⟩ := HO3.out.open)))
    have HG6 := Lib.hid (B4.out.trans (HG3.out.mono B4.out.size))
    have HB6 := Lib.hid (HB1.out.below HG3.out)
    have R6 := Lib.hid (R4.out.below HG3.out hs4)
    have HD := decode_any A3 (bytesM r ++ q) n3 c3 w6 h1 (by have := HQ.out; have := HL1.out; rw [List.length_append] at h1; omega) w6.heap.size h5 (Nat.le_refl _) h4
    rw [HBK2.out q, HL1.out] at HD
    have HHD := Lib.hid HD
    clear HD h1 h2 h3 h4 h5 HO2 HO3 HG2
    refine HHD.out.mono ?_
    rintro e w7 ⟨s7, rfl, hrec7, hb7⟩
    have HREC7 := Lib.hid hrec7
    have B7 := Lib.hid (HG6.out.trans (hb7.mono HG6.out.size))
    have HB7 := Lib.hid ((HB6.out.more HG3.out.size).below hb7)
    have R7 := Lib.hid (R6.out.below hb7 (Nat.lt_of_lt_of_le hs4 HG3.out.size))
    have hs7 : w.heap.size < w7.heap.size := Nat.lt_of_lt_of_le (Nat.lt_of_lt_of_le hs4 HG3.out.size) hb7.size
    have hsz67 := hb7.size
    clear hrec7 hb7 HHD
    simp only [if_true, rcs]
    have hm0 : 0 ≤ cut % (n1 : Int) := Int.emod_nonneg _ (by omega)
    have hm1 : cut % (n1 : Int) < (n1 : Int) := Int.emod_lt_of_pos _ (by omega)
    obtain ⟨K, hK2⟩ : ∃ K : Nat, cut % (n1 : Int) = (K : Int) := ⟨(cut % (n1 : Int)).toNat, by omega⟩
    have hKn : K < n1 := by omega
    have hKc : (K : Int) ≤ (c1 : Int) := by omega
    have R8 := Lib.hid (R7.out.alloc (.cells #[.int .u64 (r.lsn : Int), .int .i64 r.kind, .int .u64 (r.txn : Int), .int .u64 (r.back : Int), .int .i64 r.page, .int .i64 r.slot, .slice s7.Ao s7.no s7.co, .slice s7.An s7.nn s7.cn, .int .u64 (r.next : Int)] 25))
    have RX8 := Lib.hid (show Row (w7.alloc (.cells #[.int .u64 (r.lsn : Int), .int .i64 r.kind, .int .u64 (r.txn : Int), .int .u64 (r.back : Int), .int .i64 r.page, .int .i64 r.slot, .slice s7.Ao s7.no s7.co, .slice s7.An s7.nn s7.cn, .int .u64 (r.next : Int)] 25)) w7.heap.size 25 (rcs r s7) from Row.new w7 _ _)
    have B8 := Lib.hid (B7.out.alloc B7.out.size (.cells #[.int .u64 (r.lsn : Int), .int .i64 r.kind, .int .u64 (r.txn : Int), .int .u64 (r.back : Int), .int .i64 r.page, .int .i64 r.slot, .slice s7.Ao s7.no s7.co, .slice s7.An s7.nn s7.cn, .int .u64 (r.next : Int)] 25))
    have HB8 := Lib.hid (HB7.out.alloc (by omega) (.cells #[.int .u64 (r.lsn : Int), .int .i64 r.kind, .int .u64 (r.txn : Int), .int .u64 (r.back : Int), .int .i64 r.page, .int .i64 r.slot, .slice s7.Ao s7.no s7.co, .slice s7.An s7.nn s7.cn, .int .u64 (r.next : Int)] 25))
    have HREC8 := Lib.hid (HREC7.out.alloc (Nat.le_refl _) (.cells #[.int .u64 (r.lsn : Int), .int .i64 r.kind, .int .u64 (r.txn : Int), .int .u64 (r.back : Int), .int .i64 r.page, .int .i64 r.slot, .slice s7.Ao s7.no s7.co, .slice s7.An s7.nn s7.cn, .int .u64 (r.next : Int)] 25))
    have hs8 : (w7.alloc (.cells #[.int .u64 (r.lsn : Int), .int .i64 r.kind, .int .u64 (r.txn : Int), .int .u64 (r.back : Int), .int .i64 r.page, .int .i64 r.slot, .slice s7.Ao s7.no s7.co, .slice s7.An s7.nn s7.cn, .int .u64 (r.next : Int)] 25)).heap.size = w7.heap.size + 1 := by simp
    clear R7 HREC7
    go_wp2_with fail
    · have HD := decode_any A1 ((bytesM r).take 0) 0 c1 (w7.alloc (.cells #[.int .u64 (r.lsn : Int), .int .i64 r.kind, .int .u64 (r.txn : Int), .int .u64 (r.back : Int), .int .i64 r.page, .int .i64 r.slot, .slice s7.Ao s7.no s7.co, .slice s7.An s7.nn s7.cn, .int .u64 (r.next : Int)] 25)) (by rw [List.length_take, HL1.out]; omega) (by omega) _ (Bs.pre HB8.out 0) (by omega) HA1.out
      have hZ7 := recM_cut (bytesM r) r 0 (by have := HBK2.out []; rwa [List.append_nil] at this) (by rw [HL1.out]; omega)
      generalize recM ((bytesM r).take 0) 0 = Z at HD hZ7
      have HHD := Lib.hid HD
      clear HD
      refine HHD.out.mono ?_
      rintro e w9 ⟨s9, rfl, hrec9, hb9⟩
      have R9 := Lib.hid (R8.out.below hb9 (by omega))
      have RX9 := Lib.hid (RX8.out.below hb9 (by omega))
      have B9 := Lib.hid (B8.out.trans (hb9.mono B8.out.size))
      have HREC9 := Lib.hid ((HREC8.out.below (hb9.mono (by omega))).more (Nat.le_trans (by omega) hb9.size : w7.heap.size ≤ w9.heap.size))
      have hs9 : w7.heap.size < w9.heap.size := by have := hb9.size; omega
      have hs9b : w.heap.size < w9.heap.size := by omega
      have hd := R9.out
      have hx := RX9.out
      unfold rcs at hd hx
      have he0 : w9.cell? ⟨w.heap.size, 0, none⟩ = some (.int .u64 (r.lsn : Int)) := hd.cell 0
      have he1 : w9.cell? ⟨w.heap.size, 1, none⟩ = some (.int .i64 r.kind) := hd.cell 1
      have he2 : w9.cell? ⟨w.heap.size, 2, none⟩ = some (.int .u64 (r.txn : Int)) := hd.cell 2
      have he3 : w9.cell? ⟨w.heap.size, 3, none⟩ = some (.int .u64 (r.back : Int)) := hd.cell 3
      have he4 : w9.cell? ⟨w.heap.size, 4, none⟩ = some (.int .i64 r.page) := hd.cell 4
      have he5 : w9.cell? ⟨w.heap.size, 5, none⟩ = some (.int .i64 r.slot) := hd.cell 5
      have he6 : w9.cell? ⟨w.heap.size, 6, none⟩ = some (.slice s.Ao s.no s.co) := hd.cell 6
      have he7 : w9.cell? ⟨w.heap.size, 7, none⟩ = some (.slice s.An s.nn s.cn) := hd.cell 7
      have he8 : w9.cell? ⟨w.heap.size, 8, none⟩ = some (.int .u64 (r.next : Int)) := hd.cell 8
      have hf0 : w9.cell? ⟨w7.heap.size, 0, none⟩ = some (.int .u64 (r.lsn : Int)) := hx.cell 0
      have hf1 : w9.cell? ⟨w7.heap.size, 1, none⟩ = some (.int .i64 r.kind) := hx.cell 1
      have hf2 : w9.cell? ⟨w7.heap.size, 2, none⟩ = some (.int .u64 (r.txn : Int)) := hx.cell 2
      have hf3 : w9.cell? ⟨w7.heap.size, 3, none⟩ = some (.int .u64 (r.back : Int)) := hx.cell 3
      have hf4 : w9.cell? ⟨w7.heap.size, 4, none⟩ = some (.int .i64 r.page) := hx.cell 4
      have hf5 : w9.cell? ⟨w7.heap.size, 5, none⟩ = some (.int .i64 r.slot) := hx.cell 5
      have hf6 : w9.cell? ⟨w7.heap.size, 6, none⟩ = some (.slice s7.Ao s7.no s7.co) := hx.cell 6
      have hf7 : w9.cell? ⟨w7.heap.size, 7, none⟩ = some (.slice s7.An s7.nn s7.cn) := hx.cell 7
      have hf8 : w9.cell? ⟨w7.heap.size, 8, none⟩ = some (.int .u64 (r.next : Int)) := hx.cell 8
      clear hrec9 hb9 HHD hd hx
      rw [hZ7]
      simp only [if_neg (show ¬ (7 : Int) = 0 from by decide), rcs]
      go_wp2_with fail
      refine (HSM.out _ s7 (B9.out.alloc B9.out.size _) ((HREC9.out.alloc (Nat.le_refl _) _).more (by simp))).mono ?_
      rintro e wf ⟨rfl, hbf⟩
      rw [(same_iff r r).2 rfl]
      have HBF := Lib.hid ((B9.out.alloc B9.out.size _).trans (hbf.mono (Nat.le_trans B9.out.size (by simp))))
      clear hbf
      go_wp2
      go_ret
      exact ⟨rfl, HBF.out⟩
    · have HD := decode_any A1 ((bytesM r).take K) K c1 (w7.alloc (.cells #[.int .u64 (r.lsn : Int), .int .i64 r.kind, .int .u64 (r.txn : Int), .int .u64 (r.back : Int), .int .i64 r.page, .int .i64 r.slot, .slice s7.Ao s7.no s7.co, .slice s7.An s7.nn s7.cn, .int .u64 (r.next : Int)] 25)) (by rw [List.length_take, HL1.out]; omega) (by omega) _ (Bs.pre HB8.out K) (by omega) HA1.out
      have hZ7 := recM_cut (bytesM r) r K (by have := HBK2.out []; rwa [List.append_nil] at this) (by rw [HL1.out]; omega)
      generalize recM ((bytesM r).take K) 0 = Z at HD hZ7
      have HHD := Lib.hid HD
      clear HD
      refine HHD.out.mono ?_
      rintro e w9 ⟨s9, rfl, hrec9, hb9⟩
      have R9 := Lib.hid (R8.out.below hb9 (by omega))
      have RX9 := Lib.hid (RX8.out.below hb9 (by omega))
      have B9 := Lib.hid (B8.out.trans (hb9.mono B8.out.size))
      have HREC9 := Lib.hid ((HREC8.out.below (hb9.mono (by omega))).more (Nat.le_trans (by omega) hb9.size : w7.heap.size ≤ w9.heap.size))
      have hs9 : w7.heap.size < w9.heap.size := by have := hb9.size; omega
      have hs9b : w.heap.size < w9.heap.size := by omega
      have hd := R9.out
      have hx := RX9.out
      unfold rcs at hd hx
      have he0 : w9.cell? ⟨w.heap.size, 0, none⟩ = some (.int .u64 (r.lsn : Int)) := hd.cell 0
      have he1 : w9.cell? ⟨w.heap.size, 1, none⟩ = some (.int .i64 r.kind) := hd.cell 1
      have he2 : w9.cell? ⟨w.heap.size, 2, none⟩ = some (.int .u64 (r.txn : Int)) := hd.cell 2
      have he3 : w9.cell? ⟨w.heap.size, 3, none⟩ = some (.int .u64 (r.back : Int)) := hd.cell 3
      have he4 : w9.cell? ⟨w.heap.size, 4, none⟩ = some (.int .i64 r.page) := hd.cell 4
      have he5 : w9.cell? ⟨w.heap.size, 5, none⟩ = some (.int .i64 r.slot) := hd.cell 5
      have he6 : w9.cell? ⟨w.heap.size, 6, none⟩ = some (.slice s.Ao s.no s.co) := hd.cell 6
      have he7 : w9.cell? ⟨w.heap.size, 7, none⟩ = some (.slice s.An s.nn s.cn) := hd.cell 7
      have he8 : w9.cell? ⟨w.heap.size, 8, none⟩ = some (.int .u64 (r.next : Int)) := hd.cell 8
      have hf0 : w9.cell? ⟨w7.heap.size, 0, none⟩ = some (.int .u64 (r.lsn : Int)) := hx.cell 0
      have hf1 : w9.cell? ⟨w7.heap.size, 1, none⟩ = some (.int .i64 r.kind) := hx.cell 1
      have hf2 : w9.cell? ⟨w7.heap.size, 2, none⟩ = some (.int .u64 (r.txn : Int)) := hx.cell 2
      have hf3 : w9.cell? ⟨w7.heap.size, 3, none⟩ = some (.int .u64 (r.back : Int)) := hx.cell 3
      have hf4 : w9.cell? ⟨w7.heap.size, 4, none⟩ = some (.int .i64 r.page) := hx.cell 4
      have hf5 : w9.cell? ⟨w7.heap.size, 5, none⟩ = some (.int .i64 r.slot) := hx.cell 5
      have hf6 : w9.cell? ⟨w7.heap.size, 6, none⟩ = some (.slice s7.Ao s7.no s7.co) := hx.cell 6
      have hf7 : w9.cell? ⟨w7.heap.size, 7, none⟩ = some (.slice s7.An s7.nn s7.cn) := hx.cell 7
      have hf8 : w9.cell? ⟨w7.heap.size, 8, none⟩ = some (.int .u64 (r.next : Int)) := hx.cell 8
      clear hrec9 hb9 HHD hd hx
      rw [hZ7]
      simp only [if_neg (show ¬ (7 : Int) = 0 from by decide), rcs]
      go_wp2_with fail
      refine (HSM.out _ s7 (B9.out.alloc B9.out.size _) ((HREC9.out.alloc (Nat.le_refl _) _).more (by simp))).mono ?_
      rintro e wf ⟨rfl, hbf⟩
      rw [(same_iff r r).2 rfl]
      have HBF := Lib.hid ((B9.out.alloc B9.out.size _).trans (hbf.mono (Nat.le_trans B9.out.size (by simp))))
      clear hbf
      go_wp2
      go_ret
      exact ⟨rfl, HBF.out⟩

theorem resT_RecordBack : Try.f7.resultTypes = #[4] := by kernel_rfl
set_option maxRecDepth 100000 in
theorem lifted_RecordBack (os : Os) (started : os.Started) (H : Type) (enc : TypeId × Value → H) :
    ReturnsInHanded {} Try.checked os 7 .any (Rows.recordBackSpec.pre6 enc Try.prog Try.f7 Rows.recordBackRow.domain false) (Rows.recordBackSpec.post enc Try.prog Try.f7 false true false false) := by
  refine Lift.law_lift (C := Try.checked) (s := Rows.recordBackSpec) (tb := 4) own laidOut started (by kernel_rfl) Try.func7
    (ChangeSpec.witness6 (enc := enc) (C := Try.checked) false ⟨#[], #[.agg #[.int .u64 0, .int .i64 0, .int .u64 0, .int .u64 0, .int .i64 0, .int .i64 0, .slice none 0 0, .slice none 0 0, .int .u64 0], .int .i64 0, .slice none 0 0], []⟩ 8 (by kernel_rfl) (by kernel_rfl) (by kernel_rfl) (by kernel_rfl))
    rfl resT_RecordBack Try.underlying4 (by
      have hr : ∀ t ∈ ([25, 3, 23] : List TypeId), Try.prog.readableRec t = true ∧ t < Try.prog.types.size := by
        intro t ht
        simp only [List.mem_cons, List.not_mem_nil, or_false] at ht
        rcases ht with rfl | rfl | rfl <;> exact ⟨by kernel_rfl, of_decide_eq_true (by kernel_rfl)⟩
      intro t ht
      exact hr t (by
        have ht' : t ∈ Try.f7.params.toList := ht
        rw [Try.params7] at ht'
        exact ht')) ?_
  intro W base args ds p hval0 hA0 hsz0
  have hval : ∀ (j : Nat) t v, Try.f7.params[j]? = some t → args[j]? = some v → Value.okWide Try.prog W .any base t v := hval0
  have hA : DataW.TrodAll enc Try.prog W 0 (fun _ => true) true Try.f7.params.toList args.toList ds p := hA0
  have hsz : (DataW.weightsEach Try.prog Try.f7.params.toList ds).all (· ≤ reachBytes) = true := hsz0
  clear hval0 hA0 hsz0
  rw [Try.params7] at hA hval hsz
  obtain ⟨v0, vs0, d0, ds0, p0, q0, hargs, rfl, rfl, h0, r0⟩ := trodAll_cons hA
  obtain ⟨v1, vs1, d1, ds1, p1, q1, rfl, rfl, rfl, h1, r1⟩ := trodAll_cons r0
  obtain ⟨v2, vs2, d2, ds2, p2, q2, rfl, rfl, rfl, h2, r2⟩ := trodAll_cons r1
  obtain ⟨rfl, rfl, rfl⟩ := trodAll_nil r2
  obtain rfl : args = #[v0, v1, v2] := by cases args; simp_all
  obtain ⟨cs0, rfl, _⟩ := okWide_struct Try.underlying25 (hval 0 25 v0 rfl rfl)
  obtain ⟨fuel0, hf0⟩ := h0
  obtain ⟨o0, hcs0, hok0⟩ := open_rec hf0 (by rw [List.all_eq_true] at hsz ⊢; intro z hz; exact hsz z (DataW.weights_mem_each (j := 0) (t := 25) (d := d0) rfl rfl z hz))
  have hv0 : Value.agg cs0 = .agg (rcs o0.1 o0.2).toArray := by
    have : cs0.toList = rcs o0.1 o0.2 := by simpa [Value.cells] using hcs0
    rw [← this]
  rw [hv0]
  obtain ⟨a1, rfl, rfl, rfl, w1⟩ := open_int Try.underlying3 (hval 1 3 v1 rfl rfl) h1
  obtain ⟨A2, len2, cap2, l2, rfl, hl2, hlc2, hcm2, hn2, hb2, hd2⟩ := Lift.open_bytes Try.underlying23 Try.underlying5 (by kernel_rfl) (hval 2 23 v2 rfl rfl) h2
  have hc2 : cap2 ≤ 140737488351232 := Lift.bytes_reach bytes1 hsz (j := 2) rfl rfl Try.underlying23 hd2
  exact ⟨rfl, back_walk o0.1 o0.2 a1 A2 l2 len2 cap2 W hok0 hl2 hc2 hlc2 hn2 hb2 (by simpa [Lit.wf, IntKind.min, IntKind.max, IntKind.signed, IntKind.bits] using w1)⟩

theorem proved_RecordBack : Rows.RecordBackSaid :=
  OpenClaim.holds_of_wide 7 Try.f7 rfl rfl rfl rfl rfl rfl rfl ⟨rfl, rfl, rfl, rfl, rfl⟩ rfl rfl rfl rfl rfl (by kernel_rfl) Try.func7 (by kernel_rfl)
    (of_decide_eq_true (by kernel_rfl)) (by unfold Func.isWrapper; first | (rw [if_pos (by decide +kernel)]; kernel_rfl) | (rw [if_neg (by decide +kernel)]; exact ⟨rfl, rfl⟩))
    (fun os started H enc _ => lifted_RecordBack os started H enc)
end Go.Proofs.Ytgejjempllcjjaa.Rec
