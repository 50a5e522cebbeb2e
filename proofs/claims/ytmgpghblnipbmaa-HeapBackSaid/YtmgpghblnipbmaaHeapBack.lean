/-
  HeapBack: tuples and their bytes lead back to one another. No condition.
-/
import Derived.Test.YtmgpghblnipbmaaHp8
import Derived.Test.YtmgpghblnipbmaaHpO
import Derived.Test.YtmgpghblnipbmaaPgG
import Derived.Deep.RegionHeld
import Derived.Deep.Cut
import Derived.WalkLawsBesides
namespace Go.Proofs.Ytmgpghblnipbmaa.HeapBack
set_option maxRecDepth 100000
open Go.RowKit Go.ChangeShapes Go.WideShapes Go.ChangeAt Go.Proofs.Ytmgpghblnipbmaa.Pg Go.Proofs.Ytmgpghblnipbmaa.Rec Go.Proofs.Ytmgpghblnipbmaa.Wd Go.Proofs.Ytmgpghblnipbmaa.Wi Go.Proofs.Ytmgpghblnipbmaa.Ky Go.Proofs.Ytmgpghblnipbmaa.Oct Go.Proofs.Ytmgpghblnipbmaa.Lift Go.Proofs.Ytmgpghblnipbmaa.Hp

theorem own : ownKnob Try.prog.godebug = none := by kernel_rfl
theorem laidOut : laidOutB Try.prog = true := by kernel_rfl
theorem bytes1 : Try.prog.bytesOf 5 = 1 := by kernel_rfl

set_option maxHeartbeats 4000000 in
theorem walk (r a b : Nat) (x0 x1 y0 y1 v : Int) (A : Option Addr) (n c : Nat) (l : List UInt8) (w : World) (h : TuOk ⟨r, a, b, x0, x1, y0, y1, v⟩) (hS : Sl w w.heap.size A n c l) :
    Calls Try.prog 5 #[TV r a b x0 x1 y0 y1 v, .slice A n c] w fun e w' => e = .returned (.bool true) ∧ Below w.heap.size w w' := by
  have HW := Lib.hid wakes_any
  have PB0 := Lib.hid hS
  have hcap := hS.cap
  have hmost := hS.most
  unfold maxLen at hmost
  clear hS
  obtain ⟨n2, hn2⟩ : ∃ n2, n2 = min 60 n := ⟨_, rfl⟩
  have HL2 := Lib.hid hn2
  have hmin : (if (60 : Int) < (n : Int) then (60 : Int) else (n : Int)) = (n2 : Int) := by split <;> omega
  have hn2c : n2 ≤ c := by omega
  clear hn2 hcap
  have hr := h.r
  dsimp only at hr
  rcases hk : okT r a b x0 x1 y0 y1 with _ | _
  · have HE := Lib.hid (fun w => Encode_no r a b x0 x1 y0 y1 v w hk)
    clear hk h hr
    go_enter Try.func5, Try.ntmps5
    go_upto_region 1 with fail
    have PB_n1 := Lib.hid ((PB0.out.below ((Below.refl w.heap.size w).alloc (Nat.le_refl _) (.cells #[.int .u32 r, .int .u64 a, .int .u64 b, .int .i64 x0, .int .i64 x1, .int .i64 y0, .int .i64 y1, .int .i64 v] 30))).more ((Below.refl w.heap.size w).alloc (Nat.le_refl _) (.cells #[.int .u32 r, .int .u64 a, .int .u64 b, .int .i64 x0, .int .i64 x1, .int .i64 y0, .int .i64 y1, .int .i64 v] 30)).size)
    have RT_n1 := Lib.hid (row_last w (w.heap.size) 30 [.int .u32 r, .int .u64 a, .int .u64 b, .int .i64 x0, .int .i64 x1, .int .i64 y0, .int .i64 y1, .int .i64 v] (by simp))
    have B_n1 := Lib.hid ((Below.refl w.heap.size w).alloc (Nat.le_refl _) (.cells #[.int .u32 r, .int .u64 a, .int .u64 b, .int .i64 x0, .int .i64 x1, .int .i64 y0, .int .i64 y1, .int .i64 v] 30))
    clear PB0
    generalize (w.alloc (.cells #[.int .u32 r, .int .u64 a, .int .u64 b, .int .i64 x0, .int .i64 x1, .int .i64 y0, .int .i64 y1, .int .i64 v] 30)) = Vn1 at RT_n1 PB_n1 B_n1 ⊢
    go_wp2_with fail
    refine (HW.out _).mono ?_
    rintro e Wn2 ⟨rfl, hb⟩
    have RT_n3 := Lib.hid (RT_n1.out.below hb RT_n1.out.lt)
    have PB_n3 := Lib.hid ((PB_n1.out.below hb).more hb.size)
    have B_n3 := Lib.hid (B_n1.out.trans (hb.mono B_n1.out.size))
    clear hb RT_n1 PB_n1 B_n1
    have cn4_0 := RT_n3.out.cell 0
    have cn4_1 := RT_n3.out.cell 1
    have cn4_2 := RT_n3.out.cell 2
    have cn4_3 := RT_n3.out.cell 3
    have cn4_4 := RT_n3.out.cell 4
    have cn4_5 := RT_n3.out.cell 5
    have cn4_6 := RT_n3.out.cell 6
    have cn4_7 := RT_n3.out.cell 7
    simp only [List.getElem?_cons_zero, List.getElem?_cons_succ] at cn4_0 cn4_1 cn4_2 cn4_3 cn4_4 cn4_5 cn4_6 cn4_7
    go_wp2_with fail
    clear cn4_0 cn4_1 cn4_2 cn4_3 cn4_4 cn4_5 cn4_6 cn4_7
    refine (HE.out _).mono ?_
    rintro e W1 ⟨rfl, hb⟩
    have RT_n5 := Lib.hid (RT_n3.out.below hb RT_n3.out.lt)
    have PB_n5 := Lib.hid ((PB_n3.out.below hb).more hb.size)
    have B_n5 := Lib.hid (B_n3.out.trans (hb.mono B_n3.out.size))
    clear hb RT_n3 PB_n3 B_n3
    go_wp2_with fail
    clear hmin hn2c
    have HSL := Lib.hid (Pg.Sl.pre PB_n5.out 60 n2 HL2.out)
    clear PB_n5
    rcases hd : decM (l.take 60) with _ | u
    · have HD := Lib.hid hd
      clear hd
      refine (Decode_none A _ n2 c _ HD.out HSL.out.len (by have := HL2.out; omega) HSL.out.nil HSL.out.bs).mono ?_
      rintro e W3 ⟨rfl, hb⟩
      have RT_nx6 := Lib.hid (RT_n5.out.below hb RT_n5.out.lt)
      have PC_nx6 := Lib.hid ((HSL.out.below hb).more hb.size)
      have B_nx6 := Lib.hid (B_n5.out.trans (hb.mono B_n5.out.size))
      clear hb RT_n5 HSL B_n5
      go_upto_region 10 with fail
      have hltnx7_0 : w.heap.size < W3.heap.size := RT_nx6.out.lt
      have RT_nx7 := Lib.hid (RT_nx6.out.alloc (.cells #[.int .u32 0, .int .u64 0, .int .u64 0, .int .i64 0, .int .i64 0, .int .i64 0, .int .i64 0, .int .i64 0] 30))
      have PC_nx7 := Lib.hid ((PC_nx6.out.below ((Below.refl W3.heap.size W3).alloc (Nat.le_refl _) (.cells #[.int .u32 0, .int .u64 0, .int .u64 0, .int .i64 0, .int .i64 0, .int .i64 0, .int .i64 0, .int .i64 0] 30))).more ((Below.refl W3.heap.size W3).alloc (Nat.le_refl _) (.cells #[.int .u32 0, .int .u64 0, .int .u64 0, .int .i64 0, .int .i64 0, .int .i64 0, .int .i64 0, .int .i64 0] 30)).size)
      have RV_nx7 := Lib.hid (row_last W3 (W3.heap.size) 30 [.int .u32 0, .int .u64 0, .int .u64 0, .int .i64 0, .int .i64 0, .int .i64 0, .int .i64 0, .int .i64 0] (by simp))
      have B_nx7 := Lib.hid (B_nx6.out.alloc B_nx6.out.size (.cells #[.int .u32 0, .int .u64 0, .int .u64 0, .int .i64 0, .int .i64 0, .int .i64 0, .int .i64 0, .int .i64 0] 30))
      clear RT_nx6 PC_nx6 B_nx6
      generalize (W3.alloc (.cells #[.int .u32 0, .int .u64 0, .int .u64 0, .int .i64 0, .int .i64 0, .int .i64 0, .int .i64 0, .int .i64 0] 30)) = Vnx7 at RT_nx7 RV_nx7 PC_nx7 B_nx7 ⊢
      have cnx8_0 := RV_nx7.out.cell 0
      have cnx8_1 := RV_nx7.out.cell 1
      have cnx8_2 := RV_nx7.out.cell 2
      have cnx8_3 := RV_nx7.out.cell 3
      have cnx8_4 := RV_nx7.out.cell 4
      have cnx8_5 := RV_nx7.out.cell 5
      have cnx8_6 := RV_nx7.out.cell 6
      have cnx8_7 := RV_nx7.out.cell 7
      simp only [List.getElem?_cons_zero, List.getElem?_cons_succ] at cnx8_0 cnx8_1 cnx8_2 cnx8_3 cnx8_4 cnx8_5 cnx8_6 cnx8_7
      go_wp2
      go_ret
      exact ⟨rfl, B_nx7.out⟩
    · obtain ⟨hu1, hu2⟩ := dec_ok hd
      have HU := Lib.hid (dec_back hd)
      obtain ⟨r', a', b', u0, u1, w0, w1, v'⟩ := u
      have HD := Lib.hid hd
      have HE2 := Lib.hid (fun w => Encode_ok r' a' b' u0 u1 w0 w1 v' w hu2 hu1.r)
      have HC2 := Lib.hid (fun w => Check_any r' a' b' u0 u1 w0 w1 v' w)
      dsimp only at hu2 HU
      rw [hu2, if_pos rfl] at HC2
      rw [HU.out] at HE2
      clear hd hu1 hu2
      refine (Decode_some A _ n2 c r' a' b' u0 u1 w0 w1 v' _ HD.out HSL.out.len HSL.out.nil HSL.out.bs).mono ?_
      rintro e W3 ⟨rfl, hb⟩
      have RT_ny6 := Lib.hid (RT_n5.out.below hb RT_n5.out.lt)
      have PC_ny6 := Lib.hid ((HSL.out.below hb).more hb.size)
      have B_ny6 := Lib.hid (B_n5.out.trans (hb.mono B_n5.out.size))
      clear hb RT_n5 HSL B_n5
      go_upto_region 10 with fail
      have hltny7_0 : w.heap.size < W3.heap.size := RT_ny6.out.lt
      have RT_ny7 := Lib.hid (RT_ny6.out.alloc (.cells #[.int .u32 (r' : Int), .int .u64 (a' : Int), .int .u64 (b' : Int), .int .i64 u0, .int .i64 u1, .int .i64 w0, .int .i64 w1, .int .i64 v'] 30))
      have PC_ny7 := Lib.hid ((PC_ny6.out.below ((Below.refl W3.heap.size W3).alloc (Nat.le_refl _) (.cells #[.int .u32 (r' : Int), .int .u64 (a' : Int), .int .u64 (b' : Int), .int .i64 u0, .int .i64 u1, .int .i64 w0, .int .i64 w1, .int .i64 v'] 30))).more ((Below.refl W3.heap.size W3).alloc (Nat.le_refl _) (.cells #[.int .u32 (r' : Int), .int .u64 (a' : Int), .int .u64 (b' : Int), .int .i64 u0, .int .i64 u1, .int .i64 w0, .int .i64 w1, .int .i64 v'] 30)).size)
      have RV_ny7 := Lib.hid (row_last W3 (W3.heap.size) 30 [.int .u32 (r' : Int), .int .u64 (a' : Int), .int .u64 (b' : Int), .int .i64 u0, .int .i64 u1, .int .i64 w0, .int .i64 w1, .int .i64 v'] (by simp))
      have B_ny7 := Lib.hid (B_ny6.out.alloc B_ny6.out.size (.cells #[.int .u32 (r' : Int), .int .u64 (a' : Int), .int .u64 (b' : Int), .int .i64 u0, .int .i64 u1, .int .i64 w0, .int .i64 w1, .int .i64 v'] 30))
      clear RT_ny6 PC_ny6 B_ny6
      generalize (W3.alloc (.cells #[.int .u32 (r' : Int), .int .u64 (a' : Int), .int .u64 (b' : Int), .int .i64 u0, .int .i64 u1, .int .i64 w0, .int .i64 w1, .int .i64 v'] 30)) = Vny7 at RT_ny7 RV_ny7 PC_ny7 B_ny7 ⊢
      have cny8_0 := RV_ny7.out.cell 0
      have cny8_1 := RV_ny7.out.cell 1
      have cny8_2 := RV_ny7.out.cell 2
      have cny8_3 := RV_ny7.out.cell 3
      have cny8_4 := RV_ny7.out.cell 4
      have cny8_5 := RV_ny7.out.cell 5
      have cny8_6 := RV_ny7.out.cell 6
      have cny8_7 := RV_ny7.out.cell 7
      simp only [List.getElem?_cons_zero, List.getElem?_cons_succ] at cny8_0 cny8_1 cny8_2 cny8_3 cny8_4 cny8_5 cny8_6 cny8_7
      go_wp2_with fail
      clear cny8_0 cny8_1 cny8_2 cny8_3 cny8_4 cny8_5 cny8_6 cny8_7
      refine (HE2.out _).mono ?_
      rintro e W4 ⟨A2, c2, rfl, hS, hb⟩
      have RT_ny9 := Lib.hid (RT_ny7.out.below hb RT_ny7.out.lt)
      have RV_ny9 := Lib.hid (RV_ny7.out.below hb RV_ny7.out.lt)
      have PC_ny9 := Lib.hid ((PC_ny7.out.below hb).more hb.size)
      have B_ny9 := Lib.hid (B_ny7.out.trans (hb.mono B_ny7.out.size))
      clear hb RT_ny7 RV_ny7 PC_ny7 B_ny7
      have HS2 := Lib.hid hS
      clear hS
      have HEQ := bytesEq_any A2 A 52 c2 n2 c (l.take 60) (l.take 60) _ _ W4 HS2.out.len PC_ny9.out.len HS2.out.bs PC_ny9.out.bs
      rw [decide_eq_true rfl] at HEQ
      have HEQ := Lib.hid HEQ
      go_wp2_with fail
      refine HEQ.out.mono ?_
      rintro e W5 ⟨rfl, rfl⟩
      have cny10_0 := RV_ny9.out.cell 0
      have cny10_1 := RV_ny9.out.cell 1
      have cny10_2 := RV_ny9.out.cell 2
      have cny10_3 := RV_ny9.out.cell 3
      have cny10_4 := RV_ny9.out.cell 4
      have cny10_5 := RV_ny9.out.cell 5
      have cny10_6 := RV_ny9.out.cell 6
      have cny10_7 := RV_ny9.out.cell 7
      simp only [List.getElem?_cons_zero, List.getElem?_cons_succ] at cny10_0 cny10_1 cny10_2 cny10_3 cny10_4 cny10_5 cny10_6 cny10_7
      go_wp2_with fail
      clear cny10_0 cny10_1 cny10_2 cny10_3 cny10_4 cny10_5 cny10_6 cny10_7
      refine (HC2.out _).mono ?_
      rintro e W6 ⟨rfl, hb⟩
      have RT_ny11 := Lib.hid (RT_ny9.out.below hb RT_ny9.out.lt)
      have RV_ny11 := Lib.hid (RV_ny9.out.below hb RV_ny9.out.lt)
      have PC_ny11 := Lib.hid ((PC_ny9.out.below hb).more hb.size)
      have B_ny11 := Lib.hid (B_ny9.out.trans (hb.mono B_ny9.out.size))
      clear hb RT_ny9 RV_ny9 PC_ny9 B_ny9
      go_wp2
      go_ret
      exact ⟨rfl, B_ny11.out⟩
  · have HE := Lib.hid (fun w => Encode_ok r a b x0 x1 y0 y1 v w hk hr)
    have HBK := Lib.hid (tb_back h hk)
    dsimp only at HBK
    clear hk h hr
    go_enter Try.func5, Try.ntmps5
    go_upto_region 1 with fail
    have PB_o1 := Lib.hid ((PB0.out.below ((Below.refl w.heap.size w).alloc (Nat.le_refl _) (.cells #[.int .u32 r, .int .u64 a, .int .u64 b, .int .i64 x0, .int .i64 x1, .int .i64 y0, .int .i64 y1, .int .i64 v] 30))).more ((Below.refl w.heap.size w).alloc (Nat.le_refl _) (.cells #[.int .u32 r, .int .u64 a, .int .u64 b, .int .i64 x0, .int .i64 x1, .int .i64 y0, .int .i64 y1, .int .i64 v] 30)).size)
    have RT_o1 := Lib.hid (row_last w (w.heap.size) 30 [.int .u32 r, .int .u64 a, .int .u64 b, .int .i64 x0, .int .i64 x1, .int .i64 y0, .int .i64 y1, .int .i64 v] (by simp))
    have B_o1 := Lib.hid ((Below.refl w.heap.size w).alloc (Nat.le_refl _) (.cells #[.int .u32 r, .int .u64 a, .int .u64 b, .int .i64 x0, .int .i64 x1, .int .i64 y0, .int .i64 y1, .int .i64 v] 30))
    clear PB0
    generalize (w.alloc (.cells #[.int .u32 r, .int .u64 a, .int .u64 b, .int .i64 x0, .int .i64 x1, .int .i64 y0, .int .i64 y1, .int .i64 v] 30)) = Vo1 at RT_o1 PB_o1 B_o1 ⊢
    go_wp2_with fail
    refine (HW.out _).mono ?_
    rintro e Wo2 ⟨rfl, hb⟩
    have RT_o3 := Lib.hid (RT_o1.out.below hb RT_o1.out.lt)
    have PB_o3 := Lib.hid ((PB_o1.out.below hb).more hb.size)
    have B_o3 := Lib.hid (B_o1.out.trans (hb.mono B_o1.out.size))
    clear hb RT_o1 PB_o1 B_o1
    have co4_0 := RT_o3.out.cell 0
    have co4_1 := RT_o3.out.cell 1
    have co4_2 := RT_o3.out.cell 2
    have co4_3 := RT_o3.out.cell 3
    have co4_4 := RT_o3.out.cell 4
    have co4_5 := RT_o3.out.cell 5
    have co4_6 := RT_o3.out.cell 6
    have co4_7 := RT_o3.out.cell 7
    simp only [List.getElem?_cons_zero, List.getElem?_cons_succ] at co4_0 co4_1 co4_2 co4_3 co4_4 co4_5 co4_6 co4_7
    go_wp2_with fail
    clear co4_0 co4_1 co4_2 co4_3 co4_4 co4_5 co4_6 co4_7
    refine (HE.out _).mono ?_
    rintro e W1 ⟨A1, c1, rfl, hS, hb⟩
    have RT_o5 := Lib.hid (RT_o3.out.below hb RT_o3.out.lt)
    have PB_o5 := Lib.hid ((PB_o3.out.below hb).more hb.size)
    have B_o5 := Lib.hid (B_o3.out.trans (hb.mono B_o3.out.size))
    clear hb RT_o3 PB_o3 B_o3
    have HS1 := Lib.hid hS
    clear hS
    go_wp2_with fail
    refine (Decode_some A1 _ 52 c1 r a b x0 x1 y0 y1 v _ HBK.out HS1.out.len HS1.out.nil HS1.out.bs).mono ?_
    rintro e W2 ⟨rfl, hb⟩
    clear HS1
    have RT_o6 := Lib.hid (RT_o5.out.below hb RT_o5.out.lt)
    have PB_o6 := Lib.hid ((PB_o5.out.below hb).more hb.size)
    have B_o6 := Lib.hid (B_o5.out.trans (hb.mono B_o5.out.size))
    clear hb RT_o5 PB_o5 B_o5
    go_upto_region 6 with fail
    have hlto7_0 : w.heap.size < W2.heap.size := RT_o6.out.lt
    have RT_o7 := Lib.hid (RT_o6.out.alloc (.cells #[.int .u32 r, .int .u64 a, .int .u64 b, .int .i64 x0, .int .i64 x1, .int .i64 y0, .int .i64 y1, .int .i64 v] 30))
    have PB_o7 := Lib.hid ((PB_o6.out.below ((Below.refl W2.heap.size W2).alloc (Nat.le_refl _) (.cells #[.int .u32 r, .int .u64 a, .int .u64 b, .int .i64 x0, .int .i64 x1, .int .i64 y0, .int .i64 y1, .int .i64 v] 30))).more ((Below.refl W2.heap.size W2).alloc (Nat.le_refl _) (.cells #[.int .u32 r, .int .u64 a, .int .u64 b, .int .i64 x0, .int .i64 x1, .int .i64 y0, .int .i64 y1, .int .i64 v] 30)).size)
    have RU_o7 := Lib.hid (row_last W2 (W2.heap.size) 30 [.int .u32 r, .int .u64 a, .int .u64 b, .int .i64 x0, .int .i64 x1, .int .i64 y0, .int .i64 y1, .int .i64 v] (by simp))
    have B_o7 := Lib.hid (B_o6.out.alloc B_o6.out.size (.cells #[.int .u32 r, .int .u64 a, .int .u64 b, .int .i64 x0, .int .i64 x1, .int .i64 y0, .int .i64 y1, .int .i64 v] 30))
    clear RT_o6 PB_o6 B_o6
    generalize (W2.alloc (.cells #[.int .u32 r, .int .u64 a, .int .u64 b, .int .i64 x0, .int .i64 x1, .int .i64 y0, .int .i64 y1, .int .i64 v] 30)) = Vo7 at RT_o7 RU_o7 PB_o7 B_o7 ⊢
    have co8_0 := RT_o7.out.cell 0
    have co8_1 := RT_o7.out.cell 1
    have co8_2 := RT_o7.out.cell 2
    have co8_3 := RT_o7.out.cell 3
    have co8_4 := RT_o7.out.cell 4
    have co8_5 := RT_o7.out.cell 5
    have co8_6 := RT_o7.out.cell 6
    have co8_7 := RT_o7.out.cell 7
    simp only [List.getElem?_cons_zero, List.getElem?_cons_succ] at co8_0 co8_1 co8_2 co8_3 co8_4 co8_5 co8_6 co8_7
    have co9_0 := RU_o7.out.cell 0
    have co9_1 := RU_o7.out.cell 1
    have co9_2 := RU_o7.out.cell 2
    have co9_3 := RU_o7.out.cell 3
    have co9_4 := RU_o7.out.cell 4
    have co9_5 := RU_o7.out.cell 5
    have co9_6 := RU_o7.out.cell 6
    have co9_7 := RU_o7.out.cell 7
    simp only [List.getElem?_cons_zero, List.getElem?_cons_succ] at co9_0 co9_1 co9_2 co9_3 co9_4 co9_5 co9_6 co9_7
    go_wp2_with fail
    clear co8_0 co8_1 co8_2 co8_3 co8_4 co8_5 co8_6 co8_7 co9_0 co9_1 co9_2 co9_3 co9_4 co9_5 co9_6 co9_7
    clear hmin hn2c
    have HSL := Lib.hid (Pg.Sl.pre PB_o7.out 60 n2 HL2.out)
    clear PB_o7
    rcases hd : decM (l.take 60) with _ | u
    · have HD := Lib.hid hd
      clear hd
      refine (Decode_none A _ n2 c _ HD.out HSL.out.len (by have := HL2.out; omega) HSL.out.nil HSL.out.bs).mono ?_
      rintro e W3 ⟨rfl, hb⟩
      have RT_ox10 := Lib.hid (RT_o7.out.below hb RT_o7.out.lt)
      have RU_ox10 := Lib.hid (RU_o7.out.below hb RU_o7.out.lt)
      have PC_ox10 := Lib.hid ((HSL.out.below hb).more hb.size)
      have B_ox10 := Lib.hid (B_o7.out.trans (hb.mono B_o7.out.size))
      clear hb RT_o7 RU_o7 HSL B_o7
      go_upto_region 10 with fail
      have hltox11_0 : w.heap.size < W3.heap.size := RT_ox10.out.lt
      have hltox11_1 : W2.heap.size < W3.heap.size := RU_ox10.out.lt
      have RT_ox11 := Lib.hid (RT_ox10.out.alloc (.cells #[.int .u32 0, .int .u64 0, .int .u64 0, .int .i64 0, .int .i64 0, .int .i64 0, .int .i64 0, .int .i64 0] 30))
      have RU_ox11 := Lib.hid (RU_ox10.out.alloc (.cells #[.int .u32 0, .int .u64 0, .int .u64 0, .int .i64 0, .int .i64 0, .int .i64 0, .int .i64 0, .int .i64 0] 30))
      have PC_ox11 := Lib.hid ((PC_ox10.out.below ((Below.refl W3.heap.size W3).alloc (Nat.le_refl _) (.cells #[.int .u32 0, .int .u64 0, .int .u64 0, .int .i64 0, .int .i64 0, .int .i64 0, .int .i64 0, .int .i64 0] 30))).more ((Below.refl W3.heap.size W3).alloc (Nat.le_refl _) (.cells #[.int .u32 0, .int .u64 0, .int .u64 0, .int .i64 0, .int .i64 0, .int .i64 0, .int .i64 0, .int .i64 0] 30)).size)
      have RV_ox11 := Lib.hid (row_last W3 (W3.heap.size) 30 [.int .u32 0, .int .u64 0, .int .u64 0, .int .i64 0, .int .i64 0, .int .i64 0, .int .i64 0, .int .i64 0] (by simp))
      have B_ox11 := Lib.hid (B_ox10.out.alloc B_ox10.out.size (.cells #[.int .u32 0, .int .u64 0, .int .u64 0, .int .i64 0, .int .i64 0, .int .i64 0, .int .i64 0, .int .i64 0] 30))
      clear RT_ox10 RU_ox10 PC_ox10 B_ox10
      generalize (W3.alloc (.cells #[.int .u32 0, .int .u64 0, .int .u64 0, .int .i64 0, .int .i64 0, .int .i64 0, .int .i64 0, .int .i64 0] 30)) = Vox11 at RT_ox11 RU_ox11 RV_ox11 PC_ox11 B_ox11 ⊢
      have cox12_0 := RV_ox11.out.cell 0
      have cox12_1 := RV_ox11.out.cell 1
      have cox12_2 := RV_ox11.out.cell 2
      have cox12_3 := RV_ox11.out.cell 3
      have cox12_4 := RV_ox11.out.cell 4
      have cox12_5 := RV_ox11.out.cell 5
      have cox12_6 := RV_ox11.out.cell 6
      have cox12_7 := RV_ox11.out.cell 7
      simp only [List.getElem?_cons_zero, List.getElem?_cons_succ] at cox12_0 cox12_1 cox12_2 cox12_3 cox12_4 cox12_5 cox12_6 cox12_7
      go_wp2
      go_ret
      exact ⟨rfl, B_ox11.out⟩
    · obtain ⟨hu1, hu2⟩ := dec_ok hd
      have HU := Lib.hid (dec_back hd)
      obtain ⟨r', a', b', u0, u1, w0, w1, v'⟩ := u
      have HD := Lib.hid hd
      have HE2 := Lib.hid (fun w => Encode_ok r' a' b' u0 u1 w0 w1 v' w hu2 hu1.r)
      have HC2 := Lib.hid (fun w => Check_any r' a' b' u0 u1 w0 w1 v' w)
      dsimp only at hu2 HU
      rw [hu2, if_pos rfl] at HC2
      rw [HU.out] at HE2
      clear hd hu1 hu2
      refine (Decode_some A _ n2 c r' a' b' u0 u1 w0 w1 v' _ HD.out HSL.out.len HSL.out.nil HSL.out.bs).mono ?_
      rintro e W3 ⟨rfl, hb⟩
      have RT_oy10 := Lib.hid (RT_o7.out.below hb RT_o7.out.lt)
      have RU_oy10 := Lib.hid (RU_o7.out.below hb RU_o7.out.lt)
      have PC_oy10 := Lib.hid ((HSL.out.below hb).more hb.size)
      have B_oy10 := Lib.hid (B_o7.out.trans (hb.mono B_o7.out.size))
      clear hb RT_o7 RU_o7 HSL B_o7
      go_upto_region 10 with fail
      have hltoy11_0 : w.heap.size < W3.heap.size := RT_oy10.out.lt
      have hltoy11_1 : W2.heap.size < W3.heap.size := RU_oy10.out.lt
      have RT_oy11 := Lib.hid (RT_oy10.out.alloc (.cells #[.int .u32 (r' : Int), .int .u64 (a' : Int), .int .u64 (b' : Int), .int .i64 u0, .int .i64 u1, .int .i64 w0, .int .i64 w1, .int .i64 v'] 30))
      have RU_oy11 := Lib.hid (RU_oy10.out.alloc (.cells #[.int .u32 (r' : Int), .int .u64 (a' : Int), .int .u64 (b' : Int), .int .i64 u0, .int .i64 u1, .int .i64 w0, .int .i64 w1, .int .i64 v'] 30))
      have PC_oy11 := Lib.hid ((PC_oy10.out.below ((Below.refl W3.heap.size W3).alloc (Nat.le_refl _) (.cells #[.int .u32 (r' : Int), .int .u64 (a' : Int), .int .u64 (b' : Int), .int .i64 u0, .int .i64 u1, .int .i64 w0, .int .i64 w1, .int .i64 v'] 30))).more ((Below.refl W3.heap.size W3).alloc (Nat.le_refl _) (.cells #[.int .u32 (r' : Int), .int .u64 (a' : Int), .int .u64 (b' : Int), .int .i64 u0, .int .i64 u1, .int .i64 w0, .int .i64 w1, .int .i64 v'] 30)).size)
      have RV_oy11 := Lib.hid (row_last W3 (W3.heap.size) 30 [.int .u32 (r' : Int), .int .u64 (a' : Int), .int .u64 (b' : Int), .int .i64 u0, .int .i64 u1, .int .i64 w0, .int .i64 w1, .int .i64 v'] (by simp))
      have B_oy11 := Lib.hid (B_oy10.out.alloc B_oy10.out.size (.cells #[.int .u32 (r' : Int), .int .u64 (a' : Int), .int .u64 (b' : Int), .int .i64 u0, .int .i64 u1, .int .i64 w0, .int .i64 w1, .int .i64 v'] 30))
      clear RT_oy10 RU_oy10 PC_oy10 B_oy10
      generalize (W3.alloc (.cells #[.int .u32 (r' : Int), .int .u64 (a' : Int), .int .u64 (b' : Int), .int .i64 u0, .int .i64 u1, .int .i64 w0, .int .i64 w1, .int .i64 v'] 30)) = Voy11 at RT_oy11 RU_oy11 RV_oy11 PC_oy11 B_oy11 ⊢
      have coy12_0 := RV_oy11.out.cell 0
      have coy12_1 := RV_oy11.out.cell 1
      have coy12_2 := RV_oy11.out.cell 2
      have coy12_3 := RV_oy11.out.cell 3
      have coy12_4 := RV_oy11.out.cell 4
      have coy12_5 := RV_oy11.out.cell 5
      have coy12_6 := RV_oy11.out.cell 6
      have coy12_7 := RV_oy11.out.cell 7
      simp only [List.getElem?_cons_zero, List.getElem?_cons_succ] at coy12_0 coy12_1 coy12_2 coy12_3 coy12_4 coy12_5 coy12_6 coy12_7
      go_wp2_with fail
      clear coy12_0 coy12_1 coy12_2 coy12_3 coy12_4 coy12_5 coy12_6 coy12_7
      refine (HE2.out _).mono ?_
      rintro e W4 ⟨A2, c2, rfl, hS, hb⟩
      have RT_oy13 := Lib.hid (RT_oy11.out.below hb RT_oy11.out.lt)
      have RU_oy13 := Lib.hid (RU_oy11.out.below hb RU_oy11.out.lt)
      have RV_oy13 := Lib.hid (RV_oy11.out.below hb RV_oy11.out.lt)
      have PC_oy13 := Lib.hid ((PC_oy11.out.below hb).more hb.size)
      have B_oy13 := Lib.hid (B_oy11.out.trans (hb.mono B_oy11.out.size))
      clear hb RT_oy11 RU_oy11 RV_oy11 PC_oy11 B_oy11
      have HS2 := Lib.hid hS
      clear hS
      have HEQ := bytesEq_any A2 A 52 c2 n2 c (l.take 60) (l.take 60) _ _ W4 HS2.out.len PC_oy13.out.len HS2.out.bs PC_oy13.out.bs
      rw [decide_eq_true rfl] at HEQ
      have HEQ := Lib.hid HEQ
      go_wp2_with fail
      refine HEQ.out.mono ?_
      rintro e W5 ⟨rfl, rfl⟩
      have coy14_0 := RV_oy13.out.cell 0
      have coy14_1 := RV_oy13.out.cell 1
      have coy14_2 := RV_oy13.out.cell 2
      have coy14_3 := RV_oy13.out.cell 3
      have coy14_4 := RV_oy13.out.cell 4
      have coy14_5 := RV_oy13.out.cell 5
      have coy14_6 := RV_oy13.out.cell 6
      have coy14_7 := RV_oy13.out.cell 7
      simp only [List.getElem?_cons_zero, List.getElem?_cons_succ] at coy14_0 coy14_1 coy14_2 coy14_3 coy14_4 coy14_5 coy14_6 coy14_7
      go_wp2_with fail
      clear coy14_0 coy14_1 coy14_2 coy14_3 coy14_4 coy14_5 coy14_6 coy14_7
      refine (HC2.out _).mono ?_
      rintro e W6 ⟨rfl, hb⟩
      have RT_oy15 := Lib.hid (RT_oy13.out.below hb RT_oy13.out.lt)
      have RU_oy15 := Lib.hid (RU_oy13.out.below hb RU_oy13.out.lt)
      have RV_oy15 := Lib.hid (RV_oy13.out.below hb RV_oy13.out.lt)
      have PC_oy15 := Lib.hid ((PC_oy13.out.below hb).more hb.size)
      have B_oy15 := Lib.hid (B_oy13.out.trans (hb.mono B_oy13.out.size))
      clear hb RT_oy13 RU_oy13 RV_oy13 PC_oy13 B_oy13
      go_wp2
      go_ret
      exact ⟨rfl, B_oy15.out⟩

theorem resT_HeapBack : Try.f5.resultTypes = #[4] := by kernel_rfl
set_option maxRecDepth 100000 in
theorem lifted_HeapBack (os : Os) (started : os.Started) (H : Type) (enc : TypeId × Value → H) :
    ReturnsInHanded {} Try.checked os 5 .any (Rows.heapBackSpec.pre6 enc Try.prog Try.f5 Rows.heapBackRow.domain false) (Rows.heapBackSpec.post enc Try.prog Try.f5 false true false false) := by
  refine Lift.law_lift (C := Try.checked) (s := Rows.heapBackSpec) (tb := 4) own laidOut started (by kernel_rfl) Try.func5
    (ChangeSpec.witness6 (enc := enc) (C := Try.checked) false ⟨#[], #[.agg #[.int .u32 0, .int .u64 0, .int .u64 0, .int .i64 0, .int .i64 0, .int .i64 0, .int .i64 0, .int .i64 0], .slice none 0 0], []⟩ 8 (by kernel_rfl) (by kernel_rfl) (by kernel_rfl) (by kernel_rfl))
    rfl resT_HeapBack Try.underlying4 (by
      have hr : ∀ t ∈ ([30, 31] : List TypeId), Try.prog.readableRec t = true ∧ t < Try.prog.types.size := by
        intro t ht
        simp only [List.mem_cons, List.not_mem_nil, or_false] at ht
        rcases ht with rfl | rfl <;> exact ⟨by kernel_rfl, of_decide_eq_true (by kernel_rfl)⟩
      intro t ht
      exact hr t (by
        have ht' : t ∈ Try.f5.params.toList := ht
        rw [Try.params5] at ht'
        exact ht')) ?_
  intro W base args ds p hval0 hA0 hsz0
  have hval : ∀ (j : Nat) t v, Try.f5.params[j]? = some t → args[j]? = some v → Value.okWide Try.prog W .any base t v := hval0
  have hA : DataW.TrodAll enc Try.prog W 0 (fun _ => true) true Try.f5.params.toList args.toList ds p := hA0
  have hsz : (DataW.weightsEach Try.prog Try.f5.params.toList ds).all (· ≤ reachBytes) = true := hsz0
  clear hval0 hA0 hsz0
  rw [Try.params5] at hA hval hsz
  obtain ⟨v0, vs0, d0, ds0, p0, q0, hargs, rfl, rfl, h0, r0⟩ := trodAll_cons hA
  obtain ⟨v1, vs1, d1, ds1, p1, q1, rfl, rfl, rfl, h1, r1⟩ := trodAll_cons r0
  obtain ⟨rfl, rfl, rfl⟩ := trodAll_nil r1
  obtain rfl : args = #[v0, v1] := by cases args; simp_all
  obtain ⟨t0, rfl, ht0⟩ := open_tup (hval 0 30 v0 rfl rfl) h0
  obtain ⟨A1, len1, cap1, l1, rfl, hl1, hlc1, hcm1, hn1, hb1, hd1⟩ := Lift.open_bytes Try.underlying31 Try.underlying5 (by kernel_rfl) (hval 1 31 v1 rfl rfl) h1
  exact ⟨rfl, walk t0.r t0.a t0.b t0.x0 t0.x1 t0.y0 t0.y1 t0.v A1 len1 cap1 l1 W ht0 ⟨hl1, hlc1, hcm1, hn1, hb1⟩⟩

theorem proved_HeapBack : Rows.HeapBackSaid :=
  OpenClaim.holds_of_wide 5 Try.f5 rfl rfl rfl rfl rfl rfl rfl ⟨rfl, rfl, rfl, rfl, rfl⟩ rfl rfl rfl rfl rfl (by kernel_rfl) Try.func5 (by kernel_rfl)
    (of_decide_eq_true (by kernel_rfl)) (by unfold Func.isWrapper; first | (rw [if_pos (by decide +kernel)]; kernel_rfl) | (rw [if_neg (by decide +kernel)]; exact ⟨rfl, rfl⟩))
    (fun os started H enc _ => lifted_HeapBack os started H enc)
end Go.Proofs.Ytmgpghblnipbmaa.HeapBack
