/-
  HeapTuples: which tuples may be, their bytes, and which tuple any bytes are; for every rows of them. No condition.
-/
import Derived.Test.YtmgpghblnipbmaaHp8
import Derived.Test.YtmgpghblnipbmaaHpO
import Derived.Test.YtmgpghblnipbmaaHpD
import Derived.Test.YtmgpghblnipbmaaPgG
import Derived.Deep.RegionHeld
import Derived.Deep.Cut
import Derived.Deep.CutRange
import Derived.Deep.CutBlock
import Derived.WalkLawsBesides
namespace Go.Proofs.Ytmgpghblnipbmaa.HeapTuples
set_option maxRecDepth 100000
open Go.RowKit Go.ChangeShapes Go.WideShapes Go.ChangeAt Go.Proofs.Ytmgpghblnipbmaa.Pg Go.Proofs.Ytmgpghblnipbmaa.Rec Go.Proofs.Ytmgpghblnipbmaa.Wd Go.Proofs.Ytmgpghblnipbmaa.Wi Go.Proofs.Ytmgpghblnipbmaa.Ky Go.Proofs.Ytmgpghblnipbmaa.Oct Go.Proofs.Ytmgpghblnipbmaa.Lift Go.Proofs.Ytmgpghblnipbmaa.Hp

theorem own : ownKnob Try.prog.godebug = none := by kernel_rfl
theorem laidOut : laidOutB Try.prog = true := by kernel_rfl
theorem bytes1 : Try.prog.bytesOf 5 = 1 := by kernel_rfl

/-- bytes that came in, in a row of rows -/
structure BX where
  A : Option Addr
  n : Nat
  c : Nat
  l : List UInt8
def BX.cells (b : BX) : List Value := [.slice b.A b.n b.c]
structure BOk (W : World) (b : BX) : Prop where
  sl : Sl W W.heap.size b.A b.n b.c b.l
  most : b.c ≤ 140737488351232
section
variable {H : Type} {enc : TypeId × Value → H} {W : World}
theorem open_rows {v : Value} {d : DataW H} {ps : List MemPlace} {base : Nat} (hval : Value.okWide Try.prog W .any base 23 v) (h : DataW.Trod enc Try.prog W 0 (fun _ => true) true 23 v d ps) (hw : (d.weights Try.prog 23).all (· ≤ reachBytes) = true) :
    ∃ A n c os, v = .slice A n c ∧ os.length = n ∧ n ≤ c ∧ (A = none → c = 0) ∧ c ≤ maxLen ∧ Lift.Many BX.cells 1 W W.heap.size A os ∧ ∀ o ∈ os, BOk W o :=
  Lift.open_many BX.cells (BOk W) 1 (by omega) (fun _ => rfl) Try.underlying23 Pg.cells_bs (fun h1 h2 => by
    obtain ⟨A, n, c, l, e, hs, hc⟩ := Pg.open_bs h1 h2
    exact ⟨⟨A, n, c, l⟩, e, ⟨hs, hc⟩⟩) hval h hw
end
theorem at20 {k : Nat} (h : ¬ k = 20) : ¬ (k : Int) = 20 := by omega

set_option maxHeartbeats 8000000 in
theorem walk (ts : List Tu) (A : Option Addr) (n c : Nat) (ls : List BX) (A2 : Option Addr) (n2 c2 : Nat) (w : World) (hn : ts.length = n) (hT : Lift.Many tcs 8 w w.heap.size A ts) (hok : ∀ t ∈ ts, TuOk t)
    (hn2 : ls.length = n2) (hL : Lift.Many BX.cells 1 w w.heap.size A2 ls) (hLo : ∀ x ∈ ls, BOk w x) :
    Calls Try.prog 3 #[.slice A n c, .slice A2 n2 c2] w fun e w' => e = .returned (.bool true) ∧ Below w.heap.size w w' := by
  have mixed : Try.prog.follows .mixedOrders = true := by kernel_rfl
  obtain ⟨i0, hi0, hz0, hz1, hz2⟩ := info_parts info5
  have HW := Lib.hid wakes_any
  have HN := Lib.hid hn
  have HT := Lib.hid hT
  have HOK := Lib.hid hok
  have HN2 := Lib.hid hn2
  have HL := Lib.hid hL
  have HLO := Lib.hid hLo
  clear hn hT hok hn2 hL hLo
  go_enter Try.func3, Try.ntmps3
  go_wp2_with fail
  refine (HW.out _).mono ?_
  rintro e w1 ⟨rfl, hb⟩
  have HI0 := Lib.hid hb
  clear hb HW
  go_upto_block 0 with fail
  go_cut [17] from 5 to 62 (fun t wx => t = .bool true ∧ Below w.heap.size w wx)
  case first =>
    go_wp2_with fail
    go_loopw [21] (fun i wr => ∃ k : Nat, k ≤ n ∧ k ≤ 20 ∧ i = .int .i64 (k : Int) ∧ Hid (Below w.heap.size w wr)) (fun i _ => n - (intOf i).toNat)
    case atStart => exact ⟨0, by omega, by omega, rfl, HI0⟩
    case round =>
      obtain ⟨k, hk, hk20, rfl, HI⟩ := hrel
      clear HI0
      by_cases hlt : k < n
      case neg =>
        have h1 : ¬ (k : Int) < (n : Int) := by omega
        go_wp2_with fail
        go_meet
        exact ⟨rfl, HI.out⟩
      have h1 : (k : Int) < (n : Int) := by omega
      obtain ⟨x, hx⟩ : ∃ x, ts[k]? = some x := ⟨_, List.getElem?_eq_getElem (by rw [HN.out]; exact hlt)⟩
      obtain ⟨b_, o_, rfl, hblt, hc⟩ := HT.out (by rw [HN.out]; omega)
      have hxo := HOK.out x (List.mem_of_getElem? hx)
      obtain ⟨r, a, b, x0, x1, y0, y1, v⟩ := x
      have hc := fun j u hj => (HI.out.cell (p := ⟨b_, o_ + k * 8 + j, none⟩) hblt).trans (hc k _ hx j u hj)
      have c0 : wr.cell? ⟨b_, o_ + k * 8, none⟩ = some (.int .u32 r) := hc 0 _ rfl
      have c1 : wr.cell? ⟨b_, o_ + k * 8 + 1, none⟩ = some (.int .u64 a) := hc 1 _ rfl
      have c2 : wr.cell? ⟨b_, o_ + k * 8 + 2, none⟩ = some (.int .u64 b) := hc 2 _ rfl
      have c3 : wr.cell? ⟨b_, o_ + k * 8 + 3, none⟩ = some (.int .i64 x0) := hc 3 _ rfl
      have c4 : wr.cell? ⟨b_, o_ + k * 8 + 4, none⟩ = some (.int .i64 x1) := hc 4 _ rfl
      have c5 : wr.cell? ⟨b_, o_ + k * 8 + 5, none⟩ = some (.int .i64 y0) := hc 5 _ rfl
      have c6 : wr.cell? ⟨b_, o_ + k * 8 + 6, none⟩ = some (.int .i64 y1) := hc 6 _ rfl
      have c7 : wr.cell? ⟨b_, o_ + k * 8 + 7, none⟩ = some (.int .i64 v) := hc 7 _ rfl
      clear hc hx
      by_cases h20 : k = 20
      · have h20i : ((k : Int) == 20) = true := by rw [h20]; rfl
        have HB0 : Hid (Below w.heap.size w (wr.alloc (.cells #[.int .u32 r, .int .u64 a, .int .u64 b, .int .i64 x0, .int .i64 x1, .int .i64 y0, .int .i64 y1, .int .i64 v] 30))) := Lib.hid (HI.out.alloc HI.out.size _)
        clear h20
        go_wp2_with fail
        go_meet
        exact ⟨rfl, HB0.out⟩
      have h20i := at20 h20
      have hk19 : k ≤ 19 := by omega
      have hr := hxo.r
      dsimp only at hr
      have HC := Lib.hid (fun W => Check_any r a b x0 x1 y0 y1 v W)
      have HR := Lib.hid (fun W => Right_ref r a b x0 x1 y0 y1 v W)
      clear h20
      rcases hk2 : okT r a b x0 x1 y0 y1 with _ | _
      · have HE := Lib.hid (fun w => Encode_no r a b x0 x1 y0 y1 v w hk2)
        rw [hk2] at HC HR
        clear hk2 hxo hr
        rw [if_neg (by decide)] at HC
        go_upto_region 6 with fail
        clear c0 c1 c2 c3 c4 c5 c6 c7
        have RT_n1 := Lib.hid (row_last wr (wr.heap.size) 30 [.int .u32 r, .int .u64 a, .int .u64 b, .int .i64 x0, .int .i64 x1, .int .i64 y0, .int .i64 y1, .int .i64 v] (by simp))
        have B_n1 := Lib.hid (HI.out.alloc HI.out.size (.cells #[.int .u32 r, .int .u64 a, .int .u64 b, .int .i64 x0, .int .i64 x1, .int .i64 y0, .int .i64 y1, .int .i64 v] 30))
        clear HI
        generalize (wr.alloc (.cells #[.int .u32 r, .int .u64 a, .int .u64 b, .int .i64 x0, .int .i64 x1, .int .i64 y0, .int .i64 y1, .int .i64 v] 30)) = Vn1 at RT_n1 B_n1 ⊢
        have cn2_0 := RT_n1.out.cell 0
        have cn2_1 := RT_n1.out.cell 1
        have cn2_2 := RT_n1.out.cell 2
        have cn2_3 := RT_n1.out.cell 3
        have cn2_4 := RT_n1.out.cell 4
        have cn2_5 := RT_n1.out.cell 5
        have cn2_6 := RT_n1.out.cell 6
        have cn2_7 := RT_n1.out.cell 7
        simp only [List.getElem?_cons_zero, List.getElem?_cons_succ] at cn2_0 cn2_1 cn2_2 cn2_3 cn2_4 cn2_5 cn2_6 cn2_7
        go_wp2_with fail
        clear cn2_0 cn2_1 cn2_2 cn2_3 cn2_4 cn2_5 cn2_6 cn2_7
        refine (HE.out _).mono ?_
        rintro e W1 ⟨rfl, hb⟩
        have RT_n3 := Lib.hid (RT_n1.out.below hb RT_n1.out.lt)
        have B_n3 := Lib.hid (B_n1.out.trans (hb.mono B_n1.out.size))
        clear hb RT_n1 B_n1
        have cn5_0 := RT_n3.out.cell 0
        have cn5_1 := RT_n3.out.cell 1
        have cn5_2 := RT_n3.out.cell 2
        have cn5_3 := RT_n3.out.cell 3
        have cn5_4 := RT_n3.out.cell 4
        have cn5_5 := RT_n3.out.cell 5
        have cn5_6 := RT_n3.out.cell 6
        have cn5_7 := RT_n3.out.cell 7
        simp only [List.getElem?_cons_zero, List.getElem?_cons_succ] at cn5_0 cn5_1 cn5_2 cn5_3 cn5_4 cn5_5 cn5_6 cn5_7
        go_wp2_with fail
        refine (HC.out _).mono ?_
        rintro e Wn4 ⟨rfl, hb⟩
        clear cn5_0 cn5_1 cn5_2 cn5_3 cn5_4 cn5_5 cn5_6 cn5_7
        have RT_n6 := Lib.hid (RT_n3.out.below hb RT_n3.out.lt)
        have B_n6 := Lib.hid (B_n3.out.trans (hb.mono B_n3.out.size))
        clear hb RT_n3 B_n3
        have cn8_0 := RT_n6.out.cell 0
        have cn8_1 := RT_n6.out.cell 1
        have cn8_2 := RT_n6.out.cell 2
        have cn8_3 := RT_n6.out.cell 3
        have cn8_4 := RT_n6.out.cell 4
        have cn8_5 := RT_n6.out.cell 5
        have cn8_6 := RT_n6.out.cell 6
        have cn8_7 := RT_n6.out.cell 7
        simp only [List.getElem?_cons_zero, List.getElem?_cons_succ] at cn8_0 cn8_1 cn8_2 cn8_3 cn8_4 cn8_5 cn8_6 cn8_7
        go_wp2_with fail
        refine (HR.out _).mono ?_
        rintro e Wn7 ⟨rfl, hb⟩
        clear cn8_0 cn8_1 cn8_2 cn8_3 cn8_4 cn8_5 cn8_6 cn8_7
        have RT_n9 := Lib.hid (RT_n6.out.below hb RT_n6.out.lt)
        have B_n9 := Lib.hid (B_n6.out.trans (hb.mono B_n6.out.size))
        clear hb RT_n6 B_n6
        go_wp2
        go_roundw
        case rel => exact ⟨k + 1, by omega, by omega, by go_num, B_n9⟩
        case measure => simp [intOf]; omega
      · have HE := Lib.hid (fun w => Encode_ok r a b x0 x1 y0 y1 v w hk2 hr)
        have HB := Lib.hid (fun w => rbytes_t r a b x0 x1 y0 y1 v w hr)
        rw [hk2] at HC HR
        clear hk2 hxo hr
        rw [if_pos rfl] at HC
        go_upto_region 6 with fail
        clear c0 c1 c2 c3 c4 c5 c6 c7
        have RT_o1 := Lib.hid (row_last wr (wr.heap.size) 30 [.int .u32 r, .int .u64 a, .int .u64 b, .int .i64 x0, .int .i64 x1, .int .i64 y0, .int .i64 y1, .int .i64 v] (by simp))
        have B_o1 := Lib.hid (HI.out.alloc HI.out.size (.cells #[.int .u32 r, .int .u64 a, .int .u64 b, .int .i64 x0, .int .i64 x1, .int .i64 y0, .int .i64 y1, .int .i64 v] 30))
        clear HI
        generalize (wr.alloc (.cells #[.int .u32 r, .int .u64 a, .int .u64 b, .int .i64 x0, .int .i64 x1, .int .i64 y0, .int .i64 y1, .int .i64 v] 30)) = Vo1 at RT_o1 B_o1 ⊢
        have co2_0 := RT_o1.out.cell 0
        have co2_1 := RT_o1.out.cell 1
        have co2_2 := RT_o1.out.cell 2
        have co2_3 := RT_o1.out.cell 3
        have co2_4 := RT_o1.out.cell 4
        have co2_5 := RT_o1.out.cell 5
        have co2_6 := RT_o1.out.cell 6
        have co2_7 := RT_o1.out.cell 7
        simp only [List.getElem?_cons_zero, List.getElem?_cons_succ] at co2_0 co2_1 co2_2 co2_3 co2_4 co2_5 co2_6 co2_7
        go_wp2_with fail
        clear co2_0 co2_1 co2_2 co2_3 co2_4 co2_5 co2_6 co2_7
        refine (HE.out _).mono ?_
        rintro e W1 ⟨A1, c1, rfl, hS, hb⟩
        have RT_o3 := Lib.hid (RT_o1.out.below hb RT_o1.out.lt)
        have B_o3 := Lib.hid (B_o1.out.trans (hb.mono B_o1.out.size))
        clear hb RT_o1 B_o1
        have S_0 := Lib.hid hS
        clear hS
        have co5_0 := RT_o3.out.cell 0
        have co5_1 := RT_o3.out.cell 1
        have co5_2 := RT_o3.out.cell 2
        have co5_3 := RT_o3.out.cell 3
        have co5_4 := RT_o3.out.cell 4
        have co5_5 := RT_o3.out.cell 5
        have co5_6 := RT_o3.out.cell 6
        have co5_7 := RT_o3.out.cell 7
        simp only [List.getElem?_cons_zero, List.getElem?_cons_succ] at co5_0 co5_1 co5_2 co5_3 co5_4 co5_5 co5_6 co5_7
        go_wp2_with fail
        refine (HC.out _).mono ?_
        rintro e Wo4 ⟨rfl, hb⟩
        clear co5_0 co5_1 co5_2 co5_3 co5_4 co5_5 co5_6 co5_7
        have RT_o6 := Lib.hid (RT_o3.out.below hb RT_o3.out.lt)
        have S_o6 := Lib.hid ((S_0.out.below hb).more hb.size)
        have B_o6 := Lib.hid (B_o3.out.trans (hb.mono B_o3.out.size))
        clear hb RT_o3 S_0 B_o3
        have co8_0 := RT_o6.out.cell 0
        have co8_1 := RT_o6.out.cell 1
        have co8_2 := RT_o6.out.cell 2
        have co8_3 := RT_o6.out.cell 3
        have co8_4 := RT_o6.out.cell 4
        have co8_5 := RT_o6.out.cell 5
        have co8_6 := RT_o6.out.cell 6
        have co8_7 := RT_o6.out.cell 7
        simp only [List.getElem?_cons_zero, List.getElem?_cons_succ] at co8_0 co8_1 co8_2 co8_3 co8_4 co8_5 co8_6 co8_7
        go_wp2_with fail
        refine (HR.out _).mono ?_
        rintro e Wo7 ⟨rfl, hb⟩
        clear co8_0 co8_1 co8_2 co8_3 co8_4 co8_5 co8_6 co8_7
        have RT_o9 := Lib.hid (RT_o6.out.below hb RT_o6.out.lt)
        have S_o9 := Lib.hid ((S_o6.out.below hb).more hb.size)
        have B_o9 := Lib.hid (B_o6.out.trans (hb.mono B_o6.out.size))
        clear hb RT_o6 S_o6 B_o6
        have co10_0 := RT_o9.out.cell 0
        have co10_1 := RT_o9.out.cell 1
        have co10_2 := RT_o9.out.cell 2
        have co10_3 := RT_o9.out.cell 3
        have co10_4 := RT_o9.out.cell 4
        have co10_5 := RT_o9.out.cell 5
        have co10_6 := RT_o9.out.cell 6
        have co10_7 := RT_o9.out.cell 7
        simp only [List.getElem?_cons_zero, List.getElem?_cons_succ] at co10_0 co10_1 co10_2 co10_3 co10_4 co10_5 co10_6 co10_7
        go_wp2_with fail
        clear co10_0 co10_1 co10_2 co10_3 co10_4 co10_5 co10_6 co10_7
        refine (HB.out _).mono ?_
        rintro e W5 ⟨v5, rfl, ho, hb⟩
        obtain ⟨A5, n5, c5, rfl, hs5⟩ := ho.sl
        clear ho
        have RT_o11 := Lib.hid (RT_o9.out.below hb RT_o9.out.lt)
        have S_o11 := Lib.hid ((S_o9.out.below hb).more hb.size)
        have B_o11 := Lib.hid (B_o9.out.trans (hb.mono B_o9.out.size))
        clear hb RT_o9 S_o9 B_o9
        have HEQ := bytesEq_any A1 A5 52 c1 n5 c5 _ _ _ _ W5 S_o11.out.len hs5.len S_o11.out.bs hs5.bs
        rw [decide_eq_true rfl] at HEQ
        have HEQ := Lib.hid HEQ
        clear hs5
        go_wp2_with fail
        refine HEQ.out.mono ?_
        rintro e W6 ⟨rfl, rfl⟩
        go_wp2
        go_roundw
        case rel => exact ⟨k + 1, by omega, by omega, by go_num, B_o11⟩
        case measure => simp [intOf]; omega
  case rest =>
    rename World => wc
    obtain ⟨rfl, hbc⟩ := hcut
    have HI0 := Lib.hid hbc
    clear hbc
    go_wp2_with fail
    go_loopw [65] (fun i wr => ∃ k : Nat, k ≤ n2 ∧ k ≤ 20 ∧ i = .int .i64 (k : Int) ∧ Hid (Below w.heap.size w wr)) (fun i _ => n2 - (intOf i).toNat)
    case atStart => exact ⟨0, by omega, by omega, rfl, HI0⟩
    case round =>
      obtain ⟨k, hk, hk20, rfl, HI⟩ := hrel
      clear HI0
      by_cases hlt : k < n2
      case neg =>
        have h1 : ¬ (k : Int) < (n2 : Int) := by omega
        go_wp2
        go_ret
        exact ⟨rfl, HI.out⟩
      have h1 : (k : Int) < (n2 : Int) := by omega
      obtain ⟨x, hx⟩ : ∃ x, ls[k]? = some x := ⟨_, List.getElem?_eq_getElem (by rw [HN2.out]; exact hlt)⟩
      obtain ⟨b_, o_, rfl, hblt, hc⟩ := HL.out (by rw [HN2.out]; omega)
      have hxo := HLO.out x (List.mem_of_getElem? hx)
      obtain ⟨Ax, nx, cx, lx⟩ := x
      have c0 : wr.cell? ⟨b_, o_ + k, none⟩ = some (.slice Ax nx cx) := (HI.out.cell (p := ⟨b_, o_ + k, none⟩) hblt).trans (by have := hc k _ hx 0 _ rfl; rwa [Nat.mul_one, Nat.add_zero] at this)
      clear hc hx
      by_cases h20 : k = 20
      · have h20i : ((k : Int) == 20) = true := by rw [h20]; rfl
        clear h20
        go_wp2
        go_ret
        exact ⟨rfl, HI.out⟩
      have h20i := at20 h20
      have hk19 : k ≤ 19 := by omega
      have hcap := hxo.sl.cap
      have hmost := hxo.most
      dsimp only at hcap hmost
      obtain ⟨m, hm⟩ : ∃ m, m = min 60 nx := ⟨_, rfl⟩
      have HM60 : Hid (m ≤ 60) := Lib.hid (by omega)
      have hmin : (if (60 : Int) < (nx : Int) then (60 : Int) else (nx : Int)) = (m : Int) := by split <;> omega
      have hmc : m ≤ cx := by omega
      have hmcap : (m : Int) ≤ (cx : Int) := by omega
      have HX := Lib.hid ((Pg.Sl.pre hxo.sl 60 m hm).below HI.out)
      clear h20 hm hcap hmost
      dsimp only at HX
      go_upto_region 20 with (first
        | (at_builtin; (refine wpList_append_bs (o := ⟨some 78, _, _, _, _, _⟩) rfl (.tmp 72) (.tmp 77) 31 rfl wr.heap.size 5 i0 (.int .u8 0) Try.underlying31 hi0 hz0 hz1 hz2 rfl (.slice (some ⟨wr.heap.size, 0, none⟩) 0 0) 0 (bv []) rfl (Own.of_row (l := []) (Row.new wr _ _) (Nat.le_refl _) rfl (Nat.zero_le _)) Ax m cx (lx.take 60) rfl HX.out.len w.heap.size (HX.out.bs.alloc HI.out.size _) HX.out.nil (by have := HM60.out; omega) (by simp) ?_; intro v3 w3 hown3 hg3)))
      have HO3 : Hid (Pg.Own w3 wr.heap.size v3 (lx.take 60)) := Lib.hid (show Pg.Own _ _ _ _ from (by unfold Pg.Own; rw [HX.out.len]; simpa [bv] using hown3))
      have hb3 : Below wr.heap.size wr w3 := ((Below.refl _ _).alloc (Nat.le_refl _) _).grown hg3 (by simp) (fun k hk => by cases hk; exact Nat.le_refl _)
      have B3 := Lib.hid (HI.out.trans (hb3.mono HI.out.size))
      have HX3 := Lib.hid ((HX.out.more HI.out.size).below hb3 |>.more hb3.size)
      obtain ⟨A3, n3, c3, rfl, hs3⟩ := HO3.out.sl
      have e3 : m = n3 := by rw [← hs3.len, HX.out.len]
      subst e3
      have HS3 := Lib.hid hs3
      clear hown3 hg3 hb3 HX HI HO3 hs3 c0
      go_wp2_with fail
      rcases hd : decM (lx.take 60) with _ | ⟨r, a, b, x0, x1, y0, y1, v⟩
      · have HD := Lib.hid hd
        clear hd
        refine (Decode_none A3 _ m c3 _ HD.out HS3.out.len (by have := HM60.out; omega) HS3.out.nil HS3.out.bs).mono ?_
        rintro e W1 ⟨rfl, hb⟩
        have P_z1 := Lib.hid ((HS3.out.below hb).more hb.size)
        have X_z1 := Lib.hid ((HX3.out.below hb).more hb.size)
        have B_z1 := Lib.hid (B3.out.trans (hb.mono B3.out.size))
        clear hb HS3 HX3 B3
        go_upto_region 21 with fail
        have P_z2 := Lib.hid ((P_z1.out.below ((Below.refl W1.heap.size W1).alloc (Nat.le_refl _) (.cells #[.int .u32 0, .int .u64 0, .int .u64 0, .int .i64 0, .int .i64 0, .int .i64 0, .int .i64 0, .int .i64 0] 30))).more ((Below.refl W1.heap.size W1).alloc (Nat.le_refl _) (.cells #[.int .u32 0, .int .u64 0, .int .u64 0, .int .i64 0, .int .i64 0, .int .i64 0, .int .i64 0, .int .i64 0] 30)).size)
        have X_z2 := Lib.hid ((X_z1.out.below ((Below.refl W1.heap.size W1).alloc (Nat.le_refl _) (.cells #[.int .u32 0, .int .u64 0, .int .u64 0, .int .i64 0, .int .i64 0, .int .i64 0, .int .i64 0, .int .i64 0] 30))).more ((Below.refl W1.heap.size W1).alloc (Nat.le_refl _) (.cells #[.int .u32 0, .int .u64 0, .int .u64 0, .int .i64 0, .int .i64 0, .int .i64 0, .int .i64 0, .int .i64 0] 30)).size)
        have RA_z2 := Lib.hid (row_last W1 (W1.heap.size) 30 [.int .u32 0, .int .u64 0, .int .u64 0, .int .i64 0, .int .i64 0, .int .i64 0, .int .i64 0, .int .i64 0] (by simp))
        have B_z2 := Lib.hid (B_z1.out.alloc B_z1.out.size (.cells #[.int .u32 0, .int .u64 0, .int .u64 0, .int .i64 0, .int .i64 0, .int .i64 0, .int .i64 0, .int .i64 0] 30))
        clear P_z1 X_z1 B_z1
        generalize (W1.alloc (.cells #[.int .u32 0, .int .u64 0, .int .u64 0, .int .i64 0, .int .i64 0, .int .i64 0, .int .i64 0, .int .i64 0] 30)) = Vz2 at RA_z2 P_z2 X_z2 B_z2 ⊢
        go_wp2_with fail
        refine (rdec_none A3 _ m c3 _ HD.out P_z2.out).mono ?_
        rintro e W2 ⟨rfl, hb⟩
        have RA_z3 := Lib.hid (RA_z2.out.below hb RA_z2.out.lt)
        have P_z3 := Lib.hid ((P_z2.out.below hb).more hb.size)
        have X_z3 := Lib.hid ((X_z2.out.below hb).more hb.size)
        have B_z3 := Lib.hid (B_z2.out.trans (hb.mono B_z2.out.size))
        clear hb RA_z2 P_z2 X_z2 B_z2
        go_upto_region 22 with fail
        have hltz4_0 : W1.heap.size < W2.heap.size := RA_z3.out.lt
        have RA_z4 := Lib.hid (RA_z3.out.alloc (.cells #[.int .u32 0, .int .u64 0, .int .u64 0, .int .i64 0, .int .i64 0, .int .i64 0, .int .i64 0, .int .i64 0] 30))
        have P_z4 := Lib.hid ((P_z3.out.below ((Below.refl W2.heap.size W2).alloc (Nat.le_refl _) (.cells #[.int .u32 0, .int .u64 0, .int .u64 0, .int .i64 0, .int .i64 0, .int .i64 0, .int .i64 0, .int .i64 0] 30))).more ((Below.refl W2.heap.size W2).alloc (Nat.le_refl _) (.cells #[.int .u32 0, .int .u64 0, .int .u64 0, .int .i64 0, .int .i64 0, .int .i64 0, .int .i64 0, .int .i64 0] 30)).size)
        have X_z4 := Lib.hid ((X_z3.out.below ((Below.refl W2.heap.size W2).alloc (Nat.le_refl _) (.cells #[.int .u32 0, .int .u64 0, .int .u64 0, .int .i64 0, .int .i64 0, .int .i64 0, .int .i64 0, .int .i64 0] 30))).more ((Below.refl W2.heap.size W2).alloc (Nat.le_refl _) (.cells #[.int .u32 0, .int .u64 0, .int .u64 0, .int .i64 0, .int .i64 0, .int .i64 0, .int .i64 0, .int .i64 0] 30)).size)
        have RB_z4 := Lib.hid (row_last W2 (W2.heap.size) 30 [.int .u32 0, .int .u64 0, .int .u64 0, .int .i64 0, .int .i64 0, .int .i64 0, .int .i64 0, .int .i64 0] (by simp))
        have B_z4 := Lib.hid (B_z3.out.alloc B_z3.out.size (.cells #[.int .u32 0, .int .u64 0, .int .u64 0, .int .i64 0, .int .i64 0, .int .i64 0, .int .i64 0, .int .i64 0] 30))
        clear RA_z3 P_z3 X_z3 B_z3
        generalize (W2.alloc (.cells #[.int .u32 0, .int .u64 0, .int .u64 0, .int .i64 0, .int .i64 0, .int .i64 0, .int .i64 0, .int .i64 0] 30)) = Vz4 at RA_z4 RB_z4 P_z4 X_z4 B_z4 ⊢
        have HEQ := bytesEq_any A3 Ax m c3 m cx _ _ _ _ Vz4 P_z4.out.len X_z4.out.len P_z4.out.bs X_z4.out.bs
        rw [decide_eq_true rfl] at HEQ
        have HEQ := Lib.hid HEQ
        have cz5_0 := RA_z4.out.cell 0
        have cz5_1 := RA_z4.out.cell 1
        have cz5_2 := RA_z4.out.cell 2
        have cz5_3 := RA_z4.out.cell 3
        have cz5_4 := RA_z4.out.cell 4
        have cz5_5 := RA_z4.out.cell 5
        have cz5_6 := RA_z4.out.cell 6
        have cz5_7 := RA_z4.out.cell 7
        simp only [List.getElem?_cons_zero, List.getElem?_cons_succ] at cz5_0 cz5_1 cz5_2 cz5_3 cz5_4 cz5_5 cz5_6 cz5_7
        have cz6_0 := RB_z4.out.cell 0
        have cz6_1 := RB_z4.out.cell 1
        have cz6_2 := RB_z4.out.cell 2
        have cz6_3 := RB_z4.out.cell 3
        have cz6_4 := RB_z4.out.cell 4
        have cz6_5 := RB_z4.out.cell 5
        have cz6_6 := RB_z4.out.cell 6
        have cz6_7 := RB_z4.out.cell 7
        simp only [List.getElem?_cons_zero, List.getElem?_cons_succ] at cz6_0 cz6_1 cz6_2 cz6_3 cz6_4 cz6_5 cz6_6 cz6_7
        go_wp2_with fail
        clear cz5_0 cz5_1 cz5_2 cz5_3 cz5_4 cz5_5 cz5_6 cz5_7 cz6_0 cz6_1 cz6_2 cz6_3 cz6_4 cz6_5 cz6_6 cz6_7
        refine HEQ.out.mono ?_
        rintro e W6 ⟨rfl, rfl⟩
        go_wp2_with fail
        go_roundw
        case rel => exact ⟨k + 1, by omega, by omega, by go_num, B_z4⟩
        case measure => simp [intOf]; omega
      · have HD := Lib.hid hd
        clear hd
        refine (Decode_some A3 _ m c3 r a b x0 x1 y0 y1 v _ HD.out HS3.out.len HS3.out.nil HS3.out.bs).mono ?_
        rintro e W1 ⟨rfl, hb⟩
        have P_s1 := Lib.hid ((HS3.out.below hb).more hb.size)
        have X_s1 := Lib.hid ((HX3.out.below hb).more hb.size)
        have B_s1 := Lib.hid (B3.out.trans (hb.mono B3.out.size))
        clear hb HS3 HX3 B3
        go_upto_region 21 with fail
        have P_s2 := Lib.hid ((P_s1.out.below ((Below.refl W1.heap.size W1).alloc (Nat.le_refl _) (.cells #[.int .u32 r, .int .u64 a, .int .u64 b, .int .i64 x0, .int .i64 x1, .int .i64 y0, .int .i64 y1, .int .i64 v] 30))).more ((Below.refl W1.heap.size W1).alloc (Nat.le_refl _) (.cells #[.int .u32 r, .int .u64 a, .int .u64 b, .int .i64 x0, .int .i64 x1, .int .i64 y0, .int .i64 y1, .int .i64 v] 30)).size)
        have X_s2 := Lib.hid ((X_s1.out.below ((Below.refl W1.heap.size W1).alloc (Nat.le_refl _) (.cells #[.int .u32 r, .int .u64 a, .int .u64 b, .int .i64 x0, .int .i64 x1, .int .i64 y0, .int .i64 y1, .int .i64 v] 30))).more ((Below.refl W1.heap.size W1).alloc (Nat.le_refl _) (.cells #[.int .u32 r, .int .u64 a, .int .u64 b, .int .i64 x0, .int .i64 x1, .int .i64 y0, .int .i64 y1, .int .i64 v] 30)).size)
        have RA_s2 := Lib.hid (row_last W1 (W1.heap.size) 30 [.int .u32 r, .int .u64 a, .int .u64 b, .int .i64 x0, .int .i64 x1, .int .i64 y0, .int .i64 y1, .int .i64 v] (by simp))
        have B_s2 := Lib.hid (B_s1.out.alloc B_s1.out.size (.cells #[.int .u32 r, .int .u64 a, .int .u64 b, .int .i64 x0, .int .i64 x1, .int .i64 y0, .int .i64 y1, .int .i64 v] 30))
        clear P_s1 X_s1 B_s1
        generalize (W1.alloc (.cells #[.int .u32 r, .int .u64 a, .int .u64 b, .int .i64 x0, .int .i64 x1, .int .i64 y0, .int .i64 y1, .int .i64 v] 30)) = Vs2 at RA_s2 P_s2 X_s2 B_s2 ⊢
        go_wp2_with fail
        refine (rdec_some A3 _ m c3 r a b x0 x1 y0 y1 v _ HD.out P_s2.out).mono ?_
        rintro e W2 ⟨rfl, hb⟩
        have RA_s3 := Lib.hid (RA_s2.out.below hb RA_s2.out.lt)
        have P_s3 := Lib.hid ((P_s2.out.below hb).more hb.size)
        have X_s3 := Lib.hid ((X_s2.out.below hb).more hb.size)
        have B_s3 := Lib.hid (B_s2.out.trans (hb.mono B_s2.out.size))
        clear hb RA_s2 P_s2 X_s2 B_s2
        go_upto_region 22 with fail
        have hlts4_0 : W1.heap.size < W2.heap.size := RA_s3.out.lt
        have RA_s4 := Lib.hid (RA_s3.out.alloc (.cells #[.int .u32 r, .int .u64 a, .int .u64 b, .int .i64 x0, .int .i64 x1, .int .i64 y0, .int .i64 y1, .int .i64 v] 30))
        have P_s4 := Lib.hid ((P_s3.out.below ((Below.refl W2.heap.size W2).alloc (Nat.le_refl _) (.cells #[.int .u32 r, .int .u64 a, .int .u64 b, .int .i64 x0, .int .i64 x1, .int .i64 y0, .int .i64 y1, .int .i64 v] 30))).more ((Below.refl W2.heap.size W2).alloc (Nat.le_refl _) (.cells #[.int .u32 r, .int .u64 a, .int .u64 b, .int .i64 x0, .int .i64 x1, .int .i64 y0, .int .i64 y1, .int .i64 v] 30)).size)
        have X_s4 := Lib.hid ((X_s3.out.below ((Below.refl W2.heap.size W2).alloc (Nat.le_refl _) (.cells #[.int .u32 r, .int .u64 a, .int .u64 b, .int .i64 x0, .int .i64 x1, .int .i64 y0, .int .i64 y1, .int .i64 v] 30))).more ((Below.refl W2.heap.size W2).alloc (Nat.le_refl _) (.cells #[.int .u32 r, .int .u64 a, .int .u64 b, .int .i64 x0, .int .i64 x1, .int .i64 y0, .int .i64 y1, .int .i64 v] 30)).size)
        have RB_s4 := Lib.hid (row_last W2 (W2.heap.size) 30 [.int .u32 r, .int .u64 a, .int .u64 b, .int .i64 x0, .int .i64 x1, .int .i64 y0, .int .i64 y1, .int .i64 v] (by simp))
        have B_s4 := Lib.hid (B_s3.out.alloc B_s3.out.size (.cells #[.int .u32 r, .int .u64 a, .int .u64 b, .int .i64 x0, .int .i64 x1, .int .i64 y0, .int .i64 y1, .int .i64 v] 30))
        clear RA_s3 P_s3 X_s3 B_s3
        generalize (W2.alloc (.cells #[.int .u32 r, .int .u64 a, .int .u64 b, .int .i64 x0, .int .i64 x1, .int .i64 y0, .int .i64 y1, .int .i64 v] 30)) = Vs4 at RA_s4 RB_s4 P_s4 X_s4 B_s4 ⊢
        have HEQ := bytesEq_any A3 Ax m c3 m cx _ _ _ _ Vs4 P_s4.out.len X_s4.out.len P_s4.out.bs X_s4.out.bs
        rw [decide_eq_true rfl] at HEQ
        have HEQ := Lib.hid HEQ
        have cs5_0 := RA_s4.out.cell 0
        have cs5_1 := RA_s4.out.cell 1
        have cs5_2 := RA_s4.out.cell 2
        have cs5_3 := RA_s4.out.cell 3
        have cs5_4 := RA_s4.out.cell 4
        have cs5_5 := RA_s4.out.cell 5
        have cs5_6 := RA_s4.out.cell 6
        have cs5_7 := RA_s4.out.cell 7
        simp only [List.getElem?_cons_zero, List.getElem?_cons_succ] at cs5_0 cs5_1 cs5_2 cs5_3 cs5_4 cs5_5 cs5_6 cs5_7
        have cs6_0 := RB_s4.out.cell 0
        have cs6_1 := RB_s4.out.cell 1
        have cs6_2 := RB_s4.out.cell 2
        have cs6_3 := RB_s4.out.cell 3
        have cs6_4 := RB_s4.out.cell 4
        have cs6_5 := RB_s4.out.cell 5
        have cs6_6 := RB_s4.out.cell 6
        have cs6_7 := RB_s4.out.cell 7
        simp only [List.getElem?_cons_zero, List.getElem?_cons_succ] at cs6_0 cs6_1 cs6_2 cs6_3 cs6_4 cs6_5 cs6_6 cs6_7
        go_wp2_with fail
        clear cs5_0 cs5_1 cs5_2 cs5_3 cs5_4 cs5_5 cs5_6 cs5_7 cs6_0 cs6_1 cs6_2 cs6_3 cs6_4 cs6_5 cs6_6 cs6_7
        refine HEQ.out.mono ?_
        rintro e W6 ⟨rfl, rfl⟩
        go_wp2_with fail
        go_roundw
        case rel => exact ⟨k + 1, by omega, by omega, by go_num, B_s4⟩
        case measure => simp [intOf]; omega

theorem resT_HeapTuples : Try.f3.resultTypes = #[4] := by kernel_rfl
set_option maxRecDepth 100000 in
theorem lifted_HeapTuples (os : Os) (started : os.Started) (H : Type) (enc : TypeId × Value → H) :
    ReturnsInHanded {} Try.checked os 3 .any (Rows.heapTuplesSpec.pre6 enc Try.prog Try.f3 Rows.heapTuplesRow.domain false) (Rows.heapTuplesSpec.post enc Try.prog Try.f3 false true false false) := by
  refine Lift.law_lift (C := Try.checked) (s := Rows.heapTuplesSpec) (tb := 4) own laidOut started (by kernel_rfl) Try.func3
    (ChangeSpec.witness6 (enc := enc) (C := Try.checked) false ⟨#[], #[.slice none 0 0, .slice none 0 0], []⟩ 8 (by kernel_rfl) (by kernel_rfl) (by kernel_rfl) (by kernel_rfl))
    rfl resT_HeapTuples Try.underlying4 (by
      have hr : ∀ t ∈ ([22, 23] : List TypeId), Try.prog.readableRec t = true ∧ t < Try.prog.types.size := by
        intro t ht
        simp only [List.mem_cons, List.not_mem_nil, or_false] at ht
        rcases ht with rfl | rfl <;> exact ⟨by kernel_rfl, of_decide_eq_true (by kernel_rfl)⟩
      intro t ht
      exact hr t (by
        have ht' : t ∈ Try.f3.params.toList := ht
        rw [Try.params3] at ht'
        exact ht')) ?_
  intro W base args ds p hval0 hA0 hsz0
  have hval : ∀ (j : Nat) t v, Try.f3.params[j]? = some t → args[j]? = some v → Value.okWide Try.prog W .any base t v := hval0
  have hA : DataW.TrodAll enc Try.prog W 0 (fun _ => true) true Try.f3.params.toList args.toList ds p := hA0
  have hsz : (DataW.weightsEach Try.prog Try.f3.params.toList ds).all (· ≤ reachBytes) = true := hsz0
  clear hval0 hA0 hsz0
  rw [Try.params3] at hA hval hsz
  obtain ⟨v0, vs0, d0, ds0, p0, q0, hargs, rfl, rfl, h0, r0⟩ := trodAll_cons hA
  obtain ⟨v1, vs1, d1, ds1, p1, q1, rfl, rfl, rfl, h1, r1⟩ := trodAll_cons r0
  obtain ⟨rfl, rfl, rfl⟩ := trodAll_nil r1
  obtain rfl : args = #[v0, v1] := by cases args; simp_all
  obtain ⟨A0, n0, c0, os0, rfl, hl0, -, -, -, hm0, ho0⟩ := open_tuples (hval 0 22 v0 rfl rfl) h0 (by rw [List.all_eq_true] at hsz ⊢; exact fun z hz => hsz z (DataW.weights_mem_each (P := Try.prog) (j := 0) rfl rfl z hz))
  obtain ⟨A1, n1, c1, os1, rfl, hl1, -, -, -, hm1, ho1⟩ := open_rows (hval 1 23 v1 rfl rfl) h1 (by rw [List.all_eq_true] at hsz ⊢; exact fun z hz => hsz z (DataW.weights_mem_each (P := Try.prog) (j := 1) rfl rfl z hz))
  exact ⟨rfl, walk os0 A0 n0 c0 os1 A1 n1 c1 W hl0 hm0 ho0 hl1 hm1 ho1⟩

theorem proved_HeapTuples : Rows.HeapTuplesSaid :=
  OpenClaim.holds_of_wide 3 Try.f3 rfl rfl rfl rfl rfl rfl rfl ⟨rfl, rfl, rfl, rfl, rfl⟩ rfl rfl rfl rfl rfl (by kernel_rfl) Try.func3 (by kernel_rfl)
    (of_decide_eq_true (by kernel_rfl)) (by unfold Func.isWrapper; first | (rw [if_pos (by decide +kernel)]; kernel_rfl) | (rw [if_neg (by decide +kernel)]; exact ⟨rfl, rfl⟩))
    (fun os started H enc _ => lifted_HeapTuples os started H enc)
end Go.Proofs.Ytmgpghblnipbmaa.HeapTuples
