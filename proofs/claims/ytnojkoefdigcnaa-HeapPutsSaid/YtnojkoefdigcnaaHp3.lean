/-
  Heap: Decode, what the law calls first.
-/
import Derived.Test.YtnojkoefdigcnaaHp2
import Derived.Test.YtnojkoefdigcnaaRecW
import Derived.LoopTactic
import Derived.Deep.RegionHeld
import Derived.Deep.Cut
import Derived.WalkLawsBesides
namespace Go.Proofs.Ytnojkoefdigcnaa.Hp
set_option maxRecDepth 100000
open Go.RowKit Go.Proofs.Ytnojkoefdigcnaa.Wd Go.Proofs.Ytnojkoefdigcnaa.Wi Go.Proofs.Ytnojkoefdigcnaa.Ky Go.Proofs.Ytnojkoefdigcnaa.Oct Go.Proofs.Ytnojkoefdigcnaa.Rec Go.Proofs.Ytnojkoefdigcnaa.Lift

structure Tu where
  r : Nat
  a : Nat
  b : Nat
  x0 : Int
  x1 : Int
  y0 : Int
  y1 : Int
  v : Int
/-- the tuple of bytes, if there is one -/
def decM (l : List UInt8) : Option Tu :=
  if l.length = 52 ∧ okT (fld l 0 4) (fld l 4 4) (fld l 8 4) (sg (fld l 12 8)) (sg (fld l 20 8)) (sg (fld l 28 8)) (sg (fld l 36 8)) = true
  then some ⟨fld l 0 4, fld l 4 4, fld l 8 4, sg (fld l 12 8), sg (fld l 20 8), sg (fld l 28 8), sg (fld l 36 8), sg (fld l 44 8)⟩ else none
theorem decM_some {l : List UInt8} {r a b : Nat} {x0 x1 y0 y1 v : Int} : decM l = some ⟨r, a, b, x0, x1, y0, y1, v⟩ ↔ l.length = 52 ∧ okT r a b x0 x1 y0 y1 = true ∧ TOf l r a b x0 x1 y0 y1 v := by
  unfold decM
  constructor
  · intro h
    split at h
    · rename_i hc
      simp only [Option.some.injEq, Tu.mk.injEq] at h
      obtain ⟨rfl, rfl, rfl, rfl, rfl, rfl, rfl, rfl⟩ := h
      exact ⟨hc.1, hc.2, ⟨rfl, rfl, rfl, rfl, rfl, rfl, rfl, rfl⟩⟩
    · cases h
  · rintro ⟨h1, h2, ⟨rfl, rfl, rfl, rfl, rfl, rfl, rfl, rfl⟩⟩
    rw [if_pos ⟨h1, h2⟩]
theorem decM_none {l : List UInt8} (h : decM l = none) : l.length ≠ 52 ∨ ∃ r a b x0 x1 y0 y1 v, l.length = 52 ∧ okT r a b x0 x1 y0 y1 = false ∧ TOf l r a b x0 x1 y0 y1 v := by
  by_cases h1 : l.length = 52
  · right
    obtain ⟨r, a, b, x0, x1, y0, y1, v, ht⟩ := tof l
    refine ⟨_, _, _, _, _, _, _, _, h1, ?_, ht⟩
    cases ho : okT r a b x0 x1 y0 y1
    · rfl
    · rw [decM_some.2 ⟨h1, ho, ht⟩] at h
      cases h
  · exact .inl h1

set_option maxHeartbeats 4000000 in
theorem Decode_short (A : Option Addr) (l : List UInt8) (n c : Nat) (h52 : n ≠ 52) (w : World) (_hl : l.length = n) (_hn : n ≤ 140737488355328) (_hA : A = none → c = 0) (_hB : Bs w w.heap.size A l) :
    Calls Try.prog 14 #[.slice A n c] w fun e w' => e = .returned (.tuple #[TV 0 0 0 0 0 0 0 0, .int .i64 200]) ∧ Below w.heap.size w w' := by
  clear _hn _hA _hB _hl
  have h1 : ¬ (n : Int) = 52 := by omega
  go_enter Try.func14, Try.ntmps14
  go_upto_region 1 with fail
  have RZ_s1 := Lib.hid (row_last w (w.heap.size) 30 [.int .u32 0, .int .u64 0, .int .u64 0, .int .i64 0, .int .i64 0, .int .i64 0, .int .i64 0, .int .i64 0] (by simp))
  have B_s1 := Lib.hid ((Below.refl w.heap.size w).alloc (Nat.le_refl _) (.cells #[.int .u32 0, .int .u64 0, .int .u64 0, .int .i64 0, .int .i64 0, .int .i64 0, .int .i64 0, .int .i64 0] 30))
  generalize (w.alloc (.cells #[.int .u32 0, .int .u64 0, .int .u64 0, .int .i64 0, .int .i64 0, .int .i64 0, .int .i64 0, .int .i64 0] 30)) = Vs1 at RZ_s1 B_s1 ⊢
  have cs2_0 := RZ_s1.out.cell 0
  have cs2_1 := RZ_s1.out.cell 1
  have cs2_2 := RZ_s1.out.cell 2
  have cs2_3 := RZ_s1.out.cell 3
  have cs2_4 := RZ_s1.out.cell 4
  have cs2_5 := RZ_s1.out.cell 5
  have cs2_6 := RZ_s1.out.cell 6
  have cs2_7 := RZ_s1.out.cell 7
  simp only [List.getElem?_cons_zero, List.getElem?_cons_succ] at cs2_0 cs2_1 cs2_2 cs2_3 cs2_4 cs2_5 cs2_6 cs2_7
  have fs2_0 := RZ_s1.out.frozen 0
  have fs2_1 := RZ_s1.out.frozen 1
  have fs2_2 := RZ_s1.out.frozen 2
  have fs2_3 := RZ_s1.out.frozen 3
  have fs2_4 := RZ_s1.out.frozen 4
  have fs2_5 := RZ_s1.out.frozen 5
  have fs2_6 := RZ_s1.out.frozen 6
  have fs2_7 := RZ_s1.out.frozen 7
  go_wp2_with fail
  exact bodyPost_ret (v := .tuple #[TV 0 0 0 0 0 0 0 0, .int .i64 200]) (by simp [results, Try.results14, go_sem, *]) rfl ⟨rfl, ((((((((B_s1.out.setCell (p := ⟨w.heap.size, 0, none⟩) (Nat.le_refl _) (.int .u32 0)).setCell (p := ⟨w.heap.size, 1, none⟩) (Nat.le_refl _) (.int .u64 0)).setCell (p := ⟨w.heap.size, 2, none⟩) (Nat.le_refl _) (.int .u64 0)).setCell (p := ⟨w.heap.size, 3, none⟩) (Nat.le_refl _) (.int .i64 0)).setCell (p := ⟨w.heap.size, 4, none⟩) (Nat.le_refl _) (.int .i64 0)).setCell (p := ⟨w.heap.size, 5, none⟩) (Nat.le_refl _) (.int .i64 0)).setCell (p := ⟨w.heap.size, 6, none⟩) (Nat.le_refl _) (.int .i64 0)).setCell (p := ⟨w.heap.size, 7, none⟩) (Nat.le_refl _) (.int .i64 0))⟩

set_option maxHeartbeats 4000000 in
theorem Decode_good (A : Option Addr) (l : List UInt8) (c : Nat) (r a b : Nat) (x0 x1 y0 y1 v : Int) (hk : okT r a b x0 x1 y0 y1 = true) (ht : TOf l r a b x0 x1 y0 y1 v) (w : World) (hl : l.length = 52) (hA : A = none → c = 0) (hB : Bs w w.heap.size A l) :
    Calls Try.prog 14 #[.slice A 52 c] w fun e w' => e = .returned (.tuple #[TV r a b x0 x1 y0 y1 v, .int .i64 0]) ∧ Below w.heap.size w w' := by
  have HL := Lib.hid hl
  have HA := Lib.hid hA
  have PB0 := Lib.hid hB
  have HT := Lib.hid ht
  have HC := Lib.hid (Check_any r a b x0 x1 y0 y1 v)
  rw [hk, if_pos rfl] at HC
  clear hl hA hB ht hk
  go_enter Try.func14, Try.ntmps14
  go_upto_region 1 with fail
  have PB_g1 := Lib.hid (PB0.out.below ((Below.refl w.heap.size w).alloc (Nat.le_refl _) (.cells #[.int .u32 0, .int .u64 0, .int .u64 0, .int .i64 0, .int .i64 0, .int .i64 0, .int .i64 0, .int .i64 0] 30)) |>.more ((Below.refl w.heap.size w).alloc (Nat.le_refl _) (.cells #[.int .u32 0, .int .u64 0, .int .u64 0, .int .i64 0, .int .i64 0, .int .i64 0, .int .i64 0, .int .i64 0] 30)).size)
  have RZ_g1 := Lib.hid (row_last w (w.heap.size) 30 [.int .u32 0, .int .u64 0, .int .u64 0, .int .i64 0, .int .i64 0, .int .i64 0, .int .i64 0, .int .i64 0] (by simp))
  have B_g1 := Lib.hid ((Below.refl w.heap.size w).alloc (Nat.le_refl _) (.cells #[.int .u32 0, .int .u64 0, .int .u64 0, .int .i64 0, .int .i64 0, .int .i64 0, .int .i64 0, .int .i64 0] 30))
  clear PB0
  generalize (w.alloc (.cells #[.int .u32 0, .int .u64 0, .int .u64 0, .int .i64 0, .int .i64 0, .int .i64 0, .int .i64 0, .int .i64 0] 30)) = Vg1 at RZ_g1 PB_g1 B_g1 ⊢
  have HZ0 := Lib.hid RZ_g1.out.lt
  go_wp2_with fail
  refine (read_any A l 52 c _ HL.out (by omega) _ PB_g1.out HA.out).mono ?_
  rintro e W1 ⟨g, rfl, hge, hr, hb⟩
  have HR := Lib.hid hr
  clear hr
  have RZ_g2 := Lib.hid (RZ_g1.out.below hb RZ_g1.out.lt)
  have PB_g2 := Lib.hid (PB_g1.out.below hb |>.more hb.size)
  have B_g2 := Lib.hid (B_g1.out.trans (hb.mono B_g1.out.size))
  clear hb RZ_g1 PB_g1 B_g1
  have HGE := Lib.hid hge
  clear hge
  go_wp2_with fail
  refine (read_tuple g l r a b x0 x1 y0 y1 v _ HR.out HL.out HT.out).mono ?_
  rintro e W2 ⟨rfl, hg⟩
  have RZ_q := Lib.hid (Row.grown2 RZ_g2.out hg (by have := HGE.out; have := HZ0.out; omega))
  have B_q := Lib.hid (B_g2.out.grown hg B_g2.out.size (fun k hk => by have := HGE.out; have := HZ0.out; cases hk; omega))
  clear hg HR RZ_g2 PB_g2 B_g2
  go_upto_region 4 with fail
  have hltg3_0 : w.heap.size < W2.heap.size := RZ_q.out.lt
  have RZ_g3 := Lib.hid (RZ_q.out.alloc (.cells #[.int .u32 (r : Int), .int .u64 (a : Int), .int .u64 (b : Int), .int .i64 (x0 : Int), .int .i64 (x1 : Int), .int .i64 (y0 : Int), .int .i64 (y1 : Int), .int .i64 (v : Int)] 30))
  have RT_g3 := Lib.hid (row_last W2 (W2.heap.size) 30 [.int .u32 (r : Int), .int .u64 (a : Int), .int .u64 (b : Int), .int .i64 (x0 : Int), .int .i64 (x1 : Int), .int .i64 (y0 : Int), .int .i64 (y1 : Int), .int .i64 (v : Int)] (by simp))
  have B_g3 := Lib.hid (B_q.out.alloc B_q.out.size (.cells #[.int .u32 (r : Int), .int .u64 (a : Int), .int .u64 (b : Int), .int .i64 (x0 : Int), .int .i64 (x1 : Int), .int .i64 (y0 : Int), .int .i64 (y1 : Int), .int .i64 (v : Int)] 30))
  clear RZ_q B_q
  generalize (W2.alloc (.cells #[.int .u32 (r : Int), .int .u64 (a : Int), .int .u64 (b : Int), .int .i64 (x0 : Int), .int .i64 (x1 : Int), .int .i64 (y0 : Int), .int .i64 (y1 : Int), .int .i64 (v : Int)] 30)) = Vg3 at RZ_g3 RT_g3 B_g3 ⊢
  have cg5_0 := RT_g3.out.cell 0
  have cg5_1 := RT_g3.out.cell 1
  have cg5_2 := RT_g3.out.cell 2
  have cg5_3 := RT_g3.out.cell 3
  have cg5_4 := RT_g3.out.cell 4
  have cg5_5 := RT_g3.out.cell 5
  have cg5_6 := RT_g3.out.cell 6
  have cg5_7 := RT_g3.out.cell 7
  simp only [List.getElem?_cons_zero, List.getElem?_cons_succ] at cg5_0 cg5_1 cg5_2 cg5_3 cg5_4 cg5_5 cg5_6 cg5_7
  go_wp2_with fail
  refine (HC.out _).mono ?_
  rintro e Wg4 ⟨rfl, hb⟩
  clear cg5_0 cg5_1 cg5_2 cg5_3 cg5_4 cg5_5 cg5_6 cg5_7
  have RZ_g6 := Lib.hid (RZ_g3.out.below hb RZ_g3.out.lt)
  have RT_g6 := Lib.hid (RT_g3.out.below hb RT_g3.out.lt)
  have B_g6 := Lib.hid (B_g3.out.trans (hb.mono B_g3.out.size))
  clear hb RZ_g3 RT_g3 B_g3
  have cg7_0 := RT_g6.out.cell 0
  have cg7_1 := RT_g6.out.cell 1
  have cg7_2 := RT_g6.out.cell 2
  have cg7_3 := RT_g6.out.cell 3
  have cg7_4 := RT_g6.out.cell 4
  have cg7_5 := RT_g6.out.cell 5
  have cg7_6 := RT_g6.out.cell 6
  have cg7_7 := RT_g6.out.cell 7
  simp only [List.getElem?_cons_zero, List.getElem?_cons_succ] at cg7_0 cg7_1 cg7_2 cg7_3 cg7_4 cg7_5 cg7_6 cg7_7
  have fg7_0 := RT_g6.out.frozen 0
  have fg7_1 := RT_g6.out.frozen 1
  have fg7_2 := RT_g6.out.frozen 2
  have fg7_3 := RT_g6.out.frozen 3
  have fg7_4 := RT_g6.out.frozen 4
  have fg7_5 := RT_g6.out.frozen 5
  have fg7_6 := RT_g6.out.frozen 6
  have fg7_7 := RT_g6.out.frozen 7
  have cg8_0 := RZ_g6.out.cell 0
  have cg8_1 := RZ_g6.out.cell 1
  have cg8_2 := RZ_g6.out.cell 2
  have cg8_3 := RZ_g6.out.cell 3
  have cg8_4 := RZ_g6.out.cell 4
  have cg8_5 := RZ_g6.out.cell 5
  have cg8_6 := RZ_g6.out.cell 6
  have cg8_7 := RZ_g6.out.cell 7
  simp only [List.getElem?_cons_zero, List.getElem?_cons_succ] at cg8_0 cg8_1 cg8_2 cg8_3 cg8_4 cg8_5 cg8_6 cg8_7
  have fg8_0 := RZ_g6.out.frozen 0
  have fg8_1 := RZ_g6.out.frozen 1
  have fg8_2 := RZ_g6.out.frozen 2
  have fg8_3 := RZ_g6.out.frozen 3
  have fg8_4 := RZ_g6.out.frozen 4
  have fg8_5 := RZ_g6.out.frozen 5
  have fg8_6 := RZ_g6.out.frozen 6
  have fg8_7 := RZ_g6.out.frozen 7
  go_wp2_with fail
  exact bodyPost_ret (v := .tuple #[TV r a b x0 x1 y0 y1 v, .int .i64 0]) (by simp [results, Try.results14, go_sem, *]) rfl ⟨rfl, ((((((((B_g6.out.setCell (p := ⟨w.heap.size, 0, none⟩) (Nat.le_refl _) (.int .u32 (r : Int))).setCell (p := ⟨w.heap.size, 1, none⟩) (Nat.le_refl _) (.int .u64 (a : Int))).setCell (p := ⟨w.heap.size, 2, none⟩) (Nat.le_refl _) (.int .u64 (b : Int))).setCell (p := ⟨w.heap.size, 3, none⟩) (Nat.le_refl _) (.int .i64 (x0 : Int))).setCell (p := ⟨w.heap.size, 4, none⟩) (Nat.le_refl _) (.int .i64 (x1 : Int))).setCell (p := ⟨w.heap.size, 5, none⟩) (Nat.le_refl _) (.int .i64 (y0 : Int))).setCell (p := ⟨w.heap.size, 6, none⟩) (Nat.le_refl _) (.int .i64 (y1 : Int))).setCell (p := ⟨w.heap.size, 7, none⟩) (Nat.le_refl _) (.int .i64 (v : Int)))⟩

set_option maxHeartbeats 4000000 in
theorem Decode_bad (A : Option Addr) (l : List UInt8) (c : Nat) (r a b : Nat) (x0 x1 y0 y1 v : Int) (hk : okT r a b x0 x1 y0 y1 = false) (ht : TOf l r a b x0 x1 y0 y1 v) (w : World) (hl : l.length = 52) (hA : A = none → c = 0) (hB : Bs w w.heap.size A l) :
    Calls Try.prog 14 #[.slice A 52 c] w fun e w' => e = .returned (.tuple #[TV 0 0 0 0 0 0 0 0, .int .i64 200]) ∧ Below w.heap.size w w' := by
  have HL := Lib.hid hl
  have HA := Lib.hid hA
  have PB0 := Lib.hid hB
  have HT := Lib.hid ht
  have HC := Lib.hid (Check_any r a b x0 x1 y0 y1 v)
  rw [hk, if_neg (by decide)] at HC
  clear hl hA hB ht hk
  go_enter Try.func14, Try.ntmps14
  go_upto_region 1 with fail
  have PB_b1 := Lib.hid (PB0.out.below ((Below.refl w.heap.size w).alloc (Nat.le_refl _) (.cells #[.int .u32 0, .int .u64 0, .int .u64 0, .int .i64 0, .int .i64 0, .int .i64 0, .int .i64 0, .int .i64 0] 30)) |>.more ((Below.refl w.heap.size w).alloc (Nat.le_refl _) (.cells #[.int .u32 0, .int .u64 0, .int .u64 0, .int .i64 0, .int .i64 0, .int .i64 0, .int .i64 0, .int .i64 0] 30)).size)
  have RZ_b1 := Lib.hid (row_last w (w.heap.size) 30 [.int .u32 0, .int .u64 0, .int .u64 0, .int .i64 0, .int .i64 0, .int .i64 0, .int .i64 0, .int .i64 0] (by simp))
  have B_b1 := Lib.hid ((Below.refl w.heap.size w).alloc (Nat.le_refl _) (.cells #[.int .u32 0, .int .u64 0, .int .u64 0, .int .i64 0, .int .i64 0, .int .i64 0, .int .i64 0, .int .i64 0] 30))
  clear PB0
  generalize (w.alloc (.cells #[.int .u32 0, .int .u64 0, .int .u64 0, .int .i64 0, .int .i64 0, .int .i64 0, .int .i64 0, .int .i64 0] 30)) = Vb1 at RZ_b1 PB_b1 B_b1 ⊢
  have HZ0 := Lib.hid RZ_b1.out.lt
  go_wp2_with fail
  refine (read_any A l 52 c _ HL.out (by omega) _ PB_b1.out HA.out).mono ?_
  rintro e W1 ⟨g, rfl, hge, hr, hb⟩
  have HR := Lib.hid hr
  clear hr
  have RZ_b2 := Lib.hid (RZ_b1.out.below hb RZ_b1.out.lt)
  have PB_b2 := Lib.hid (PB_b1.out.below hb |>.more hb.size)
  have B_b2 := Lib.hid (B_b1.out.trans (hb.mono B_b1.out.size))
  clear hb RZ_b1 PB_b1 B_b1
  have HGE := Lib.hid hge
  clear hge
  go_wp2_with fail
  refine (read_tuple g l r a b x0 x1 y0 y1 v _ HR.out HL.out HT.out).mono ?_
  rintro e W2 ⟨rfl, hg⟩
  have RZ_q := Lib.hid (Row.grown2 RZ_b2.out hg (by have := HGE.out; have := HZ0.out; omega))
  have B_q := Lib.hid (B_b2.out.grown hg B_b2.out.size (fun k hk => by have := HGE.out; have := HZ0.out; cases hk; omega))
  clear hg HR RZ_b2 PB_b2 B_b2
  go_upto_region 4 with fail
  have hltb3_0 : w.heap.size < W2.heap.size := RZ_q.out.lt
  have RZ_b3 := Lib.hid (RZ_q.out.alloc (.cells #[.int .u32 (r : Int), .int .u64 (a : Int), .int .u64 (b : Int), .int .i64 (x0 : Int), .int .i64 (x1 : Int), .int .i64 (y0 : Int), .int .i64 (y1 : Int), .int .i64 (v : Int)] 30))
  have RT_b3 := Lib.hid (row_last W2 (W2.heap.size) 30 [.int .u32 (r : Int), .int .u64 (a : Int), .int .u64 (b : Int), .int .i64 (x0 : Int), .int .i64 (x1 : Int), .int .i64 (y0 : Int), .int .i64 (y1 : Int), .int .i64 (v : Int)] (by simp))
  have B_b3 := Lib.hid (B_q.out.alloc B_q.out.size (.cells #[.int .u32 (r : Int), .int .u64 (a : Int), .int .u64 (b : Int), .int .i64 (x0 : Int), .int .i64 (x1 : Int), .int .i64 (y0 : Int), .int .i64 (y1 : Int), .int .i64 (v : Int)] 30))
  clear RZ_q B_q
  generalize (W2.alloc (.cells #[.int .u32 (r : Int), .int .u64 (a : Int), .int .u64 (b : Int), .int .i64 (x0 : Int), .int .i64 (x1 : Int), .int .i64 (y0 : Int), .int .i64 (y1 : Int), .int .i64 (v : Int)] 30)) = Vb3 at RZ_b3 RT_b3 B_b3 ⊢
  have cb5_0 := RT_b3.out.cell 0
  have cb5_1 := RT_b3.out.cell 1
  have cb5_2 := RT_b3.out.cell 2
  have cb5_3 := RT_b3.out.cell 3
  have cb5_4 := RT_b3.out.cell 4
  have cb5_5 := RT_b3.out.cell 5
  have cb5_6 := RT_b3.out.cell 6
  have cb5_7 := RT_b3.out.cell 7
  simp only [List.getElem?_cons_zero, List.getElem?_cons_succ] at cb5_0 cb5_1 cb5_2 cb5_3 cb5_4 cb5_5 cb5_6 cb5_7
  go_wp2_with fail
  refine (HC.out _).mono ?_
  rintro e Wb4 ⟨rfl, hb⟩
  clear cb5_0 cb5_1 cb5_2 cb5_3 cb5_4 cb5_5 cb5_6 cb5_7
  have RZ_b6 := Lib.hid (RZ_b3.out.below hb RZ_b3.out.lt)
  have RT_b6 := Lib.hid (RT_b3.out.below hb RT_b3.out.lt)
  have B_b6 := Lib.hid (B_b3.out.trans (hb.mono B_b3.out.size))
  clear hb RZ_b3 RT_b3 B_b3
  have cb7_0 := RT_b6.out.cell 0
  have cb7_1 := RT_b6.out.cell 1
  have cb7_2 := RT_b6.out.cell 2
  have cb7_3 := RT_b6.out.cell 3
  have cb7_4 := RT_b6.out.cell 4
  have cb7_5 := RT_b6.out.cell 5
  have cb7_6 := RT_b6.out.cell 6
  have cb7_7 := RT_b6.out.cell 7
  simp only [List.getElem?_cons_zero, List.getElem?_cons_succ] at cb7_0 cb7_1 cb7_2 cb7_3 cb7_4 cb7_5 cb7_6 cb7_7
  have fb7_0 := RT_b6.out.frozen 0
  have fb7_1 := RT_b6.out.frozen 1
  have fb7_2 := RT_b6.out.frozen 2
  have fb7_3 := RT_b6.out.frozen 3
  have fb7_4 := RT_b6.out.frozen 4
  have fb7_5 := RT_b6.out.frozen 5
  have fb7_6 := RT_b6.out.frozen 6
  have fb7_7 := RT_b6.out.frozen 7
  have cb8_0 := RZ_b6.out.cell 0
  have cb8_1 := RZ_b6.out.cell 1
  have cb8_2 := RZ_b6.out.cell 2
  have cb8_3 := RZ_b6.out.cell 3
  have cb8_4 := RZ_b6.out.cell 4
  have cb8_5 := RZ_b6.out.cell 5
  have cb8_6 := RZ_b6.out.cell 6
  have cb8_7 := RZ_b6.out.cell 7
  simp only [List.getElem?_cons_zero, List.getElem?_cons_succ] at cb8_0 cb8_1 cb8_2 cb8_3 cb8_4 cb8_5 cb8_6 cb8_7
  have fb8_0 := RZ_b6.out.frozen 0
  have fb8_1 := RZ_b6.out.frozen 1
  have fb8_2 := RZ_b6.out.frozen 2
  have fb8_3 := RZ_b6.out.frozen 3
  have fb8_4 := RZ_b6.out.frozen 4
  have fb8_5 := RZ_b6.out.frozen 5
  have fb8_6 := RZ_b6.out.frozen 6
  have fb8_7 := RZ_b6.out.frozen 7
  go_wp2_with fail
  exact bodyPost_ret (v := .tuple #[TV 0 0 0 0 0 0 0 0, .int .i64 200]) (by simp [results, Try.results14, go_sem, *]) rfl ⟨rfl, ((((((((B_b6.out.setCell (p := ⟨w.heap.size, 0, none⟩) (Nat.le_refl _) (.int .u32 0)).setCell (p := ⟨w.heap.size, 1, none⟩) (Nat.le_refl _) (.int .u64 0)).setCell (p := ⟨w.heap.size, 2, none⟩) (Nat.le_refl _) (.int .u64 0)).setCell (p := ⟨w.heap.size, 3, none⟩) (Nat.le_refl _) (.int .i64 0)).setCell (p := ⟨w.heap.size, 4, none⟩) (Nat.le_refl _) (.int .i64 0)).setCell (p := ⟨w.heap.size, 5, none⟩) (Nat.le_refl _) (.int .i64 0)).setCell (p := ⟨w.heap.size, 6, none⟩) (Nat.le_refl _) (.int .i64 0)).setCell (p := ⟨w.heap.size, 7, none⟩) (Nat.le_refl _) (.int .i64 0))⟩

theorem Decode_some (A : Option Addr) (l : List UInt8) (n c : Nat) (r a b : Nat) (x0 x1 y0 y1 v : Int) (w : World) (h : decM l = some ⟨r, a, b, x0, x1, y0, y1, v⟩) (hl : l.length = n) (hA : A = none → c = 0) (hB : Bs w w.heap.size A l) :
    Calls Try.prog 14 #[.slice A n c] w fun e w' => e = .returned (.tuple #[TV r a b x0 x1 y0 y1 v, .int .i64 0]) ∧ Below w.heap.size w w' := by
  obtain ⟨h1, h2, h3⟩ := decM_some.1 h
  obtain rfl : n = 52 := by omega
  exact Decode_good A l c r a b x0 x1 y0 y1 v h2 h3 w h1 hA hB
theorem Decode_none (A : Option Addr) (l : List UInt8) (n c : Nat) (w : World) (h : decM l = none) (hl : l.length = n) (hn : n ≤ 140737488355328) (hA : A = none → c = 0) (hB : Bs w w.heap.size A l) :
    Calls Try.prog 14 #[.slice A n c] w fun e w' => e = .returned (.tuple #[TV 0 0 0 0 0 0 0 0, .int .i64 200]) ∧ Below w.heap.size w w' := by
  by_cases h52 : n = 52
  · rcases decM_none h with h1 | ⟨r, a, b, x0, x1, y0, y1, v, h1, h2, h3⟩
    · omega
    · subst h52
      exact Decode_bad A l c r a b x0 x1 y0 y1 v h2 h3 w h1 hA hB
  · exact Decode_short A l n c h52 w hl hn hA hB

set_option maxHeartbeats 4000000 in
theorem first_any (w : World) : Calls Try.prog 29 #[] w fun e w' => e = .returned (.agg #[.int .u32 1, .int .u64 2, .int .u64 0, .int .i64 0, .int .i64 1, .int .i64 (-1), .int .i64 0, .int .i64 3]) ∧ Below w.heap.size w w' := by
  go_enter Try.func29, Try.ntmps29
  go_upto_region 1 with fail
  have RZ_i1 := Lib.hid (row_last w (w.heap.size) 30 [.int .u32 0, .int .u64 0, .int .u64 0, .int .i64 0, .int .i64 0, .int .i64 0, .int .i64 0, .int .i64 0] (by simp))
  have B_i1 := Lib.hid ((Below.refl w.heap.size w).alloc (Nat.le_refl _) (.cells #[.int .u32 0, .int .u64 0, .int .u64 0, .int .i64 0, .int .i64 0, .int .i64 0, .int .i64 0, .int .i64 0] 30))
  generalize (w.alloc (.cells #[.int .u32 0, .int .u64 0, .int .u64 0, .int .i64 0, .int .i64 0, .int .i64 0, .int .i64 0, .int .i64 0] 30)) = Vi1 at RZ_i1 B_i1 ⊢
  have ci2_0 := RZ_i1.out.cell 0
  have ci2_1 := RZ_i1.out.cell 1
  have ci2_2 := RZ_i1.out.cell 2
  have ci2_3 := RZ_i1.out.cell 3
  have ci2_4 := RZ_i1.out.cell 4
  have ci2_5 := RZ_i1.out.cell 5
  have ci2_6 := RZ_i1.out.cell 6
  have ci2_7 := RZ_i1.out.cell 7
  simp only [List.getElem?_cons_zero, List.getElem?_cons_succ] at ci2_0 ci2_1 ci2_2 ci2_3 ci2_4 ci2_5 ci2_6 ci2_7
  have fi2_0 := RZ_i1.out.frozen 0
  have fi2_1 := RZ_i1.out.frozen 1
  have fi2_2 := RZ_i1.out.frozen 2
  have fi2_3 := RZ_i1.out.frozen 3
  have fi2_4 := RZ_i1.out.frozen 4
  have fi2_5 := RZ_i1.out.frozen 5
  have fi2_6 := RZ_i1.out.frozen 6
  have fi2_7 := RZ_i1.out.frozen 7
  go_wp2_with fail
  exact bodyPost_ret (v := .agg #[.int .u32 1, .int .u64 2, .int .u64 0, .int .i64 0, .int .i64 1, .int .i64 (-1), .int .i64 0, .int .i64 3]) (by simp [results, Try.results29, go_sem, *]) rfl ⟨rfl, ((((((((B_i1.out.setCell (p := ⟨w.heap.size, 0, none⟩) (Nat.le_refl _) (.int .u32 1)).setCell (p := ⟨w.heap.size, 1, none⟩) (Nat.le_refl _) (.int .u64 2)).setCell (p := ⟨w.heap.size, 2, none⟩) (Nat.le_refl _) (.int .u64 0)).setCell (p := ⟨w.heap.size, 3, none⟩) (Nat.le_refl _) (.int .i64 0)).setCell (p := ⟨w.heap.size, 4, none⟩) (Nat.le_refl _) (.int .i64 1)).setCell (p := ⟨w.heap.size, 5, none⟩) (Nat.le_refl _) (.int .i64 (-1))).setCell (p := ⟨w.heap.size, 6, none⟩) (Nat.le_refl _) (.int .i64 0)).setCell (p := ⟨w.heap.size, 7, none⟩) (Nat.le_refl _) (.int .i64 3))⟩
end Go.Proofs.Ytnojkoefdigcnaa.Hp
