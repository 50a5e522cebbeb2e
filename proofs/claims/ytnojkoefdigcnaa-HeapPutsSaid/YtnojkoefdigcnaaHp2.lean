/-
  Heap: a tuple is read of its bytes.
-/
import Derived.Test.YtnojkoefdigcnaaHp1
import Derived.Test.YtnojkoefdigcnaaRecW
import Derived.LoopTactic
import Derived.Deep.RegionHeld
import Derived.Deep.Cut
import Derived.WalkLawsBesides
namespace Go.Proofs.Ytnojkoefdigcnaa.Hp
set_option maxRecDepth 100000
open Go.RowKit Go.Proofs.Ytnojkoefdigcnaa.Wd Go.Proofs.Ytnojkoefdigcnaa.Wi Go.Proofs.Ytnojkoefdigcnaa.Ky Go.Proofs.Ytnojkoefdigcnaa.Oct Go.Proofs.Ytnojkoefdigcnaa.Rec Go.Proofs.Ytnojkoefdigcnaa.Lift

theorem Row.grown2 {w w' : World} {g a : Nat} {t : TypeId} {cs : List Value} (h : Row w a t cs) (hb : w.grownBy w' (some g)) (hg : a ≠ g) : Row w' a t cs := h.grown hb (fun e => hg (Option.some.inj e))
theorem grown_alloc {w w' : World} {r : Option Nat} (h : w.grownBy w' r) (o : Obj) : w.grownBy (w'.alloc o) r :=
  ⟨h.os, h.tape, h.output, by simp; have := h.size; omega, fun k hk hr => (Below.heap_alloc w' o k (Nat.lt_of_lt_of_le hk h.size)).trans (h.block k hk hr)⟩
theorem grown_refl (w : World) (r : Option Nat) : w.grownBy w r := ⟨rfl, rfl, rfl, Nat.le_refl _, fun _ _ _ => rfl⟩
theorem grown_setCell {w w' : World} {r : Option Nat} (h : w.grownBy w' r) {p : Addr} (hp : w.heap.size ≤ p.block) (v : Value) : w.grownBy (w'.setCell p v) r :=
  ⟨h.os, h.tape, h.output, by simp [h.size], fun k hk hr => (Below.heap_setCell w' p v k (by omega)).trans (h.block k hk hr)⟩
theorem grown_below {w w' w2 : World} {r : Option Nat} (h : w.grownBy w' r) (hb : Below w'.heap.size w' w2) : w.grownBy w2 r :=
  ⟨hb.os.trans h.os, hb.tape.trans h.tape, hb.output.trans h.output, Nat.le_trans h.size hb.size, fun k hk hr => (hb.block k (Nat.lt_of_lt_of_le hk h.size)).trans (h.block k hk hr)⟩
theorem Rdr.set {w : World} {g : Nat} {l : List UInt8} {a : Nat} {e : Int} (h : Rdr w g l a e) {p : Addr} (hp : g < p.block) (v : Value) : Rdr (w.setCell p v) g l a e :=
  h.keep fun k hk => Below.heap_setCell w p v k (by omega)
/-- a number of some bytes -/
def fld (l : List UInt8) (k n : Nat) : Nat := num ((l.drop k).take n)
/-- a number of 64 bits with a sign -/
def sg (n : Nat) : Int := IntKind.i64.wrap (n : Int)
/-- what stands in a tuple's bytes -/
structure TOf (l : List UInt8) (r a b : Nat) (x0 x1 y0 y1 v : Int) : Prop where
  r : fld l 0 4 = r
  a : fld l 4 4 = a
  b : fld l 8 4 = b
  x0 : sg (fld l 12 8) = x0
  x1 : sg (fld l 20 8) = x1
  y0 : sg (fld l 28 8) = y0
  y1 : sg (fld l 36 8) = y1
  v : sg (fld l 44 8) = v
theorem tof (l : List UInt8) : ∃ r a b x0 x1 y0 y1 v, TOf l r a b x0 x1 y0 y1 v := ⟨_, _, _, _, _, _, _, _, rfl, rfl, rfl, rfl, rfl, rfl, rfl, rfl⟩
theorem fld_lt (l : List UInt8) (k n : Nat) : fld l k n < 256 ^ n := by
  unfold fld
  exact Nat.lt_of_lt_of_le (num_lt _) (Nat.pow_le_pow_right (by omega) (by rw [List.length_take]; omega))
theorem step_fld (l : List UInt8) (k n : Nat) (h : k + n ≤ l.length) : Oct.step l k 0 (n : Int) = ((l.drop k).take n, k + n, 0) := by
  unfold Oct.step
  rw [if_neg (by simp), if_neg (by omega), if_neg (by omega)]
  simp
theorem u32_at (g : Nat) (l : List UInt8) (k x : Nat) (w : World) (hR : Rdr w g l k 0) (h : k + 4 ≤ l.length) (hx : fld l k 4 = x) :
    Calls Try.prog 53 #[.pointer (some ⟨g, 0, none⟩)] w fun e w' => e = .returned (.int .u32 (x : Int)) ∧ Rdr w' g l (k + 4) 0 ∧ w.grownBy w' (some g) := by
  have H := u32_any g l k 0 w hR
  rw [show (4 : Int) = ((4 : Nat) : Int) from rfl, step_fld l k 4 h] at H
  subst hx
  exact H
theorem u64_at (g : Nat) (l : List UInt8) (k x : Nat) (w : World) (hR : Rdr w g l k 0) (h : k + 8 ≤ l.length) (hx : fld l k 8 = x) :
    Calls Try.prog 54 #[.pointer (some ⟨g, 0, none⟩)] w fun e w' => e = .returned (.int .u64 (x : Int)) ∧ Rdr w' g l (k + 8) 0 ∧ w.grownBy w' (some g) := by
  have H := u64_any g l k 0 w hR
  unfold Numbered at H
  rw [show (8 : Int) = ((8 : Nat) : Int) from rfl, step_fld l k 8 h] at H
  subst hx
  exact H

set_option maxHeartbeats 4000000 in
theorem read_tuple (g : Nat) (l : List UInt8) (r a b : Nat) (x0 x1 y0 y1 v : Int) (w : World) (hR : Rdr w g l 0 0) (hl : l.length = 52) (ht : TOf l r a b x0 x1 y0 y1 v) :
    Calls Try.prog 37 #[.pointer (some ⟨g, 0, none⟩)] w fun e w' => e = .returned (TV r a b x0 x1 y0 y1 v) ∧ w.grownBy w' (some g) := by
  have HL := Lib.hid hl
  have HT := Lib.hid ht
  have HGW := Lib.hid hR.lt
  have RD0 := Lib.hid hR
  have G0 := Lib.hid (grown_refl w (some g))
  obtain ⟨zx0, hzx0⟩ : ∃ z, Hid (fld l 12 8 = z) := ⟨_, Lib.hid rfl⟩
  have wx0 : IntKind.i64.wrap (zx0 : Int) = x0 := by rw [← hzx0.out]; exact ht.x0
  obtain ⟨zx1, hzx1⟩ : ∃ z, Hid (fld l 20 8 = z) := ⟨_, Lib.hid rfl⟩
  have wx1 : IntKind.i64.wrap (zx1 : Int) = x1 := by rw [← hzx1.out]; exact ht.x1
  obtain ⟨zy0, hzy0⟩ : ∃ z, Hid (fld l 28 8 = z) := ⟨_, Lib.hid rfl⟩
  have wy0 : IntKind.i64.wrap (zy0 : Int) = y0 := by rw [← hzy0.out]; exact ht.y0
  obtain ⟨zy1, hzy1⟩ : ∃ z, Hid (fld l 36 8 = z) := ⟨_, Lib.hid rfl⟩
  have wy1 : IntKind.i64.wrap (zy1 : Int) = y1 := by rw [← hzy1.out]; exact ht.y1
  obtain ⟨zv, hzv⟩ : ∃ z, Hid (fld l 44 8 = z) := ⟨_, Lib.hid rfl⟩
  have wv : IntKind.i64.wrap (zv : Int) = v := by rw [← hzv.out]; exact ht.v
  have ua : IntKind.u64.wrap (a : Int) = a := u64_wrap (by omega) (by have := fld_lt l 4 4; rw [ht.a] at this; omega)
  have ub : IntKind.u64.wrap (b : Int) = b := u64_wrap (by omega) (by have := fld_lt l 8 4; rw [ht.b] at this; omega)
  clear hR hl ht
  go_enter Try.func37, Try.ntmps37
  go_upto_region 1 with fail
  have G_r1 := Lib.hid (grown_below G0.out ((Below.refl w.heap.size w).alloc (Nat.le_refl _) (.cells #[.int .u32 0, .int .u64 0, .int .u64 0, .int .i64 0, .int .i64 0, .int .i64 0, .int .i64 0, .int .i64 0] 30)))
  have RD_r1 := Lib.hid (RD0.out.below ((Below.refl w.heap.size w).alloc (Nat.le_refl _) (.cells #[.int .u32 0, .int .u64 0, .int .u64 0, .int .i64 0, .int .i64 0, .int .i64 0, .int .i64 0, .int .i64 0] 30)) RD0.out.lt)
  have RZ_r1 := Lib.hid (row_last w (w.heap.size) 30 [.int .u32 0, .int .u64 0, .int .u64 0, .int .i64 0, .int .i64 0, .int .i64 0, .int .i64 0, .int .i64 0] (by simp))
  clear G0 RD0
  generalize (w.alloc (.cells #[.int .u32 0, .int .u64 0, .int .u64 0, .int .i64 0, .int .i64 0, .int .i64 0, .int .i64 0, .int .i64 0] 30)) = Vr1 at RZ_r1 G_r1 RD_r1 ⊢
  go_wp2_with fail
  refine (u32_at g l 0 r _ RD_r1.out (by rw [HL.out]; omega) HT.out.r).mono ?_
  rintro e W1 ⟨rfl, hr, hg⟩
  have hszr2 := G_r1.out.size
  have HGWr2 := HGW.out
  have RZ_r2 := Lib.hid (Row.grown2 RZ_r1.out hg (by omega))
  have G_r2 := Lib.hid (grown_trans G_r1.out hg)
  have RD_r2 := Lib.hid hr
  clear hr hg hszr2 HGWr2 RZ_r1 G_r1 RD_r1
  go_upto_region 2 with fail
  have hltr3_0 : w.heap.size < W1.heap.size := RZ_r2.out.lt
  have RZ_r3 := Lib.hid (RZ_r2.out.alloc (.cells #[.int .u32 (r : Int), .int .u64 0, .int .u64 0, .int .i64 0, .int .i64 0, .int .i64 0, .int .i64 0, .int .i64 0] 30))
  have G_r3 := Lib.hid (grown_below G_r2.out ((Below.refl W1.heap.size W1).alloc (Nat.le_refl _) (.cells #[.int .u32 (r : Int), .int .u64 0, .int .u64 0, .int .i64 0, .int .i64 0, .int .i64 0, .int .i64 0, .int .i64 0] 30)))
  have RD_r3 := Lib.hid (RD_r2.out.below ((Below.refl W1.heap.size W1).alloc (Nat.le_refl _) (.cells #[.int .u32 (r : Int), .int .u64 0, .int .u64 0, .int .i64 0, .int .i64 0, .int .i64 0, .int .i64 0, .int .i64 0] 30)) RD_r2.out.lt)
  have RT_r3 := Lib.hid (row_last W1 (W1.heap.size) 30 [.int .u32 (r : Int), .int .u64 0, .int .u64 0, .int .i64 0, .int .i64 0, .int .i64 0, .int .i64 0, .int .i64 0] (by simp))
  clear RZ_r2 G_r2 RD_r2
  generalize (W1.alloc (.cells #[.int .u32 (r : Int), .int .u64 0, .int .u64 0, .int .i64 0, .int .i64 0, .int .i64 0, .int .i64 0, .int .i64 0] 30)) = Vr3 at RZ_r3 RT_r3 G_r3 RD_r3 ⊢
  go_wp2_with fail
  have hltr4_0 : w.heap.size < Vr3.heap.size := RZ_r3.out.lt
  have hltr4_1 : W1.heap.size < Vr3.heap.size := RT_r3.out.lt
  have RZ_r4 := Lib.hid (RZ_r3.out.alloc (.cells #[.pointer (some ⟨W1.heap.size, 1, none⟩), .pointer (some ⟨W1.heap.size, 2, none⟩)] 107))
  have RT_r4 := Lib.hid (RT_r3.out.alloc (.cells #[.pointer (some ⟨W1.heap.size, 1, none⟩), .pointer (some ⟨W1.heap.size, 2, none⟩)] 107))
  have G_r4 := Lib.hid (grown_below G_r3.out ((Below.refl Vr3.heap.size Vr3).alloc (Nat.le_refl _) (.cells #[.pointer (some ⟨W1.heap.size, 1, none⟩), .pointer (some ⟨W1.heap.size, 2, none⟩)] 107)))
  have RD_r4 := Lib.hid (RD_r3.out.below ((Below.refl Vr3.heap.size Vr3).alloc (Nat.le_refl _) (.cells #[.pointer (some ⟨W1.heap.size, 1, none⟩), .pointer (some ⟨W1.heap.size, 2, none⟩)] 107)) RD_r3.out.lt)
  have RP_r4 := Lib.hid (row_last Vr3 (Vr3.heap.size) 107 [.pointer (some ⟨W1.heap.size, 1, none⟩), .pointer (some ⟨W1.heap.size, 2, none⟩)] (by simp))
  clear RZ_r3 RT_r3 G_r3 RD_r3
  generalize (Vr3.alloc (.cells #[.pointer (some ⟨W1.heap.size, 1, none⟩), .pointer (some ⟨W1.heap.size, 2, none⟩)] 107)) = Vr4 at RZ_r4 RT_r4 RP_r4 G_r4 RD_r4 ⊢
  go_loopw [5, 15] (fun t i wr => ∃ (j : Nat) (pv : Value), j ≤ 2 ∧ i = .int .i64 (j : Int) ∧ t = pv ∧ Hid (Row wr (W1.heap.size) 30 ((fun (j : Nat) => [.int .u32 (r : Int), .int .u64 (if 0 < j then (a : Int) else 0), .int .u64 (if 1 < j then (b : Int) else 0), .int .i64 0, .int .i64 0, .int .i64 0, .int .i64 0, .int .i64 0]) j)) ∧ Hid (Row wr (w.heap.size) 30 [.int .u32 0, .int .u64 0, .int .u64 0, .int .i64 0, .int .i64 0, .int .i64 0, .int .i64 0, .int .i64 0]) ∧ Hid (Row wr (Vr3.heap.size) 107 [.pointer (some ⟨W1.heap.size, 1, none⟩), .pointer (some ⟨W1.heap.size, 2, none⟩)]) ∧ Hid (Rdr wr g l (4 + 4 * j) 0) ∧ Hid (w.grownBy wr (some g)) ∧ (Vr3.heap.size) < wr.heap.size) (fun _ i _ => 2 - (intOf i).toNat)
  case atStart => exact ⟨0, _, by omega, rfl, rfl, RT_r4, RZ_r4, RP_r4, RD_r4, G_r4, RP_r4.out.lt⟩
  case round =>
    obtain ⟨j, pv, hj, rfl, rfl, HT_, HZ_, HP_, HRD, HG, hsz⟩ := hrel
    clear RT_r4 RZ_r4 RP_r4 RD_r4 G_r4
    have hjj : j = 0 ∨ j = 1 ∨ j = 2 := by omega
    clear hj
    rcases hjj with rfl | rfl | rfl
    · try rw [show ((0 : Nat) : Int) = 0 from rfl]
      replace HT_ : Hid (Row wr (W1.heap.size) 30 [.int .u32 (r : Int), .int .u64 0, .int .u64 0, .int .i64 0, .int .i64 0, .int .i64 0, .int .i64 0, .int .i64 0]) := HT_
      replace HRD : Hid (Rdr wr g l 4 0) := HRD
      have cq101_0 := HP_.out.cell 0
      have cq101_1 := HP_.out.cell 1
      simp only [List.getElem?_cons_zero, List.getElem?_cons_succ] at cq101_0 cq101_1
      go_wp2_with fail
      clear cq101_0 cq101_1
      refine (u32_at g l 4 a _ HRD.out (by rw [HL.out]; omega) HT.out.a).mono ?_
      rintro e Wm ⟨rfl, hr, hg⟩
      have hszq102 := HG.out.size
      have HGWq102 := HGW.out
      have RT_q102 := Lib.hid (Row.grown2 HT_.out hg (by omega))
      have RZ_q102 := Lib.hid (Row.grown2 HZ_.out hg (by omega))
      have RP_q102 := Lib.hid (Row.grown2 HP_.out hg (by omega))
      have G_q102 := Lib.hid (grown_trans HG.out hg)
      have RD_q102 := Lib.hid hr
      clear hr hg hszq102 HGWq102 HT_ HZ_ HP_ HG HRD
      have cq103_0 := RT_q102.out.cell 0
      have cq103_1 := RT_q102.out.cell 1
      have cq103_2 := RT_q102.out.cell 2
      have cq103_3 := RT_q102.out.cell 3
      have cq103_4 := RT_q102.out.cell 4
      have cq103_5 := RT_q102.out.cell 5
      have cq103_6 := RT_q102.out.cell 6
      have cq103_7 := RT_q102.out.cell 7
      simp only [List.getElem?_cons_zero, List.getElem?_cons_succ] at cq103_0 cq103_1 cq103_2 cq103_3 cq103_4 cq103_5 cq103_6 cq103_7
      have fq103_0 := RT_q102.out.frozen 0
      have fq103_1 := RT_q102.out.frozen 1
      have fq103_2 := RT_q102.out.frozen 2
      have fq103_3 := RT_q102.out.frozen 3
      have fq103_4 := RT_q102.out.frozen 4
      have fq103_5 := RT_q102.out.frozen 5
      have fq103_6 := RT_q102.out.frozen 6
      have fq103_7 := RT_q102.out.frozen 7
      go_upto_region 6 with fail
      clear cq103_0 cq103_1 cq103_2 cq103_3 cq103_4 cq103_5 cq103_6 cq103_7 fq103_0 fq103_1 fq103_2 fq103_3 fq103_4 fq103_5 fq103_6 fq103_7
      have hszq104 := G_q102.out.size
      have HGWq104 := HGW.out
      have RT_q104 : Hid (Row (Wm.setCell ⟨W1.heap.size, 1, none⟩ (.int .u64 (a : Int))) (W1.heap.size) 30 [.int .u32 (r : Int), .int .u64 (a : Int), .int .u64 0, .int .i64 0, .int .i64 0, .int .i64 0, .int .i64 0, .int .i64 0]) := Lib.hid (RT_q102.out.store 1 (.int .u64 (a : Int)))
      have RZ_q104 := Lib.hid (RZ_q102.out.far (p := ⟨W1.heap.size, 1, none⟩) (by dsimp only; omega) (.int .u64 (a : Int)))
      have RP_q104 := Lib.hid (RP_q102.out.far (p := ⟨W1.heap.size, 1, none⟩) (by dsimp only; omega) (.int .u64 (a : Int)))
      have G_q104 := Lib.hid (grown_setCell G_q102.out (p := ⟨W1.heap.size, 1, none⟩) (by dsimp only; omega) (.int .u64 (a : Int)))
      have RD_q104 := Lib.hid (Rdr.set RD_q102.out (p := ⟨W1.heap.size, 1, none⟩) (by dsimp only; omega) (.int .u64 (a : Int)))
      clear hszq104 HGWq104 RT_q102 RZ_q102 RP_q102 G_q102 RD_q102
      generalize (Wm.setCell ⟨W1.heap.size, 1, none⟩ (.int .u64 (a : Int))) = Vq104 at RT_q104 RZ_q104 RP_q104 G_q104 RD_q104 ⊢
      go_wp2_with fail
      go_roundw
      case rel => exact ⟨1, _, by omega, by go_num, rfl, RT_q104, RZ_q104, RP_q104, RD_q104, G_q104, RP_q104.out.lt⟩
      case measure => simp [intOf]
    · try rw [show ((1 : Nat) : Int) = 1 from rfl]
      replace HT_ : Hid (Row wr (W1.heap.size) 30 [.int .u32 (r : Int), .int .u64 a, .int .u64 0, .int .i64 0, .int .i64 0, .int .i64 0, .int .i64 0, .int .i64 0]) := HT_
      replace HRD : Hid (Rdr wr g l 8 0) := HRD
      have cq111_0 := HP_.out.cell 0
      have cq111_1 := HP_.out.cell 1
      simp only [List.getElem?_cons_zero, List.getElem?_cons_succ] at cq111_0 cq111_1
      go_wp2_with fail
      clear cq111_0 cq111_1
      refine (u32_at g l 8 b _ HRD.out (by rw [HL.out]; omega) HT.out.b).mono ?_
      rintro e Wm ⟨rfl, hr, hg⟩
      have hszq112 := HG.out.size
      have HGWq112 := HGW.out
      have RT_q112 := Lib.hid (Row.grown2 HT_.out hg (by omega))
      have RZ_q112 := Lib.hid (Row.grown2 HZ_.out hg (by omega))
      have RP_q112 := Lib.hid (Row.grown2 HP_.out hg (by omega))
      have G_q112 := Lib.hid (grown_trans HG.out hg)
      have RD_q112 := Lib.hid hr
      clear hr hg hszq112 HGWq112 HT_ HZ_ HP_ HG HRD
      have cq113_0 := RT_q112.out.cell 0
      have cq113_1 := RT_q112.out.cell 1
      have cq113_2 := RT_q112.out.cell 2
      have cq113_3 := RT_q112.out.cell 3
      have cq113_4 := RT_q112.out.cell 4
      have cq113_5 := RT_q112.out.cell 5
      have cq113_6 := RT_q112.out.cell 6
      have cq113_7 := RT_q112.out.cell 7
      simp only [List.getElem?_cons_zero, List.getElem?_cons_succ] at cq113_0 cq113_1 cq113_2 cq113_3 cq113_4 cq113_5 cq113_6 cq113_7
      have fq113_0 := RT_q112.out.frozen 0
      have fq113_1 := RT_q112.out.frozen 1
      have fq113_2 := RT_q112.out.frozen 2
      have fq113_3 := RT_q112.out.frozen 3
      have fq113_4 := RT_q112.out.frozen 4
      have fq113_5 := RT_q112.out.frozen 5
      have fq113_6 := RT_q112.out.frozen 6
      have fq113_7 := RT_q112.out.frozen 7
      go_upto_region 6 with fail
      clear cq113_0 cq113_1 cq113_2 cq113_3 cq113_4 cq113_5 cq113_6 cq113_7 fq113_0 fq113_1 fq113_2 fq113_3 fq113_4 fq113_5 fq113_6 fq113_7
      have hszq114 := G_q112.out.size
      have HGWq114 := HGW.out
      have RT_q114 : Hid (Row (Wm.setCell ⟨W1.heap.size, 2, none⟩ (.int .u64 (b : Int))) (W1.heap.size) 30 [.int .u32 (r : Int), .int .u64 a, .int .u64 (b : Int), .int .i64 0, .int .i64 0, .int .i64 0, .int .i64 0, .int .i64 0]) := Lib.hid (RT_q112.out.store 2 (.int .u64 (b : Int)))
      have RZ_q114 := Lib.hid (RZ_q112.out.far (p := ⟨W1.heap.size, 2, none⟩) (by dsimp only; omega) (.int .u64 (b : Int)))
      have RP_q114 := Lib.hid (RP_q112.out.far (p := ⟨W1.heap.size, 2, none⟩) (by dsimp only; omega) (.int .u64 (b : Int)))
      have G_q114 := Lib.hid (grown_setCell G_q112.out (p := ⟨W1.heap.size, 2, none⟩) (by dsimp only; omega) (.int .u64 (b : Int)))
      have RD_q114 := Lib.hid (Rdr.set RD_q112.out (p := ⟨W1.heap.size, 2, none⟩) (by dsimp only; omega) (.int .u64 (b : Int)))
      clear hszq114 HGWq114 RT_q112 RZ_q112 RP_q112 G_q112 RD_q112
      generalize (Wm.setCell ⟨W1.heap.size, 2, none⟩ (.int .u64 (b : Int))) = Vq114 at RT_q114 RZ_q114 RP_q114 G_q114 RD_q114 ⊢
      go_wp2_with fail
      go_roundw
      case rel => exact ⟨2, _, by omega, by go_num, rfl, RT_q114, RZ_q114, RP_q114, RD_q114, G_q114, RP_q114.out.lt⟩
      case measure => simp [intOf]
    · try rw [show ((2 : Nat) : Int) = 2 from rfl]
      replace HT_ : Hid (Row wr (W1.heap.size) 30 [.int .u32 (r : Int), .int .u64 a, .int .u64 b, .int .i64 0, .int .i64 0, .int .i64 0, .int .i64 0, .int .i64 0]) := HT_
      replace HRD : Hid (Rdr wr g l 12 0) := HRD
      clear HP_
      obtain ⟨wq, hwq⟩ : ∃ x, x = wr := ⟨_, rfl⟩
      subst hwq
      have HTq := HT_
      have HZq := HZ_
      have HRDq := HRD
      have HGq := HG
      clear HT_ HZ_ HRD HG hsz
      go_wp2_with fail
      have hltL15_0 : W1.heap.size < wq.heap.size := HTq.out.lt
      have hltL15_1 : w.heap.size < wq.heap.size := HZq.out.lt
      have RT_L15 := Lib.hid (HTq.out.alloc (.cells #[.pointer (some ⟨W1.heap.size, 3, none⟩), .pointer (some ⟨W1.heap.size, 4, none⟩), .pointer (some ⟨W1.heap.size, 5, none⟩), .pointer (some ⟨W1.heap.size, 6, none⟩), .pointer (some ⟨W1.heap.size, 7, none⟩)] 109))
      have RZ_L15 := Lib.hid (HZq.out.alloc (.cells #[.pointer (some ⟨W1.heap.size, 3, none⟩), .pointer (some ⟨W1.heap.size, 4, none⟩), .pointer (some ⟨W1.heap.size, 5, none⟩), .pointer (some ⟨W1.heap.size, 6, none⟩), .pointer (some ⟨W1.heap.size, 7, none⟩)] 109))
      have G_L15 := Lib.hid (grown_below HGq.out ((Below.refl wq.heap.size wq).alloc (Nat.le_refl _) (.cells #[.pointer (some ⟨W1.heap.size, 3, none⟩), .pointer (some ⟨W1.heap.size, 4, none⟩), .pointer (some ⟨W1.heap.size, 5, none⟩), .pointer (some ⟨W1.heap.size, 6, none⟩), .pointer (some ⟨W1.heap.size, 7, none⟩)] 109)))
      have RD_L15 := Lib.hid (HRDq.out.below ((Below.refl wq.heap.size wq).alloc (Nat.le_refl _) (.cells #[.pointer (some ⟨W1.heap.size, 3, none⟩), .pointer (some ⟨W1.heap.size, 4, none⟩), .pointer (some ⟨W1.heap.size, 5, none⟩), .pointer (some ⟨W1.heap.size, 6, none⟩), .pointer (some ⟨W1.heap.size, 7, none⟩)] 109)) HRDq.out.lt)
      have RP_L15 := Lib.hid (row_last wq (wq.heap.size) 109 [.pointer (some ⟨W1.heap.size, 3, none⟩), .pointer (some ⟨W1.heap.size, 4, none⟩), .pointer (some ⟨W1.heap.size, 5, none⟩), .pointer (some ⟨W1.heap.size, 6, none⟩), .pointer (some ⟨W1.heap.size, 7, none⟩)] (by simp))
      clear HTq HZq HGq HRDq
      generalize (wq.alloc (.cells #[.pointer (some ⟨W1.heap.size, 3, none⟩), .pointer (some ⟨W1.heap.size, 4, none⟩), .pointer (some ⟨W1.heap.size, 5, none⟩), .pointer (some ⟨W1.heap.size, 6, none⟩), .pointer (some ⟨W1.heap.size, 7, none⟩)] 109)) = VL15 at RT_L15 RZ_L15 RP_L15 G_L15 RD_L15 ⊢
      go_loopw [7, 36] (fun t i wr => ∃ (j : Nat) (pv : Value), j ≤ 5 ∧ i = .int .i64 (j : Int) ∧ t = pv ∧ Hid (Row wr (W1.heap.size) 30 ((fun (j : Nat) => [.int .u32 (r : Int), .int .u64 a, .int .u64 b, .int .i64 (if 0 < j then x0 else 0), .int .i64 (if 1 < j then x1 else 0), .int .i64 (if 2 < j then y0 else 0), .int .i64 (if 3 < j then y1 else 0), .int .i64 (if 4 < j then v else 0)]) j)) ∧ Hid (Row wr (w.heap.size) 30 [.int .u32 0, .int .u64 0, .int .u64 0, .int .i64 0, .int .i64 0, .int .i64 0, .int .i64 0, .int .i64 0]) ∧ Hid (Row wr (wq.heap.size) 109 [.pointer (some ⟨W1.heap.size, 3, none⟩), .pointer (some ⟨W1.heap.size, 4, none⟩), .pointer (some ⟨W1.heap.size, 5, none⟩), .pointer (some ⟨W1.heap.size, 6, none⟩), .pointer (some ⟨W1.heap.size, 7, none⟩)]) ∧ Hid (Rdr wr g l (12 + 8 * j) 0) ∧ Hid (w.grownBy wr (some g)) ∧ (wq.heap.size) < wr.heap.size) (fun _ i _ => 5 - (intOf i).toNat)
      case atStart => exact ⟨0, _, by omega, rfl, rfl, RT_L15, RZ_L15, RP_L15, RD_L15, G_L15, RP_L15.out.lt⟩
      case round =>
        obtain ⟨j, pv, hj, rfl, rfl, HT_, HZ_, HP_, HRD, HG, hsz⟩ := hrel
        clear RT_L15 RZ_L15 RP_L15 RD_L15 G_L15
        have hjj : j = 0 ∨ j = 1 ∨ j = 2 ∨ j = 3 ∨ j = 4 ∨ j = 5 := by omega
        clear hj
        rcases hjj with rfl | rfl | rfl | rfl | rfl | rfl
        · try rw [show ((0 : Nat) : Int) = 0 from rfl]
          replace HT_ : Hid (Row wr (W1.heap.size) 30 [.int .u32 (r : Int), .int .u64 a, .int .u64 b, .int .i64 0, .int .i64 0, .int .i64 0, .int .i64 0, .int .i64 0]) := HT_
          replace HRD : Hid (Rdr wr g l 12 0) := HRD
          have cq301_0 := HP_.out.cell 0
          have cq301_1 := HP_.out.cell 1
          have cq301_2 := HP_.out.cell 2
          have cq301_3 := HP_.out.cell 3
          have cq301_4 := HP_.out.cell 4
          simp only [List.getElem?_cons_zero, List.getElem?_cons_succ] at cq301_0 cq301_1 cq301_2 cq301_3 cq301_4
          go_wp2_with fail
          clear cq301_0 cq301_1 cq301_2 cq301_3 cq301_4
          refine (u64_at g l 12 zx0 _ HRD.out (by rw [HL.out]; omega) hzx0.out).mono ?_
          rintro e Wm ⟨rfl, hr, hg⟩
          have hszq302 := HG.out.size
          have HGWq302 := HGW.out
          have RT_q302 := Lib.hid (Row.grown2 HT_.out hg (by omega))
          have RZ_q302 := Lib.hid (Row.grown2 HZ_.out hg (by omega))
          have RP_q302 := Lib.hid (Row.grown2 HP_.out hg (by omega))
          have G_q302 := Lib.hid (grown_trans HG.out hg)
          have RD_q302 := Lib.hid hr
          clear hr hg hszq302 HGWq302 HT_ HZ_ HP_ HG HRD
          have cq303_0 := RT_q302.out.cell 0
          have cq303_1 := RT_q302.out.cell 1
          have cq303_2 := RT_q302.out.cell 2
          have cq303_3 := RT_q302.out.cell 3
          have cq303_4 := RT_q302.out.cell 4
          have cq303_5 := RT_q302.out.cell 5
          have cq303_6 := RT_q302.out.cell 6
          have cq303_7 := RT_q302.out.cell 7
          simp only [List.getElem?_cons_zero, List.getElem?_cons_succ] at cq303_0 cq303_1 cq303_2 cq303_3 cq303_4 cq303_5 cq303_6 cq303_7
          have fq303_0 := RT_q302.out.frozen 0
          have fq303_1 := RT_q302.out.frozen 1
          have fq303_2 := RT_q302.out.frozen 2
          have fq303_3 := RT_q302.out.frozen 3
          have fq303_4 := RT_q302.out.frozen 4
          have fq303_5 := RT_q302.out.frozen 5
          have fq303_6 := RT_q302.out.frozen 6
          have fq303_7 := RT_q302.out.frozen 7
          go_upto_region 11 with fail
          clear cq303_0 cq303_1 cq303_2 cq303_3 cq303_4 cq303_5 cq303_6 cq303_7 fq303_0 fq303_1 fq303_2 fq303_3 fq303_4 fq303_5 fq303_6 fq303_7
          have hszq304 := G_q302.out.size
          have HGWq304 := HGW.out
          have RT_q304 : Hid (Row (Wm.setCell ⟨W1.heap.size, 3, none⟩ (.int .i64 x0)) (W1.heap.size) 30 [.int .u32 (r : Int), .int .u64 a, .int .u64 b, .int .i64 x0, .int .i64 0, .int .i64 0, .int .i64 0, .int .i64 0]) := Lib.hid (RT_q302.out.store 3 (.int .i64 x0))
          have RZ_q304 := Lib.hid (RZ_q302.out.far (p := ⟨W1.heap.size, 3, none⟩) (by dsimp only; omega) (.int .i64 x0))
          have RP_q304 := Lib.hid (RP_q302.out.far (p := ⟨W1.heap.size, 3, none⟩) (by dsimp only; omega) (.int .i64 x0))
          have G_q304 := Lib.hid (grown_setCell G_q302.out (p := ⟨W1.heap.size, 3, none⟩) (by dsimp only; omega) (.int .i64 x0))
          have RD_q304 := Lib.hid (Rdr.set RD_q302.out (p := ⟨W1.heap.size, 3, none⟩) (by dsimp only; omega) (.int .i64 x0))
          clear hszq304 HGWq304 RT_q302 RZ_q302 RP_q302 G_q302 RD_q302
          generalize (Wm.setCell ⟨W1.heap.size, 3, none⟩ (.int .i64 x0)) = Vq304 at RT_q304 RZ_q304 RP_q304 G_q304 RD_q304 ⊢
          go_wp2_with fail
          go_roundw
          case rel => exact ⟨1, _, by omega, by go_num, rfl, RT_q304, RZ_q304, RP_q304, RD_q304, G_q304, RP_q304.out.lt⟩
          case measure => simp [intOf]
        · try rw [show ((1 : Nat) : Int) = 1 from rfl]
          replace HT_ : Hid (Row wr (W1.heap.size) 30 [.int .u32 (r : Int), .int .u64 a, .int .u64 b, .int .i64 x0, .int .i64 0, .int .i64 0, .int .i64 0, .int .i64 0]) := HT_
          replace HRD : Hid (Rdr wr g l 20 0) := HRD
          have cq311_0 := HP_.out.cell 0
          have cq311_1 := HP_.out.cell 1
          have cq311_2 := HP_.out.cell 2
          have cq311_3 := HP_.out.cell 3
          have cq311_4 := HP_.out.cell 4
          simp only [List.getElem?_cons_zero, List.getElem?_cons_succ] at cq311_0 cq311_1 cq311_2 cq311_3 cq311_4
          go_wp2_with fail
          clear cq311_0 cq311_1 cq311_2 cq311_3 cq311_4
          refine (u64_at g l 20 zx1 _ HRD.out (by rw [HL.out]; omega) hzx1.out).mono ?_
          rintro e Wm ⟨rfl, hr, hg⟩
          have hszq312 := HG.out.size
          have HGWq312 := HGW.out
          have RT_q312 := Lib.hid (Row.grown2 HT_.out hg (by omega))
          have RZ_q312 := Lib.hid (Row.grown2 HZ_.out hg (by omega))
          have RP_q312 := Lib.hid (Row.grown2 HP_.out hg (by omega))
          have G_q312 := Lib.hid (grown_trans HG.out hg)
          have RD_q312 := Lib.hid hr
          clear hr hg hszq312 HGWq312 HT_ HZ_ HP_ HG HRD
          have cq313_0 := RT_q312.out.cell 0
          have cq313_1 := RT_q312.out.cell 1
          have cq313_2 := RT_q312.out.cell 2
          have cq313_3 := RT_q312.out.cell 3
          have cq313_4 := RT_q312.out.cell 4
          have cq313_5 := RT_q312.out.cell 5
          have cq313_6 := RT_q312.out.cell 6
          have cq313_7 := RT_q312.out.cell 7
          simp only [List.getElem?_cons_zero, List.getElem?_cons_succ] at cq313_0 cq313_1 cq313_2 cq313_3 cq313_4 cq313_5 cq313_6 cq313_7
          have fq313_0 := RT_q312.out.frozen 0
          have fq313_1 := RT_q312.out.frozen 1
          have fq313_2 := RT_q312.out.frozen 2
          have fq313_3 := RT_q312.out.frozen 3
          have fq313_4 := RT_q312.out.frozen 4
          have fq313_5 := RT_q312.out.frozen 5
          have fq313_6 := RT_q312.out.frozen 6
          have fq313_7 := RT_q312.out.frozen 7
          go_upto_region 11 with fail
          clear cq313_0 cq313_1 cq313_2 cq313_3 cq313_4 cq313_5 cq313_6 cq313_7 fq313_0 fq313_1 fq313_2 fq313_3 fq313_4 fq313_5 fq313_6 fq313_7
          have hszq314 := G_q312.out.size
          have HGWq314 := HGW.out
          have RT_q314 : Hid (Row (Wm.setCell ⟨W1.heap.size, 4, none⟩ (.int .i64 x1)) (W1.heap.size) 30 [.int .u32 (r : Int), .int .u64 a, .int .u64 b, .int .i64 x0, .int .i64 x1, .int .i64 0, .int .i64 0, .int .i64 0]) := Lib.hid (RT_q312.out.store 4 (.int .i64 x1))
          have RZ_q314 := Lib.hid (RZ_q312.out.far (p := ⟨W1.heap.size, 4, none⟩) (by dsimp only; omega) (.int .i64 x1))
          have RP_q314 := Lib.hid (RP_q312.out.far (p := ⟨W1.heap.size, 4, none⟩) (by dsimp only; omega) (.int .i64 x1))
          have G_q314 := Lib.hid (grown_setCell G_q312.out (p := ⟨W1.heap.size, 4, none⟩) (by dsimp only; omega) (.int .i64 x1))
          have RD_q314 := Lib.hid (Rdr.set RD_q312.out (p := ⟨W1.heap.size, 4, none⟩) (by dsimp only; omega) (.int .i64 x1))
          clear hszq314 HGWq314 RT_q312 RZ_q312 RP_q312 G_q312 RD_q312
          generalize (Wm.setCell ⟨W1.heap.size, 4, none⟩ (.int .i64 x1)) = Vq314 at RT_q314 RZ_q314 RP_q314 G_q314 RD_q314 ⊢
          go_wp2_with fail
          go_roundw
          case rel => exact ⟨2, _, by omega, by go_num, rfl, RT_q314, RZ_q314, RP_q314, RD_q314, G_q314, RP_q314.out.lt⟩
          case measure => simp [intOf]
        · try rw [show ((2 : Nat) : Int) = 2 from rfl]
          replace HT_ : Hid (Row wr (W1.heap.size) 30 [.int .u32 (r : Int), .int .u64 a, .int .u64 b, .int .i64 x0, .int .i64 x1, .int .i64 0, .int .i64 0, .int .i64 0]) := HT_
          replace HRD : Hid (Rdr wr g l 28 0) := HRD
          have cq321_0 := HP_.out.cell 0
          have cq321_1 := HP_.out.cell 1
          have cq321_2 := HP_.out.cell 2
          have cq321_3 := HP_.out.cell 3
          have cq321_4 := HP_.out.cell 4
          simp only [List.getElem?_cons_zero, List.getElem?_cons_succ] at cq321_0 cq321_1 cq321_2 cq321_3 cq321_4
          go_wp2_with fail
          clear cq321_0 cq321_1 cq321_2 cq321_3 cq321_4
          refine (u64_at g l 28 zy0 _ HRD.out (by rw [HL.out]; omega) hzy0.out).mono ?_
          rintro e Wm ⟨rfl, hr, hg⟩
          have hszq322 := HG.out.size
          have HGWq322 := HGW.out
          have RT_q322 := Lib.hid (Row.grown2 HT_.out hg (by omega))
          have RZ_q322 := Lib.hid (Row.grown2 HZ_.out hg (by omega))
          have RP_q322 := Lib.hid (Row.grown2 HP_.out hg (by omega))
          have G_q322 := Lib.hid (grown_trans HG.out hg)
          have RD_q322 := Lib.hid hr
          clear hr hg hszq322 HGWq322 HT_ HZ_ HP_ HG HRD
          have cq323_0 := RT_q322.out.cell 0
          have cq323_1 := RT_q322.out.cell 1
          have cq323_2 := RT_q322.out.cell 2
          have cq323_3 := RT_q322.out.cell 3
          have cq323_4 := RT_q322.out.cell 4
          have cq323_5 := RT_q322.out.cell 5
          have cq323_6 := RT_q322.out.cell 6
          have cq323_7 := RT_q322.out.cell 7
          simp only [List.getElem?_cons_zero, List.getElem?_cons_succ] at cq323_0 cq323_1 cq323_2 cq323_3 cq323_4 cq323_5 cq323_6 cq323_7
          have fq323_0 := RT_q322.out.frozen 0
          have fq323_1 := RT_q322.out.frozen 1
          have fq323_2 := RT_q322.out.frozen 2
          have fq323_3 := RT_q322.out.frozen 3
          have fq323_4 := RT_q322.out.frozen 4
          have fq323_5 := RT_q322.out.frozen 5
          have fq323_6 := RT_q322.out.frozen 6
          have fq323_7 := RT_q322.out.frozen 7
          go_upto_region 11 with fail
          clear cq323_0 cq323_1 cq323_2 cq323_3 cq323_4 cq323_5 cq323_6 cq323_7 fq323_0 fq323_1 fq323_2 fq323_3 fq323_4 fq323_5 fq323_6 fq323_7
          have hszq324 := G_q322.out.size
          have HGWq324 := HGW.out
          have RT_q324 : Hid (Row (Wm.setCell ⟨W1.heap.size, 5, none⟩ (.int .i64 y0)) (W1.heap.size) 30 [.int .u32 (r : Int), .int .u64 a, .int .u64 b, .int .i64 x0, .int .i64 x1, .int .i64 y0, .int .i64 0, .int .i64 0]) := Lib.hid (RT_q322.out.store 5 (.int .i64 y0))
          have RZ_q324 := Lib.hid (RZ_q322.out.far (p := ⟨W1.heap.size, 5, none⟩) (by dsimp only; omega) (.int .i64 y0))
          have RP_q324 := Lib.hid (RP_q322.out.far (p := ⟨W1.heap.size, 5, none⟩) (by dsimp only; omega) (.int .i64 y0))
          have G_q324 := Lib.hid (grown_setCell G_q322.out (p := ⟨W1.heap.size, 5, none⟩) (by dsimp only; omega) (.int .i64 y0))
          have RD_q324 := Lib.hid (Rdr.set RD_q322.out (p := ⟨W1.heap.size, 5, none⟩) (by dsimp only; omega) (.int .i64 y0))
          clear hszq324 HGWq324 RT_q322 RZ_q322 RP_q322 G_q322 RD_q322
          generalize (Wm.setCell ⟨W1.heap.size, 5, none⟩ (.int .i64 y0)) = Vq324 at RT_q324 RZ_q324 RP_q324 G_q324 RD_q324 ⊢
          go_wp2_with fail
          go_roundw
          case rel => exact ⟨3, _, by omega, by go_num, rfl, RT_q324, RZ_q324, RP_q324, RD_q324, G_q324, RP_q324.out.lt⟩
          case measure => simp [intOf]
        · try rw [show ((3 : Nat) : Int) = 3 from rfl]
          replace HT_ : Hid (Row wr (W1.heap.size) 30 [.int .u32 (r : Int), .int .u64 a, .int .u64 b, .int .i64 x0, .int .i64 x1, .int .i64 y0, .int .i64 0, .int .i64 0]) := HT_
          replace HRD : Hid (Rdr wr g l 36 0) := HRD
          have cq331_0 := HP_.out.cell 0
          have cq331_1 := HP_.out.cell 1
          have cq331_2 := HP_.out.cell 2
          have cq331_3 := HP_.out.cell 3
          have cq331_4 := HP_.out.cell 4
          simp only [List.getElem?_cons_zero, List.getElem?_cons_succ] at cq331_0 cq331_1 cq331_2 cq331_3 cq331_4
          go_wp2_with fail
          clear cq331_0 cq331_1 cq331_2 cq331_3 cq331_4
          refine (u64_at g l 36 zy1 _ HRD.out (by rw [HL.out]; omega) hzy1.out).mono ?_
          rintro e Wm ⟨rfl, hr, hg⟩
          have hszq332 := HG.out.size
          have HGWq332 := HGW.out
          have RT_q332 := Lib.hid (Row.grown2 HT_.out hg (by omega))
          have RZ_q332 := Lib.hid (Row.grown2 HZ_.out hg (by omega))
          have RP_q332 := Lib.hid (Row.grown2 HP_.out hg (by omega))
          have G_q332 := Lib.hid (grown_trans HG.out hg)
          have RD_q332 := Lib.hid hr
          clear hr hg hszq332 HGWq332 HT_ HZ_ HP_ HG HRD
          have cq333_0 := RT_q332.out.cell 0
          have cq333_1 := RT_q332.out.cell 1
          have cq333_2 := RT_q332.out.cell 2
          have cq333_3 := RT_q332.out.cell 3
          have cq333_4 := RT_q332.out.cell 4
          have cq333_5 := RT_q332.out.cell 5
          have cq333_6 := RT_q332.out.cell 6
          have cq333_7 := RT_q332.out.cell 7
          simp only [List.getElem?_cons_zero, List.getElem?_cons_succ] at cq333_0 cq333_1 cq333_2 cq333_3 cq333_4 cq333_5 cq333_6 cq333_7
          have fq333_0 := RT_q332.out.frozen 0
          have fq333_1 := RT_q332.out.frozen 1
          have fq333_2 := RT_q332.out.frozen 2
          have fq333_3 := RT_q332.out.frozen 3
          have fq333_4 := RT_q332.out.frozen 4
          have fq333_5 := RT_q332.out.frozen 5
          have fq333_6 := RT_q332.out.frozen 6
          have fq333_7 := RT_q332.out.frozen 7
          go_upto_region 11 with fail
          clear cq333_0 cq333_1 cq333_2 cq333_3 cq333_4 cq333_5 cq333_6 cq333_7 fq333_0 fq333_1 fq333_2 fq333_3 fq333_4 fq333_5 fq333_6 fq333_7
          have hszq334 := G_q332.out.size
          have HGWq334 := HGW.out
          have RT_q334 : Hid (Row (Wm.setCell ⟨W1.heap.size, 6, none⟩ (.int .i64 y1)) (W1.heap.size) 30 [.int .u32 (r : Int), .int .u64 a, .int .u64 b, .int .i64 x0, .int .i64 x1, .int .i64 y0, .int .i64 y1, .int .i64 0]) := Lib.hid (RT_q332.out.store 6 (.int .i64 y1))
          have RZ_q334 := Lib.hid (RZ_q332.out.far (p := ⟨W1.heap.size, 6, none⟩) (by dsimp only; omega) (.int .i64 y1))
          have RP_q334 := Lib.hid (RP_q332.out.far (p := ⟨W1.heap.size, 6, none⟩) (by dsimp only; omega) (.int .i64 y1))
          have G_q334 := Lib.hid (grown_setCell G_q332.out (p := ⟨W1.heap.size, 6, none⟩) (by dsimp only; omega) (.int .i64 y1))
          have RD_q334 := Lib.hid (Rdr.set RD_q332.out (p := ⟨W1.heap.size, 6, none⟩) (by dsimp only; omega) (.int .i64 y1))
          clear hszq334 HGWq334 RT_q332 RZ_q332 RP_q332 G_q332 RD_q332
          generalize (Wm.setCell ⟨W1.heap.size, 6, none⟩ (.int .i64 y1)) = Vq334 at RT_q334 RZ_q334 RP_q334 G_q334 RD_q334 ⊢
          go_wp2_with fail
          go_roundw
          case rel => exact ⟨4, _, by omega, by go_num, rfl, RT_q334, RZ_q334, RP_q334, RD_q334, G_q334, RP_q334.out.lt⟩
          case measure => simp [intOf]
        · try rw [show ((4 : Nat) : Int) = 4 from rfl]
          replace HT_ : Hid (Row wr (W1.heap.size) 30 [.int .u32 (r : Int), .int .u64 a, .int .u64 b, .int .i64 x0, .int .i64 x1, .int .i64 y0, .int .i64 y1, .int .i64 0]) := HT_
          replace HRD : Hid (Rdr wr g l 44 0) := HRD
          have cq341_0 := HP_.out.cell 0
          have cq341_1 := HP_.out.cell 1
          have cq341_2 := HP_.out.cell 2
          have cq341_3 := HP_.out.cell 3
          have cq341_4 := HP_.out.cell 4
          simp only [List.getElem?_cons_zero, List.getElem?_cons_succ] at cq341_0 cq341_1 cq341_2 cq341_3 cq341_4
          go_wp2_with fail
          clear cq341_0 cq341_1 cq341_2 cq341_3 cq341_4
          refine (u64_at g l 44 zv _ HRD.out (by rw [HL.out]; omega) hzv.out).mono ?_
          rintro e Wm ⟨rfl, hr, hg⟩
          have hszq342 := HG.out.size
          have HGWq342 := HGW.out
          have RT_q342 := Lib.hid (Row.grown2 HT_.out hg (by omega))
          have RZ_q342 := Lib.hid (Row.grown2 HZ_.out hg (by omega))
          have RP_q342 := Lib.hid (Row.grown2 HP_.out hg (by omega))
          have G_q342 := Lib.hid (grown_trans HG.out hg)
          have RD_q342 := Lib.hid hr
          clear hr hg hszq342 HGWq342 HT_ HZ_ HP_ HG HRD
          have cq343_0 := RT_q342.out.cell 0
          have cq343_1 := RT_q342.out.cell 1
          have cq343_2 := RT_q342.out.cell 2
          have cq343_3 := RT_q342.out.cell 3
          have cq343_4 := RT_q342.out.cell 4
          have cq343_5 := RT_q342.out.cell 5
          have cq343_6 := RT_q342.out.cell 6
          have cq343_7 := RT_q342.out.cell 7
          simp only [List.getElem?_cons_zero, List.getElem?_cons_succ] at cq343_0 cq343_1 cq343_2 cq343_3 cq343_4 cq343_5 cq343_6 cq343_7
          have fq343_0 := RT_q342.out.frozen 0
          have fq343_1 := RT_q342.out.frozen 1
          have fq343_2 := RT_q342.out.frozen 2
          have fq343_3 := RT_q342.out.frozen 3
          have fq343_4 := RT_q342.out.frozen 4
          have fq343_5 := RT_q342.out.frozen 5
          have fq343_6 := RT_q342.out.frozen 6
          have fq343_7 := RT_q342.out.frozen 7
          go_upto_region 11 with fail
          clear cq343_0 cq343_1 cq343_2 cq343_3 cq343_4 cq343_5 cq343_6 cq343_7 fq343_0 fq343_1 fq343_2 fq343_3 fq343_4 fq343_5 fq343_6 fq343_7
          have hszq344 := G_q342.out.size
          have HGWq344 := HGW.out
          have RT_q344 : Hid (Row (Wm.setCell ⟨W1.heap.size, 7, none⟩ (.int .i64 v)) (W1.heap.size) 30 [.int .u32 (r : Int), .int .u64 a, .int .u64 b, .int .i64 x0, .int .i64 x1, .int .i64 y0, .int .i64 y1, .int .i64 v]) := Lib.hid (RT_q342.out.store 7 (.int .i64 v))
          have RZ_q344 := Lib.hid (RZ_q342.out.far (p := ⟨W1.heap.size, 7, none⟩) (by dsimp only; omega) (.int .i64 v))
          have RP_q344 := Lib.hid (RP_q342.out.far (p := ⟨W1.heap.size, 7, none⟩) (by dsimp only; omega) (.int .i64 v))
          have G_q344 := Lib.hid (grown_setCell G_q342.out (p := ⟨W1.heap.size, 7, none⟩) (by dsimp only; omega) (.int .i64 v))
          have RD_q344 := Lib.hid (Rdr.set RD_q342.out (p := ⟨W1.heap.size, 7, none⟩) (by dsimp only; omega) (.int .i64 v))
          clear hszq344 HGWq344 RT_q342 RZ_q342 RP_q342 G_q342 RD_q342
          generalize (Wm.setCell ⟨W1.heap.size, 7, none⟩ (.int .i64 v)) = Vq344 at RT_q344 RZ_q344 RP_q344 G_q344 RD_q344 ⊢
          go_wp2_with fail
          go_roundw
          case rel => exact ⟨5, _, by omega, by go_num, rfl, RT_q344, RZ_q344, RP_q344, RD_q344, G_q344, RP_q344.out.lt⟩
          case measure => simp [intOf]
        · try rw [show ((5 : Nat) : Int) = 5 from rfl]
          replace HT_ : Hid (Row wr (W1.heap.size) 30 [.int .u32 (r : Int), .int .u64 a, .int .u64 b, .int .i64 x0, .int .i64 x1, .int .i64 y0, .int .i64 y1, .int .i64 v]) := HT_
          replace HRD : Hid (Rdr wr g l 52 0) := HRD
          have cL36_0 := HT_.out.cell 0
          have cL36_1 := HT_.out.cell 1
          have cL36_2 := HT_.out.cell 2
          have cL36_3 := HT_.out.cell 3
          have cL36_4 := HT_.out.cell 4
          have cL36_5 := HT_.out.cell 5
          have cL36_6 := HT_.out.cell 6
          have cL36_7 := HT_.out.cell 7
          simp only [List.getElem?_cons_zero, List.getElem?_cons_succ] at cL36_0 cL36_1 cL36_2 cL36_3 cL36_4 cL36_5 cL36_6 cL36_7
          have fL36_0 := HT_.out.frozen 0
          have fL36_1 := HT_.out.frozen 1
          have fL36_2 := HT_.out.frozen 2
          have fL36_3 := HT_.out.frozen 3
          have fL36_4 := HT_.out.frozen 4
          have fL36_5 := HT_.out.frozen 5
          have fL36_6 := HT_.out.frozen 6
          have fL36_7 := HT_.out.frozen 7
          have cL37_0 := HZ_.out.cell 0
          have cL37_1 := HZ_.out.cell 1
          have cL37_2 := HZ_.out.cell 2
          have cL37_3 := HZ_.out.cell 3
          have cL37_4 := HZ_.out.cell 4
          have cL37_5 := HZ_.out.cell 5
          have cL37_6 := HZ_.out.cell 6
          have cL37_7 := HZ_.out.cell 7
          simp only [List.getElem?_cons_zero, List.getElem?_cons_succ] at cL37_0 cL37_1 cL37_2 cL37_3 cL37_4 cL37_5 cL37_6 cL37_7
          have fL37_0 := HZ_.out.frozen 0
          have fL37_1 := HZ_.out.frozen 1
          have fL37_2 := HZ_.out.frozen 2
          have fL37_3 := HZ_.out.frozen 3
          have fL37_4 := HZ_.out.frozen 4
          have fL37_5 := HZ_.out.frozen 5
          have fL37_6 := HZ_.out.frozen 6
          have fL37_7 := HZ_.out.frozen 7
          go_wp2_with fail
          exact bodyPost_ret (v := TV r a b x0 x1 y0 y1 v) (by simp [results, Try.results37, go_sem, *]) rfl ⟨rfl, (grown_setCell (grown_setCell (grown_setCell (grown_setCell (grown_setCell (grown_setCell (grown_setCell (grown_setCell HG.out (p := ⟨w.heap.size, 0, none⟩) (Nat.le_refl _) (.int .u32 (r : Int))) (p := ⟨w.heap.size, 1, none⟩) (Nat.le_refl _) (.int .u64 (a : Int))) (p := ⟨w.heap.size, 2, none⟩) (Nat.le_refl _) (.int .u64 (b : Int))) (p := ⟨w.heap.size, 3, none⟩) (Nat.le_refl _) (.int .i64 (x0 : Int))) (p := ⟨w.heap.size, 4, none⟩) (Nat.le_refl _) (.int .i64 (x1 : Int))) (p := ⟨w.heap.size, 5, none⟩) (Nat.le_refl _) (.int .i64 (y0 : Int))) (p := ⟨w.heap.size, 6, none⟩) (Nat.le_refl _) (.int .i64 (y1 : Int))) (p := ⟨w.heap.size, 7, none⟩) (Nat.le_refl _) (.int .i64 (v : Int)))⟩
end Go.Proofs.Ytnojkoefdigcnaa.Hp
