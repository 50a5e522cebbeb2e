/-
  Heap: the reference's Decode.
-/
import Derived.Test.YtnojkoefdigcnaaHp9
import Derived.LoopTactic
import Derived.Deep.RegionHeld
import Derived.Deep.Cut
import Derived.WalkLawsBesides
namespace Go.Proofs.Ytnojkoefdigcnaa.Hp
set_option maxRecDepth 100000
open Go.RowKit Go.Proofs.Ytnojkoefdigcnaa.Dsk Go.Proofs.Ytnojkoefdigcnaa.Pg Go.Proofs.Ytnojkoefdigcnaa.Rec Go.Proofs.Ytnojkoefdigcnaa.Wd Go.Proofs.Ytnojkoefdigcnaa.Wi Go.Proofs.Ytnojkoefdigcnaa.Ky Go.Proofs.Ytnojkoefdigcnaa.Oct Go.Proofs.Ytnojkoefdigcnaa.Rec Go.Proofs.Ytnojkoefdigcnaa.Lift
/-- a row that was made since -/
def NewR (w0 : World) (T : TypeId) (cs : List Value) (t : Value) (wx : World) : Prop := ∃ g, t = .pointer (some ⟨g, 0, none⟩) ∧ Row wx g T cs ∧ w0.heap.size ≤ g ∧ Below w0.heap.size w0 wx

theorem num_at (b_ o_ : Nat) (l : List UInt8) (k n x C : Nat) (w W : World) (hl : l.length = 52) (hkn : k + n ≤ 52) (hn8 : n ≤ 8) (hx : fld l k n = x) (hB : Bs w w.heap.size (some ⟨b_, o_, none⟩) l) (hb : Below w.heap.size w W) :
    Calls Try.prog 39 #[.slice (some ⟨b_, o_ + k, none⟩) n C] W fun e w' => e = .returned (.int .u64 (x : Int)) ∧ Below W.heap.size W w' := by
  have h1 : Bs W w.heap.size (some ⟨b_, o_ + k, none⟩) ((l.drop k).take n) := by
    have := (hB.below hb).cut k n (by omega)
    rwa [Option.map_some, Addr.add_lit] at this
  have h2 := rnum_any (some ⟨b_, o_ + k, none⟩) n C w.heap.size ((l.drop k).take n) W (by rw [List.length_take, List.length_drop]; omega) hn8 h1
  refine h2.mono ?_
  rintro e w' ⟨rfl, rfl⟩
  subst hx
  exact ⟨rfl, Below.refl _ _⟩

set_option maxHeartbeats 8000000 in
theorem rdec_g (b_ o_ : Nat) (l : List UInt8) (c : Nat) (r a b : Nat) (x0 x1 y0 y1 v : Int) (hk : okT r a b x0 x1 y0 y1 = true) (ht : TOf l r a b x0 x1 y0 y1 v) (w : World) (hl : l.length = 52) (hc : 52 ≤ c) (hcm : c ≤ maxLen) (hB : Bs w w.heap.size (some ⟨b_, o_, none⟩) l) :
    Calls Try.prog 15 #[.slice (some ⟨b_, o_, none⟩) 52 c] w fun e w' => e = .returned (.tuple #[TV r a b x0 x1 y0 y1 v, .bool true]) ∧ Below w.heap.size w w' := by
  have mixed : Try.prog.follows .mixedOrders = true := by kernel_rfl
  have HC := Lib.hid (Right_ref r a b x0 x1 y0 y1 v)
  rw [hk] at HC
  have HNB := Lib.hid (fun (k n x C : Nat) (hkn : k + n ≤ 52) (hn8 : n ≤ 8) (hx : fld l k n = x) (W : World) (hb : Below w.heap.size w W) => num_at b_ o_ l k n x C w W hl hkn hn8 hx hB hb)
  have hzr := ht.r
  have hza := ht.a
  have hzb := ht.b
  obtain ⟨zx0, hzzx0⟩ : ∃ z, fld l 12 8 = z := ⟨_, rfl⟩
  have wzx0 : IntKind.i64.wrap (zx0 : Int) = x0 := by rw [← hzzx0]; exact ht.x0
  obtain ⟨zx1, hzzx1⟩ : ∃ z, fld l 20 8 = z := ⟨_, rfl⟩
  have wzx1 : IntKind.i64.wrap (zx1 : Int) = x1 := by rw [← hzzx1]; exact ht.x1
  obtain ⟨zy0, hzzy0⟩ : ∃ z, fld l 28 8 = z := ⟨_, rfl⟩
  have wzy0 : IntKind.i64.wrap (zy0 : Int) = y0 := by rw [← hzzy0]; exact ht.y0
  obtain ⟨zy1, hzzy1⟩ : ∃ z, fld l 36 8 = z := ⟨_, rfl⟩
  have wzy1 : IntKind.i64.wrap (zy1 : Int) = y1 := by rw [← hzzy1]; exact ht.y1
  obtain ⟨zv, hzzv⟩ : ∃ z, fld l 44 8 = z := ⟨_, rfl⟩
  have wzv : IntKind.i64.wrap (zv : Int) = v := by rw [← hzzv]; exact ht.v
  have H0 := Lib.hid (fun (W : World) (hb : Below w.heap.size w W) => HNB.out 0 4 r (c - 0) (by omega) (by omega) hzr W hb)
  have H1 := Lib.hid (fun (W : World) (hb : Below w.heap.size w W) => HNB.out 4 4 a (c - 4) (by omega) (by omega) hza W hb)
  have H2 := Lib.hid (fun (W : World) (hb : Below w.heap.size w W) => HNB.out 8 4 b (c - 8) (by omega) (by omega) hzb W hb)
  have H3 := Lib.hid (fun (W : World) (hb : Below w.heap.size w W) => HNB.out 12 8 zx0 (c - 12) (by omega) (by omega) hzzx0 W hb)
  have H4 := Lib.hid (fun (W : World) (hb : Below w.heap.size w W) => HNB.out 20 8 zx1 (c - 20) (by omega) (by omega) hzzx1 W hb)
  have H5 := Lib.hid (fun (W : World) (hb : Below w.heap.size w W) => HNB.out 28 8 zy0 (c - 28) (by omega) (by omega) hzzy0 W hb)
  have H6 := Lib.hid (fun (W : World) (hb : Below w.heap.size w W) => HNB.out 36 8 zy1 (c - 36) (by omega) (by omega) hzzy1 W hb)
  have H7 := Lib.hid (fun (W : World) (hb : Below w.heap.size w W) => HNB.out 44 8 zv (c - 44) (by omega) (by omega) hzzv W hb)
  have wr : IntKind.u32.wrap (r : Int) = r := by have := fld_lt l 0 4; rw [hzr] at this; simp [IntKind.wrap, IntKind.signed, IntKind.bits]; omega
  have wr2 : (r : Int) % 4294967296 = r := by have := fld_lt l 0 4; rw [hzr] at this; omega
  have n4 : ¬ c = 4 := by omega
  have m4 : ¬ (c : Int) = 4 := by omega
  have n8 : ¬ c = 8 := by omega
  have m8 : ¬ (c : Int) = 8 := by omega
  have n12 : ¬ c = 12 := by omega
  have m12 : ¬ (c : Int) = 12 := by omega
  have n20 : ¬ c = 20 := by omega
  have m20 : ¬ (c : Int) = 20 := by omega
  have n28 : ¬ c = 28 := by omega
  have m28 : ¬ (c : Int) = 28 := by omega
  have n36 : ¬ c = 36 := by omega
  have m36 : ¬ (c : Int) = 36 := by omega
  have n44 : ¬ c = 44 := by omega
  have m44 : ¬ (c : Int) = 44 := by omega
  have hci : (52 : Int) ≤ (c : Int) := by omega
  have q4 : (4 : Int) ≤ (c : Int) := by omega
  have q8 : (8 : Int) ≤ (c : Int) := by omega
  have q12 : (12 : Int) ≤ (c : Int) := by omega
  have q20 : (20 : Int) ≤ (c : Int) := by omega
  have q28 : (28 : Int) ≤ (c : Int) := by omega
  have q36 : (36 : Int) ≤ (c : Int) := by omega
  have q44 : (44 : Int) ≤ (c : Int) := by omega
  unfold maxLen at hcm
  clear hl hB ht hk HNB hzr hza hzb hzzx0 hzzx1 hzzy0 hzzy1 hzzv
  go_enter Try.func15, Try.ntmps15
  go_upto_region 1 with fail
  have RZ_g1 := Lib.hid (row_last w (w.heap.size) 30 [.int .u32 0, .int .u64 0, .int .u64 0, .int .i64 0, .int .i64 0, .int .i64 0, .int .i64 0, .int .i64 0] (by simp))
  have B_g1 := Lib.hid ((Below.refl w.heap.size w).alloc (Nat.le_refl _) (.cells #[.int .u32 0, .int .u64 0, .int .u64 0, .int .i64 0, .int .i64 0, .int .i64 0, .int .i64 0, .int .i64 0] 30))
  generalize (w.alloc (.cells #[.int .u32 0, .int .u64 0, .int .u64 0, .int .i64 0, .int .i64 0, .int .i64 0, .int .i64 0, .int .i64 0] 30)) = Vg1 at RZ_g1 B_g1 ⊢
  go_upto_region 3 with fail
  go_cut [4] from 9 to 19 (fun t wx => NewR Vg1 30 [.int .u32 (r : Int), .int .u64 (a : Int), .int .u64 (b : Int), .int .i64 0, .int .i64 0, .int .i64 0, .int .i64 0, .int .i64 0] t wx)
  case first =>
    refine wp_region_held_drew (S := fun w' => Below Vg1.heap.size Vg1 w') (by kernel_rfl) (Below.refl _ _).drew (fun hHeld => ?_)
    have S_g2 := Lib.hid hHeld
    clear hHeld
    generalize Vg1.drew = Dg2 at S_g2 ⊢
    refine wpAnyH_take (i := 0) (oi := ⟨some 9, _, _, _, _, _⟩) (v := ?vgdg2_1) rfl (by kernel_rfl) (by kernel_rfl) (by kernel_rfl) (fun _ _ _ h => h) (Or.inl ⟨by rfl, ?ygdg2_1⟩) S_g2.out ?rgdg2_1
    case ygdg2_1 =>
      rintro w' hSw
      go_simp
      try with_reducible rfl
    try simp only [Act.put, List.setIfInBounds_toArray, List.set_cons_zero, List.set_cons_succ]
    refine wpAnyH_take (i := 1) (oi := ⟨some 10, _, _, _, _, _⟩) (v := ?vgdg2_2) rfl (by kernel_rfl) (by kernel_rfl) (by kernel_rfl) (fun _ _ _ h => h) (Or.inl ⟨by rfl, ?ygdg2_2⟩) S_g2.out ?rgdg2_2
    case ygdg2_2 =>
      rintro w' hSw
      go_simp
      try with_reducible rfl
    try simp only [Act.put, List.setIfInBounds_toArray, List.set_cons_zero, List.set_cons_succ]
    refine wpAnyH_take (i := 4) (oi := ⟨some 13, _, _, _, _, _⟩) (v := ?vgdg2_3) rfl (by kernel_rfl) (by kernel_rfl) (by kernel_rfl) (fun _ _ _ h => h) (Or.inl ⟨by rfl, ?ygdg2_3⟩) S_g2.out ?rgdg2_3
    case ygdg2_3 =>
      rintro w' hSw
      go_simp
      try with_reducible rfl
    try simp only [Act.put, List.setIfInBounds_toArray, List.set_cons_zero, List.set_cons_succ]
    refine wpAnyH_take (i := 5) (oi := ⟨some 14, _, _, _, _, _⟩) (v := ?vgdg2_4) rfl (by kernel_rfl) (by kernel_rfl) (by kernel_rfl) (fun _ _ _ h => h) (Or.inl ⟨by rfl, ?ygdg2_4⟩) S_g2.out ?rgdg2_4
    case ygdg2_4 =>
      rintro w' hSw
      go_simp
      try with_reducible rfl
    try simp only [Act.put, List.setIfInBounds_toArray, List.set_cons_zero, List.set_cons_succ]
    refine wpAnyH_take (i := 7) (oi := ⟨some 16, _, _, _, _, _⟩) (v := ?vgdg2_5) rfl (by kernel_rfl) (by kernel_rfl) (by kernel_rfl) (fun _ _ _ h => h) (Or.inl ⟨by rfl, ?ygdg2_5⟩) S_g2.out ?rgdg2_5
    case ygdg2_5 =>
      rintro w' hSw
      go_simp
      try with_reducible rfl
    try simp only [Act.put, List.setIfInBounds_toArray, List.set_cons_zero, List.set_cons_succ]
    refine wpAnyH_take (i := 8) (oi := ⟨some 17, _, _, _, _, _⟩) (v := ?vgdg2_6) rfl (by kernel_rfl) (by kernel_rfl) (by kernel_rfl) (fun _ _ _ h => h) (Or.inl ⟨by rfl, ?ygdg2_6⟩) S_g2.out ?rgdg2_6
    case ygdg2_6 =>
      rintro w' hSw
      go_simp
      try with_reducible rfl
    try simp only [Act.put, List.setIfInBounds_toArray, List.set_cons_zero, List.set_cons_succ]
    refine wpAnyH_ready (rs := [2, 11]) (by kernel_rfl) (by simp) ?_
    refine (AllReadyH.cons rfl (fun K hK => ?_) (AllReadyH.cons rfl (fun K hK => ?_) AllReadyH.nil))
    · go_simp
      refine (H0.out _ (B_g1.out.trans (S_g2.out.mono B_g1.out.size))).mono ?_
      rintro e Xgdg2_7 ⟨rfl, hb⟩
      have Sgdg2_7 := Lib.hid (S_g2.out.trans (hb.mono S_g2.out.size))
      clear hb S_g2
      refine hK _ _ Sgdg2_7.out (fun _ => ?_)
      clear hK K
      try simp only [Act.put, List.setIfInBounds_toArray, List.set_cons_zero, List.set_cons_succ]
      refine wpAnyH_take (i := 3) (oi := ⟨some 12, _, _, _, _, _⟩) (v := ?vgdg2_8) rfl (by kernel_rfl) (by kernel_rfl) (by kernel_rfl) (fun _ _ _ h => h) (Or.inl ⟨by rfl, ?ygdg2_8⟩) Sgdg2_7.out ?rgdg2_8
      case ygdg2_8 =>
        rintro w' hSw
        go_simp
        try with_reducible rfl
      try simp only [Act.put, List.setIfInBounds_toArray, List.set_cons_zero, List.set_cons_succ]
      refine wpAnyH_ready (rs := [6, 11]) (by kernel_rfl) (by simp) ?_
      refine (AllReadyH.cons rfl (fun K hK => ?_) (AllReadyH.cons rfl (fun K hK => ?_) AllReadyH.nil))
      · go_simp
        refine (H1.out _ (B_g1.out.trans (Sgdg2_7.out.mono B_g1.out.size))).mono ?_
        rintro e Xgdg2_9 ⟨rfl, hb⟩
        have Sgdg2_9 := Lib.hid (Sgdg2_7.out.trans (hb.mono Sgdg2_7.out.size))
        clear hb Sgdg2_7
        refine hK _ _ Sgdg2_9.out (fun _ => ?_)
        clear hK K
        try simp only [Act.put, List.setIfInBounds_toArray, List.set_cons_zero, List.set_cons_succ]
        refine wpAnyH_ready (rs := [9, 11]) (by kernel_rfl) (by simp) ?_
        refine (AllReadyH.cons rfl (fun K hK => ?_) (AllReadyH.cons rfl (fun K hK => ?_) AllReadyH.nil))
        · go_simp
          refine (H2.out _ (B_g1.out.trans (Sgdg2_9.out.mono B_g1.out.size))).mono ?_
          rintro e Xgdg2_10 ⟨rfl, hb⟩
          have Sgdg2_10 := Lib.hid (Sgdg2_9.out.trans (hb.mono Sgdg2_9.out.size))
          clear hb Sgdg2_9
          refine hK _ _ Sgdg2_10.out (fun _ => ?_)
          clear hK K
          try simp only [Act.put, List.setIfInBounds_toArray, List.set_cons_zero, List.set_cons_succ]
          refine wpAnyH_take (i := 10) (oi := ⟨some 19, _, _, _, _, _⟩) (v := ?vgdg2_11) rfl (by kernel_rfl) (by kernel_rfl) (by kernel_rfl) (fun _ _ _ h => h) (Or.inl ⟨by rfl, ?ygdg2_11⟩) Sgdg2_10.out ?rgdg2_11
          case ygdg2_11 =>
            rintro w' hSw
            go_simp
            try with_reducible rfl
          try simp only [Act.put, List.setIfInBounds_toArray, List.set_cons_zero, List.set_cons_succ]
          refine wpAnyH_ready (rs := [11]) (by kernel_rfl) (by simp) ?_
          refine (AllReadyH.cons rfl (fun K hK => ?_) AllReadyH.nil)
          rw [if_pos (by rfl)]
          go_simp
          have hr := Lib.hid (row_last Xgdg2_10 Xgdg2_10.heap.size 30 [.int .u32 0, .int .u64 0, .int .u64 0, .int .i64 0, .int .i64 0, .int .i64 0, .int .i64 0, .int .i64 0] rfl)
          have Sgdg2_12 := Lib.hid (Sgdg2_10.out.alloc Sgdg2_10.out.size (.cells #[.int .u32 0, .int .u64 0, .int .u64 0, .int .i64 0, .int .i64 0, .int .i64 0, .int .i64 0, .int .i64 0] 30))
          obtain ⟨gRTgdg2_12, hgRTgdg2_12⟩ : ∃ g, g = Xgdg2_10.heap.size := ⟨_, rfl⟩
          have ngRTgdg2_12 : Vg1.heap.size ≤ gRTgdg2_12 := by rw [hgRTgdg2_12]; exact Sgdg2_10.out.size
          rw [← hgRTgdg2_12] at hr ⊢
          have RTngdg2_12 := hr
          clear hr hgRTgdg2_12 Sgdg2_10 
          generalize Xgdg2_10.alloc (.cells #[.int .u32 0, .int .u64 0, .int .u64 0, .int .i64 0, .int .i64 0, .int .i64 0, .int .i64 0, .int .i64 0] 30) = Xgdg2_12 at Sgdg2_12 RTngdg2_12 ⊢
          refine hK _ _ Sgdg2_12.out (fun _ => ?_)
          clear hK K
          try simp only [Act.put, List.setIfInBounds_toArray, List.set_cons_zero, List.set_cons_succ]
          refine wpAnyH_ready (rs := [12]) (by kernel_rfl) (by simp) ?_
          refine (AllReadyH.cons rfl (fun K hK => ?_) AllReadyH.nil)
          have f0 := RTngdg2_12.out.frozen 0
          have k0 := RTngdg2_12.out.cell 0
          have f1 := RTngdg2_12.out.frozen 1
          have k1 := RTngdg2_12.out.cell 1
          have f2 := RTngdg2_12.out.frozen 2
          have k2 := RTngdg2_12.out.cell 2
          have f3 := RTngdg2_12.out.frozen 3
          have k3 := RTngdg2_12.out.cell 3
          have f4 := RTngdg2_12.out.frozen 4
          have k4 := RTngdg2_12.out.cell 4
          have f5 := RTngdg2_12.out.frozen 5
          have k5 := RTngdg2_12.out.cell 5
          have f6 := RTngdg2_12.out.frozen 6
          have k6 := RTngdg2_12.out.cell 6
          have f7 := RTngdg2_12.out.frozen 7
          have k7 := RTngdg2_12.out.cell 7
          simp only [List.getElem?_cons_zero, List.getElem?_cons_succ] at k0 k1 k2 k3 k4 k5 k6 k7
          rw [if_pos (by rfl)]
          go_simp
          clear f0 k0 f1 k1 f2 k2 f3 k3 f4 k4 f5 k5 f6 k6 f7 k7
          have RTsgdg2_13 : Hid (Row ((((((((Xgdg2_12.setCell ⟨gRTgdg2_12, 0, none⟩ (.int .u32 (r : Int))).setCell ⟨gRTgdg2_12, 1, none⟩ (.int .u64 (a : Int))).setCell ⟨gRTgdg2_12, 2, none⟩ (.int .u64 (b : Int))).setCell ⟨gRTgdg2_12, 3, none⟩ (.int .i64 0)).setCell ⟨gRTgdg2_12, 4, none⟩ (.int .i64 0)).setCell ⟨gRTgdg2_12, 5, none⟩ (.int .i64 0)).setCell ⟨gRTgdg2_12, 6, none⟩ (.int .i64 0)).setCell ⟨gRTgdg2_12, 7, none⟩ (.int .i64 0)) gRTgdg2_12 30 [.int .u32 (r : Int), .int .u64 (a : Int), .int .u64 (b : Int), .int .i64 0, .int .i64 0, .int .i64 0, .int .i64 0, .int .i64 0]) := Lib.hid ((((((((RTngdg2_12.out.store 0 (.int .u32 (r : Int))).store 1 (.int .u64 (a : Int))).store 2 (.int .u64 (b : Int))).store 3 (.int .i64 0)).store 4 (.int .i64 0)).store 5 (.int .i64 0)).store 6 (.int .i64 0)).store 7 (.int .i64 0))
          have Sgdg2_13 := Lib.hid ((((((((Sgdg2_12.out.setCell (p := ⟨gRTgdg2_12, 0, none⟩) (by dsimp only; omega) (.int .u32 (r : Int))).setCell (p := ⟨gRTgdg2_12, 1, none⟩) (by dsimp only; omega) (.int .u64 (a : Int))).setCell (p := ⟨gRTgdg2_12, 2, none⟩) (by dsimp only; omega) (.int .u64 (b : Int))).setCell (p := ⟨gRTgdg2_12, 3, none⟩) (by dsimp only; omega) (.int .i64 0)).setCell (p := ⟨gRTgdg2_12, 4, none⟩) (by dsimp only; omega) (.int .i64 0)).setCell (p := ⟨gRTgdg2_12, 5, none⟩) (by dsimp only; omega) (.int .i64 0)).setCell (p := ⟨gRTgdg2_12, 6, none⟩) (by dsimp only; omega) (.int .i64 0)).setCell (p := ⟨gRTgdg2_12, 7, none⟩) (by dsimp only; omega) (.int .i64 0))
          clear Sgdg2_12 RTngdg2_12
          generalize ((((((((Xgdg2_12.setCell ⟨gRTgdg2_12, 0, none⟩ (.int .u32 (r : Int))).setCell ⟨gRTgdg2_12, 1, none⟩ (.int .u64 (a : Int))).setCell ⟨gRTgdg2_12, 2, none⟩ (.int .u64 (b : Int))).setCell ⟨gRTgdg2_12, 3, none⟩ (.int .i64 0)).setCell ⟨gRTgdg2_12, 4, none⟩ (.int .i64 0)).setCell ⟨gRTgdg2_12, 5, none⟩ (.int .i64 0)).setCell ⟨gRTgdg2_12, 6, none⟩ (.int .i64 0)).setCell ⟨gRTgdg2_12, 7, none⟩ (.int .i64 0)) = Xgdg2_13 at Sgdg2_13 RTsgdg2_13 ⊢
          refine hK _ _ Sgdg2_13.out (fun _ => ?_)
          clear hK K
          try simp only [Act.put, List.setIfInBounds_toArray, List.set_cons_zero, List.set_cons_succ]
          refine wpAnyH_done (by kernel_rfl) ?_ _
          go_wp2_with fail
          go_meet
          exact ⟨gRTgdg2_12, rfl, RTsgdg2_13.out, ngRTgdg2_12, Sgdg2_13.out⟩
        · rw [if_pos (by rfl)]
          go_simp
          have hr := Lib.hid (row_last Xgdg2_9 Xgdg2_9.heap.size 30 [.int .u32 0, .int .u64 0, .int .u64 0, .int .i64 0, .int .i64 0, .int .i64 0, .int .i64 0, .int .i64 0] rfl)
          have Sgdg2_14 := Lib.hid (Sgdg2_9.out.alloc Sgdg2_9.out.size (.cells #[.int .u32 0, .int .u64 0, .int .u64 0, .int .i64 0, .int .i64 0, .int .i64 0, .int .i64 0, .int .i64 0] 30))
          obtain ⟨gRTgdg2_14, hgRTgdg2_14⟩ : ∃ g, g = Xgdg2_9.heap.size := ⟨_, rfl⟩
          have ngRTgdg2_14 : Vg1.heap.size ≤ gRTgdg2_14 := by rw [hgRTgdg2_14]; exact Sgdg2_9.out.size
          rw [← hgRTgdg2_14] at hr ⊢
          have RTngdg2_14 := hr
          clear hr hgRTgdg2_14 Sgdg2_9 
          generalize Xgdg2_9.alloc (.cells #[.int .u32 0, .int .u64 0, .int .u64 0, .int .i64 0, .int .i64 0, .int .i64 0, .int .i64 0, .int .i64 0] 30) = Xgdg2_14 at Sgdg2_14 RTngdg2_14 ⊢
          refine hK _ _ Sgdg2_14.out (fun _ => ?_)
          clear hK K
          try simp only [Act.put, List.setIfInBounds_toArray, List.set_cons_zero, List.set_cons_succ]
          refine wpAnyH_ready (rs := [9]) (by kernel_rfl) (by simp) ?_
          refine (AllReadyH.cons rfl (fun K hK => ?_) AllReadyH.nil)
          go_simp
          refine (H2.out _ (B_g1.out.trans (Sgdg2_14.out.mono B_g1.out.size))).mono ?_
          rintro e Xgdg2_15 ⟨rfl, hb⟩
          have Sgdg2_15 := Lib.hid (Sgdg2_14.out.trans (hb.mono Sgdg2_14.out.size))
          have RTcgdg2_15 := Lib.hid (RTngdg2_14.out.below hb RTngdg2_14.out.lt)
          clear hb Sgdg2_14 RTngdg2_14
          refine hK _ _ Sgdg2_15.out (fun _ => ?_)
          clear hK K
          try simp only [Act.put, List.setIfInBounds_toArray, List.set_cons_zero, List.set_cons_succ]
          refine wpAnyH_take (i := 10) (oi := ⟨some 19, _, _, _, _, _⟩) (v := ?vgdg2_16) rfl (by kernel_rfl) (by kernel_rfl) (by kernel_rfl) (fun _ _ _ h => h) (Or.inl ⟨by rfl, ?ygdg2_16⟩) Sgdg2_15.out ?rgdg2_16
          case ygdg2_16 =>
            rintro w' hSw
            go_simp
            try with_reducible rfl
          try simp only [Act.put, List.setIfInBounds_toArray, List.set_cons_zero, List.set_cons_succ]
          refine wpAnyH_ready (rs := [12]) (by kernel_rfl) (by simp) ?_
          refine (AllReadyH.cons rfl (fun K hK => ?_) AllReadyH.nil)
          have f0 := RTcgdg2_15.out.frozen 0
          have k0 := RTcgdg2_15.out.cell 0
          have f1 := RTcgdg2_15.out.frozen 1
          have k1 := RTcgdg2_15.out.cell 1
          have f2 := RTcgdg2_15.out.frozen 2
          have k2 := RTcgdg2_15.out.cell 2
          have f3 := RTcgdg2_15.out.frozen 3
          have k3 := RTcgdg2_15.out.cell 3
          have f4 := RTcgdg2_15.out.frozen 4
          have k4 := RTcgdg2_15.out.cell 4
          have f5 := RTcgdg2_15.out.frozen 5
          have k5 := RTcgdg2_15.out.cell 5
          have f6 := RTcgdg2_15.out.frozen 6
          have k6 := RTcgdg2_15.out.cell 6
          have f7 := RTcgdg2_15.out.frozen 7
          have k7 := RTcgdg2_15.out.cell 7
          simp only [List.getElem?_cons_zero, List.getElem?_cons_succ] at k0 k1 k2 k3 k4 k5 k6 k7
          rw [if_pos (by rfl)]
          go_simp
          clear f0 k0 f1 k1 f2 k2 f3 k3 f4 k4 f5 k5 f6 k6 f7 k7
          have RTsgdg2_17 : Hid (Row ((((((((Xgdg2_15.setCell ⟨gRTgdg2_14, 0, none⟩ (.int .u32 (r : Int))).setCell ⟨gRTgdg2_14, 1, none⟩ (.int .u64 (a : Int))).setCell ⟨gRTgdg2_14, 2, none⟩ (.int .u64 (b : Int))).setCell ⟨gRTgdg2_14, 3, none⟩ (.int .i64 0)).setCell ⟨gRTgdg2_14, 4, none⟩ (.int .i64 0)).setCell ⟨gRTgdg2_14, 5, none⟩ (.int .i64 0)).setCell ⟨gRTgdg2_14, 6, none⟩ (.int .i64 0)).setCell ⟨gRTgdg2_14, 7, none⟩ (.int .i64 0)) gRTgdg2_14 30 [.int .u32 (r : Int), .int .u64 (a : Int), .int .u64 (b : Int), .int .i64 0, .int .i64 0, .int .i64 0, .int .i64 0, .int .i64 0]) := Lib.hid ((((((((RTcgdg2_15.out.store 0 (.int .u32 (r : Int))).store 1 (.int .u64 (a : Int))).store 2 (.int .u64 (b : Int))).store 3 (.int .i64 0)).store 4 (.int .i64 0)).store 5 (.int .i64 0)).store 6 (.int .i64 0)).store 7 (.int .i64 0))
          have Sgdg2_17 := Lib.hid ((((((((Sgdg2_15.out.setCell (p := ⟨gRTgdg2_14, 0, none⟩) (by dsimp only; omega) (.int .u32 (r : Int))).setCell (p := ⟨gRTgdg2_14, 1, none⟩) (by dsimp only; omega) (.int .u64 (a : Int))).setCell (p := ⟨gRTgdg2_14, 2, none⟩) (by dsimp only; omega) (.int .u64 (b : Int))).setCell (p := ⟨gRTgdg2_14, 3, none⟩) (by dsimp only; omega) (.int .i64 0)).setCell (p := ⟨gRTgdg2_14, 4, none⟩) (by dsimp only; omega) (.int .i64 0)).setCell (p := ⟨gRTgdg2_14, 5, none⟩) (by dsimp only; omega) (.int .i64 0)).setCell (p := ⟨gRTgdg2_14, 6, none⟩) (by dsimp only; omega) (.int .i64 0)).setCell (p := ⟨gRTgdg2_14, 7, none⟩) (by dsimp only; omega) (.int .i64 0))
          clear Sgdg2_15 RTcgdg2_15
          generalize ((((((((Xgdg2_15.setCell ⟨gRTgdg2_14, 0, none⟩ (.int .u32 (r : Int))).setCell ⟨gRTgdg2_14, 1, none⟩ (.int .u64 (a : Int))).setCell ⟨gRTgdg2_14, 2, none⟩ (.int .u64 (b : Int))).setCell ⟨gRTgdg2_14, 3, none⟩ (.int .i64 0)).setCell ⟨gRTgdg2_14, 4, none⟩ (.int .i64 0)).setCell ⟨gRTgdg2_14, 5, none⟩ (.int .i64 0)).setCell ⟨gRTgdg2_14, 6, none⟩ (.int .i64 0)).setCell ⟨gRTgdg2_14, 7, none⟩ (.int .i64 0)) = Xgdg2_17 at Sgdg2_17 RTsgdg2_17 ⊢
          refine hK _ _ Sgdg2_17.out (fun _ => ?_)
          clear hK K
          try simp only [Act.put, List.setIfInBounds_toArray, List.set_cons_zero, List.set_cons_succ]
          refine wpAnyH_done (by kernel_rfl) ?_ _
          go_wp2_with fail
          go_meet
          exact ⟨gRTgdg2_14, rfl, RTsgdg2_17.out, ngRTgdg2_14, Sgdg2_17.out⟩
      · rw [if_pos (by rfl)]
        go_simp
        have hr := Lib.hid (row_last Xgdg2_7 Xgdg2_7.heap.size 30 [.int .u32 0, .int .u64 0, .int .u64 0, .int .i64 0, .int .i64 0, .int .i64 0, .int .i64 0, .int .i64 0] rfl)
        have Sgdg2_18 := Lib.hid (Sgdg2_7.out.alloc Sgdg2_7.out.size (.cells #[.int .u32 0, .int .u64 0, .int .u64 0, .int .i64 0, .int .i64 0, .int .i64 0, .int .i64 0, .int .i64 0] 30))
        obtain ⟨gRTgdg2_18, hgRTgdg2_18⟩ : ∃ g, g = Xgdg2_7.heap.size := ⟨_, rfl⟩
        have ngRTgdg2_18 : Vg1.heap.size ≤ gRTgdg2_18 := by rw [hgRTgdg2_18]; exact Sgdg2_7.out.size
        rw [← hgRTgdg2_18] at hr ⊢
        have RTngdg2_18 := hr
        clear hr hgRTgdg2_18 Sgdg2_7 
        generalize Xgdg2_7.alloc (.cells #[.int .u32 0, .int .u64 0, .int .u64 0, .int .i64 0, .int .i64 0, .int .i64 0, .int .i64 0, .int .i64 0] 30) = Xgdg2_18 at Sgdg2_18 RTngdg2_18 ⊢
        refine hK _ _ Sgdg2_18.out (fun _ => ?_)
        clear hK K
        try simp only [Act.put, List.setIfInBounds_toArray, List.set_cons_zero, List.set_cons_succ]
        refine wpAnyH_ready (rs := [6]) (by kernel_rfl) (by simp) ?_
        refine (AllReadyH.cons rfl (fun K hK => ?_) AllReadyH.nil)
        go_simp
        refine (H1.out _ (B_g1.out.trans (Sgdg2_18.out.mono B_g1.out.size))).mono ?_
        rintro e Xgdg2_19 ⟨rfl, hb⟩
        have Sgdg2_19 := Lib.hid (Sgdg2_18.out.trans (hb.mono Sgdg2_18.out.size))
        have RTcgdg2_19 := Lib.hid (RTngdg2_18.out.below hb RTngdg2_18.out.lt)
        clear hb Sgdg2_18 RTngdg2_18
        refine hK _ _ Sgdg2_19.out (fun _ => ?_)
        clear hK K
        try simp only [Act.put, List.setIfInBounds_toArray, List.set_cons_zero, List.set_cons_succ]
        refine wpAnyH_ready (rs := [9]) (by kernel_rfl) (by simp) ?_
        refine (AllReadyH.cons rfl (fun K hK => ?_) AllReadyH.nil)
        go_simp
        refine (H2.out _ (B_g1.out.trans (Sgdg2_19.out.mono B_g1.out.size))).mono ?_
        rintro e Xgdg2_20 ⟨rfl, hb⟩
        have Sgdg2_20 := Lib.hid (Sgdg2_19.out.trans (hb.mono Sgdg2_19.out.size))
        have RTcgdg2_20 := Lib.hid (RTcgdg2_19.out.below hb RTcgdg2_19.out.lt)
        clear hb Sgdg2_19 RTcgdg2_19
        refine hK _ _ Sgdg2_20.out (fun _ => ?_)
        clear hK K
        try simp only [Act.put, List.setIfInBounds_toArray, List.set_cons_zero, List.set_cons_succ]
        refine wpAnyH_take (i := 10) (oi := ⟨some 19, _, _, _, _, _⟩) (v := ?vgdg2_21) rfl (by kernel_rfl) (by kernel_rfl) (by kernel_rfl) (fun _ _ _ h => h) (Or.inl ⟨by rfl, ?ygdg2_21⟩) Sgdg2_20.out ?rgdg2_21
        case ygdg2_21 =>
          rintro w' hSw
          go_simp
          try with_reducible rfl
        try simp only [Act.put, List.setIfInBounds_toArray, List.set_cons_zero, List.set_cons_succ]
        refine wpAnyH_ready (rs := [12]) (by kernel_rfl) (by simp) ?_
        refine (AllReadyH.cons rfl (fun K hK => ?_) AllReadyH.nil)
        have f0 := RTcgdg2_20.out.frozen 0
        have k0 := RTcgdg2_20.out.cell 0
        have f1 := RTcgdg2_20.out.frozen 1
        have k1 := RTcgdg2_20.out.cell 1
        have f2 := RTcgdg2_20.out.frozen 2
        have k2 := RTcgdg2_20.out.cell 2
        have f3 := RTcgdg2_20.out.frozen 3
        have k3 := RTcgdg2_20.out.cell 3
        have f4 := RTcgdg2_20.out.frozen 4
        have k4 := RTcgdg2_20.out.cell 4
        have f5 := RTcgdg2_20.out.frozen 5
        have k5 := RTcgdg2_20.out.cell 5
        have f6 := RTcgdg2_20.out.frozen 6
        have k6 := RTcgdg2_20.out.cell 6
        have f7 := RTcgdg2_20.out.frozen 7
        have k7 := RTcgdg2_20.out.cell 7
        simp only [List.getElem?_cons_zero, List.getElem?_cons_succ] at k0 k1 k2 k3 k4 k5 k6 k7
        rw [if_pos (by rfl)]
        go_simp
        clear f0 k0 f1 k1 f2 k2 f3 k3 f4 k4 f5 k5 f6 k6 f7 k7
        have RTsgdg2_22 : Hid (Row ((((((((Xgdg2_20.setCell ⟨gRTgdg2_18, 0, none⟩ (.int .u32 (r : Int))).setCell ⟨gRTgdg2_18, 1, none⟩ (.int .u64 (a : Int))).setCell ⟨gRTgdg2_18, 2, none⟩ (.int .u64 (b : Int))).setCell ⟨gRTgdg2_18, 3, none⟩ (.int .i64 0)).setCell ⟨gRTgdg2_18, 4, none⟩ (.int .i64 0)).setCell ⟨gRTgdg2_18, 5, none⟩ (.int .i64 0)).setCell ⟨gRTgdg2_18, 6, none⟩ (.int .i64 0)).setCell ⟨gRTgdg2_18, 7, none⟩ (.int .i64 0)) gRTgdg2_18 30 [.int .u32 (r : Int), .int .u64 (a : Int), .int .u64 (b : Int), .int .i64 0, .int .i64 0, .int .i64 0, .int .i64 0, .int .i64 0]) := Lib.hid ((((((((RTcgdg2_20.out.store 0 (.int .u32 (r : Int))).store 1 (.int .u64 (a : Int))).store 2 (.int .u64 (b : Int))).store 3 (.int .i64 0)).store 4 (.int .i64 0)).store 5 (.int .i64 0)).store 6 (.int .i64 0)).store 7 (.int .i64 0))
        have Sgdg2_22 := Lib.hid ((((((((Sgdg2_20.out.setCell (p := ⟨gRTgdg2_18, 0, none⟩) (by dsimp only; omega) (.int .u32 (r : Int))).setCell (p := ⟨gRTgdg2_18, 1, none⟩) (by dsimp only; omega) (.int .u64 (a : Int))).setCell (p := ⟨gRTgdg2_18, 2, none⟩) (by dsimp only; omega) (.int .u64 (b : Int))).setCell (p := ⟨gRTgdg2_18, 3, none⟩) (by dsimp only; omega) (.int .i64 0)).setCell (p := ⟨gRTgdg2_18, 4, none⟩) (by dsimp only; omega) (.int .i64 0)).setCell (p := ⟨gRTgdg2_18, 5, none⟩) (by dsimp only; omega) (.int .i64 0)).setCell (p := ⟨gRTgdg2_18, 6, none⟩) (by dsimp only; omega) (.int .i64 0)).setCell (p := ⟨gRTgdg2_18, 7, none⟩) (by dsimp only; omega) (.int .i64 0))
        clear Sgdg2_20 RTcgdg2_20
        generalize ((((((((Xgdg2_20.setCell ⟨gRTgdg2_18, 0, none⟩ (.int .u32 (r : Int))).setCell ⟨gRTgdg2_18, 1, none⟩ (.int .u64 (a : Int))).setCell ⟨gRTgdg2_18, 2, none⟩ (.int .u64 (b : Int))).setCell ⟨gRTgdg2_18, 3, none⟩ (.int .i64 0)).setCell ⟨gRTgdg2_18, 4, none⟩ (.int .i64 0)).setCell ⟨gRTgdg2_18, 5, none⟩ (.int .i64 0)).setCell ⟨gRTgdg2_18, 6, none⟩ (.int .i64 0)).setCell ⟨gRTgdg2_18, 7, none⟩ (.int .i64 0)) = Xgdg2_22 at Sgdg2_22 RTsgdg2_22 ⊢
        refine hK _ _ Sgdg2_22.out (fun _ => ?_)
        clear hK K
        try simp only [Act.put, List.setIfInBounds_toArray, List.set_cons_zero, List.set_cons_succ]
        refine wpAnyH_done (by kernel_rfl) ?_ _
        go_wp2_with fail
        go_meet
        exact ⟨gRTgdg2_18, rfl, RTsgdg2_22.out, ngRTgdg2_18, Sgdg2_22.out⟩
    · rw [if_pos (by rfl)]
      go_simp
      have hr := Lib.hid (row_last Dg2 Dg2.heap.size 30 [.int .u32 0, .int .u64 0, .int .u64 0, .int .i64 0, .int .i64 0, .int .i64 0, .int .i64 0, .int .i64 0] rfl)
      have Sgdg2_23 := Lib.hid (S_g2.out.alloc S_g2.out.size (.cells #[.int .u32 0, .int .u64 0, .int .u64 0, .int .i64 0, .int .i64 0, .int .i64 0, .int .i64 0, .int .i64 0] 30))
      obtain ⟨gRTgdg2_23, hgRTgdg2_23⟩ : ∃ g, g = Dg2.heap.size := ⟨_, rfl⟩
      have ngRTgdg2_23 : Vg1.heap.size ≤ gRTgdg2_23 := by rw [hgRTgdg2_23]; exact S_g2.out.size
      rw [← hgRTgdg2_23] at hr ⊢
      have RTngdg2_23 := hr
      clear hr hgRTgdg2_23 S_g2 
      generalize Dg2.alloc (.cells #[.int .u32 0, .int .u64 0, .int .u64 0, .int .i64 0, .int .i64 0, .int .i64 0, .int .i64 0, .int .i64 0] 30) = Xgdg2_23 at Sgdg2_23 RTngdg2_23 ⊢
      refine hK _ _ Sgdg2_23.out (fun _ => ?_)
      clear hK K
      try simp only [Act.put, List.setIfInBounds_toArray, List.set_cons_zero, List.set_cons_succ]
      refine wpAnyH_ready (rs := [2]) (by kernel_rfl) (by simp) ?_
      refine (AllReadyH.cons rfl (fun K hK => ?_) AllReadyH.nil)
      go_simp
      refine (H0.out _ (B_g1.out.trans (Sgdg2_23.out.mono B_g1.out.size))).mono ?_
      rintro e Xgdg2_24 ⟨rfl, hb⟩
      have Sgdg2_24 := Lib.hid (Sgdg2_23.out.trans (hb.mono Sgdg2_23.out.size))
      have RTcgdg2_24 := Lib.hid (RTngdg2_23.out.below hb RTngdg2_23.out.lt)
      clear hb Sgdg2_23 RTngdg2_23
      refine hK _ _ Sgdg2_24.out (fun _ => ?_)
      clear hK K
      try simp only [Act.put, List.setIfInBounds_toArray, List.set_cons_zero, List.set_cons_succ]
      refine wpAnyH_take (i := 3) (oi := ⟨some 12, _, _, _, _, _⟩) (v := ?vgdg2_25) rfl (by kernel_rfl) (by kernel_rfl) (by kernel_rfl) (fun _ _ _ h => h) (Or.inl ⟨by rfl, ?ygdg2_25⟩) Sgdg2_24.out ?rgdg2_25
      case ygdg2_25 =>
        rintro w' hSw
        go_simp
        try with_reducible rfl
      try simp only [Act.put, List.setIfInBounds_toArray, List.set_cons_zero, List.set_cons_succ]
      refine wpAnyH_ready (rs := [6]) (by kernel_rfl) (by simp) ?_
      refine (AllReadyH.cons rfl (fun K hK => ?_) AllReadyH.nil)
      go_simp
      refine (H1.out _ (B_g1.out.trans (Sgdg2_24.out.mono B_g1.out.size))).mono ?_
      rintro e Xgdg2_26 ⟨rfl, hb⟩
      have Sgdg2_26 := Lib.hid (Sgdg2_24.out.trans (hb.mono Sgdg2_24.out.size))
      have RTcgdg2_26 := Lib.hid (RTcgdg2_24.out.below hb RTcgdg2_24.out.lt)
      clear hb Sgdg2_24 RTcgdg2_24
      refine hK _ _ Sgdg2_26.out (fun _ => ?_)
      clear hK K
      try simp only [Act.put, List.setIfInBounds_toArray, List.set_cons_zero, List.set_cons_succ]
      refine wpAnyH_ready (rs := [9]) (by kernel_rfl) (by simp) ?_
      refine (AllReadyH.cons rfl (fun K hK => ?_) AllReadyH.nil)
      go_simp
      refine (H2.out _ (B_g1.out.trans (Sgdg2_26.out.mono B_g1.out.size))).mono ?_
      rintro e Xgdg2_27 ⟨rfl, hb⟩
      have Sgdg2_27 := Lib.hid (Sgdg2_26.out.trans (hb.mono Sgdg2_26.out.size))
      have RTcgdg2_27 := Lib.hid (RTcgdg2_26.out.below hb RTcgdg2_26.out.lt)
      clear hb Sgdg2_26 RTcgdg2_26
      refine hK _ _ Sgdg2_27.out (fun _ => ?_)
      clear hK K
      try simp only [Act.put, List.setIfInBounds_toArray, List.set_cons_zero, List.set_cons_succ]
      refine wpAnyH_take (i := 10) (oi := ⟨some 19, _, _, _, _, _⟩) (v := ?vgdg2_28) rfl (by kernel_rfl) (by kernel_rfl) (by kernel_rfl) (fun _ _ _ h => h) (Or.inl ⟨by rfl, ?ygdg2_28⟩) Sgdg2_27.out ?rgdg2_28
      case ygdg2_28 =>
        rintro w' hSw
        go_simp
        try with_reducible rfl
      try simp only [Act.put, List.setIfInBounds_toArray, List.set_cons_zero, List.set_cons_succ]
      refine wpAnyH_ready (rs := [12]) (by kernel_rfl) (by simp) ?_
      refine (AllReadyH.cons rfl (fun K hK => ?_) AllReadyH.nil)
      have f0 := RTcgdg2_27.out.frozen 0
      have k0 := RTcgdg2_27.out.cell 0
      have f1 := RTcgdg2_27.out.frozen 1
      have k1 := RTcgdg2_27.out.cell 1
      have f2 := RTcgdg2_27.out.frozen 2
      have k2 := RTcgdg2_27.out.cell 2
      have f3 := RTcgdg2_27.out.frozen 3
      have k3 := RTcgdg2_27.out.cell 3
      have f4 := RTcgdg2_27.out.frozen 4
      have k4 := RTcgdg2_27.out.cell 4
      have f5 := RTcgdg2_27.out.frozen 5
      have k5 := RTcgdg2_27.out.cell 5
      have f6 := RTcgdg2_27.out.frozen 6
      have k6 := RTcgdg2_27.out.cell 6
      have f7 := RTcgdg2_27.out.frozen 7
      have k7 := RTcgdg2_27.out.cell 7
      simp only [List.getElem?_cons_zero, List.getElem?_cons_succ] at k0 k1 k2 k3 k4 k5 k6 k7
      rw [if_pos (by rfl)]
      go_simp
      clear f0 k0 f1 k1 f2 k2 f3 k3 f4 k4 f5 k5 f6 k6 f7 k7
      have RTsgdg2_29 : Hid (Row ((((((((Xgdg2_27.setCell ⟨gRTgdg2_23, 0, none⟩ (.int .u32 (r : Int))).setCell ⟨gRTgdg2_23, 1, none⟩ (.int .u64 (a : Int))).setCell ⟨gRTgdg2_23, 2, none⟩ (.int .u64 (b : Int))).setCell ⟨gRTgdg2_23, 3, none⟩ (.int .i64 0)).setCell ⟨gRTgdg2_23, 4, none⟩ (.int .i64 0)).setCell ⟨gRTgdg2_23, 5, none⟩ (.int .i64 0)).setCell ⟨gRTgdg2_23, 6, none⟩ (.int .i64 0)).setCell ⟨gRTgdg2_23, 7, none⟩ (.int .i64 0)) gRTgdg2_23 30 [.int .u32 (r : Int), .int .u64 (a : Int), .int .u64 (b : Int), .int .i64 0, .int .i64 0, .int .i64 0, .int .i64 0, .int .i64 0]) := Lib.hid ((((((((RTcgdg2_27.out.store 0 (.int .u32 (r : Int))).store 1 (.int .u64 (a : Int))).store 2 (.int .u64 (b : Int))).store 3 (.int .i64 0)).store 4 (.int .i64 0)).store 5 (.int .i64 0)).store 6 (.int .i64 0)).store 7 (.int .i64 0))
      have Sgdg2_29 := Lib.hid ((((((((Sgdg2_27.out.setCell (p := ⟨gRTgdg2_23, 0, none⟩) (by dsimp only; omega) (.int .u32 (r : Int))).setCell (p := ⟨gRTgdg2_23, 1, none⟩) (by dsimp only; omega) (.int .u64 (a : Int))).setCell (p := ⟨gRTgdg2_23, 2, none⟩) (by dsimp only; omega) (.int .u64 (b : Int))).setCell (p := ⟨gRTgdg2_23, 3, none⟩) (by dsimp only; omega) (.int .i64 0)).setCell (p := ⟨gRTgdg2_23, 4, none⟩) (by dsimp only; omega) (.int .i64 0)).setCell (p := ⟨gRTgdg2_23, 5, none⟩) (by dsimp only; omega) (.int .i64 0)).setCell (p := ⟨gRTgdg2_23, 6, none⟩) (by dsimp only; omega) (.int .i64 0)).setCell (p := ⟨gRTgdg2_23, 7, none⟩) (by dsimp only; omega) (.int .i64 0))
      clear Sgdg2_27 RTcgdg2_27
      generalize ((((((((Xgdg2_27.setCell ⟨gRTgdg2_23, 0, none⟩ (.int .u32 (r : Int))).setCell ⟨gRTgdg2_23, 1, none⟩ (.int .u64 (a : Int))).setCell ⟨gRTgdg2_23, 2, none⟩ (.int .u64 (b : Int))).setCell ⟨gRTgdg2_23, 3, none⟩ (.int .i64 0)).setCell ⟨gRTgdg2_23, 4, none⟩ (.int .i64 0)).setCell ⟨gRTgdg2_23, 5, none⟩ (.int .i64 0)).setCell ⟨gRTgdg2_23, 6, none⟩ (.int .i64 0)).setCell ⟨gRTgdg2_23, 7, none⟩ (.int .i64 0)) = Xgdg2_29 at Sgdg2_29 RTsgdg2_29 ⊢
      refine hK _ _ Sgdg2_29.out (fun _ => ?_)
      clear hK K
      try simp only [Act.put, List.setIfInBounds_toArray, List.set_cons_zero, List.set_cons_succ]
      refine wpAnyH_done (by kernel_rfl) ?_ _
      go_wp2_with fail
      go_meet
      exact ⟨gRTgdg2_23, rfl, RTsgdg2_29.out, ngRTgdg2_23, Sgdg2_29.out⟩
  case rest =>
    rename World => Wcg2
    obtain ⟨gRT_g2, rfl, hrow, hge, hb⟩ := hcut
    have RT_g2 := Lib.hid hrow
    clear hrow
    have hdg2_0 : w.heap.size < gRT_g2 := Nat.lt_of_lt_of_le RZ_g1.out.lt hge
    have RZ_g4 := Lib.hid (RZ_g1.out.below hb RZ_g1.out.lt)
    have B_g4 := Lib.hid (B_g1.out.trans (hb.mono B_g1.out.size))
    clear hb RZ_g1 B_g1
    go_wp2_with fail
    refine wp_region_held_drew (S := fun w' => Below w.heap.size w w') (by kernel_rfl) B_g4.out.drew (fun hHeld => ?_)
    clear hHeld
    have RZ_g5 := Lib.hid RZ_g4.out.drew
    have RT_g5 := Lib.hid RT_g2.out.drew
    have B_g5 := Lib.hid B_g4.out.drew
    clear RZ_g4 RT_g2 B_g4
    generalize Wcg2.drew = Dg5 at RZ_g5 RT_g5 B_g5 ⊢
    refine wpAnyH_take (i := 0) (oi := ⟨some 20, _, _, _, _, _⟩) (v := ?vgrg5_1) rfl (by kernel_rfl) (by kernel_rfl) (by kernel_rfl) (fun _ _ _ h => h) (Or.inl ⟨by rfl, ?ygrg5_1⟩) B_g5.out ?rgrg5_1
    case ygrg5_1 =>
      rintro w' hSw
      go_simp
      try with_reducible rfl
    try simp only [Act.put, List.setIfInBounds_toArray, List.set_cons_zero, List.set_cons_succ]
    refine wpAnyH_take (i := 1) (oi := ⟨some 21, _, _, _, _, _⟩) (v := ?vgrg5_2) rfl (by kernel_rfl) (by kernel_rfl) (by kernel_rfl) (fun _ _ _ h => h) (Or.inl ⟨by rfl, ?ygrg5_2⟩) B_g5.out ?rgrg5_2
    case ygrg5_2 =>
      rintro w' hSw
      go_simp
      try with_reducible rfl
    try simp only [Act.put, List.setIfInBounds_toArray, List.set_cons_zero, List.set_cons_succ]
    refine wpAnyH_take (i := 4) (oi := ⟨some 24, _, _, _, _, _⟩) (v := ?vgrg5_3) rfl (by kernel_rfl) (by kernel_rfl) (by kernel_rfl) (fun _ _ _ h => h) (Or.inl ⟨by rfl, ?ygrg5_3⟩) B_g5.out ?rgrg5_3
    case ygrg5_3 =>
      rintro w' hSw
      go_simp
      try with_reducible rfl
    try simp only [Act.put, List.setIfInBounds_toArray, List.set_cons_zero, List.set_cons_succ]
    refine wpAnyH_take (i := 5) (oi := ⟨some 25, _, _, _, _, _⟩) (v := ?vgrg5_4) rfl (by kernel_rfl) (by kernel_rfl) (by kernel_rfl) (fun _ _ _ h => h) (Or.inl ⟨by rfl, ?ygrg5_4⟩) B_g5.out ?rgrg5_4
    case ygrg5_4 =>
      rintro w' hSw
      go_simp
      try with_reducible rfl
    try simp only [Act.put, List.setIfInBounds_toArray, List.set_cons_zero, List.set_cons_succ]
    refine wpAnyH_take (i := 8) (oi := ⟨some 28, _, _, _, _, _⟩) (v := ?vgrg5_5) rfl (by kernel_rfl) (by kernel_rfl) (by kernel_rfl) (fun _ _ _ h => h) (Or.inl ⟨by rfl, ?ygrg5_5⟩) B_g5.out ?rgrg5_5
    case ygrg5_5 =>
      rintro w' hSw
      go_simp
      try with_reducible rfl
    try simp only [Act.put, List.setIfInBounds_toArray, List.set_cons_zero, List.set_cons_succ]
    refine wpAnyH_take (i := 9) (oi := ⟨some 29, _, _, _, _, _⟩) (v := ?vgrg5_6) rfl (by kernel_rfl) (by kernel_rfl) (by kernel_rfl) (fun _ _ _ h => h) (Or.inl ⟨by rfl, ?ygrg5_6⟩) B_g5.out ?rgrg5_6
    case ygrg5_6 =>
      rintro w' hSw
      go_simp
      try with_reducible rfl
    try simp only [Act.put, List.setIfInBounds_toArray, List.set_cons_zero, List.set_cons_succ]
    refine wpAnyH_take (i := 12) (oi := ⟨some 32, _, _, _, _, _⟩) (v := ?vgrg5_7) rfl (by kernel_rfl) (by kernel_rfl) (by kernel_rfl) (fun _ _ _ h => h) (Or.inl ⟨by rfl, ?ygrg5_7⟩) B_g5.out ?rgrg5_7
    case ygrg5_7 =>
      rintro w' hSw
      go_simp
      try with_reducible rfl
    try simp only [Act.put, List.setIfInBounds_toArray, List.set_cons_zero, List.set_cons_succ]
    refine wpAnyH_take (i := 13) (oi := ⟨some 33, _, _, _, _, _⟩) (v := ?vgrg5_8) rfl (by kernel_rfl) (by kernel_rfl) (by kernel_rfl) (fun _ _ _ h => h) (Or.inl ⟨by rfl, ?ygrg5_8⟩) B_g5.out ?rgrg5_8
    case ygrg5_8 =>
      rintro w' hSw
      go_simp
      try with_reducible rfl
    try simp only [Act.put, List.setIfInBounds_toArray, List.set_cons_zero, List.set_cons_succ]
    refine wpAnyH_ready (rs := [2]) (by kernel_rfl) (by simp) ?_
    refine (AllReadyH.cons rfl (fun K hK => ?_) AllReadyH.nil)
    go_simp
    refine (H3.out _ B_g5.out).mono ?_
    rintro e Xgrg5_9 ⟨rfl, hb⟩
    have RZ_grg5_9_6 := Lib.hid (RZ_g5.out.below hb RZ_g5.out.lt)
    have RT_grg5_9_6 := Lib.hid (RT_g5.out.below hb RT_g5.out.lt)
    have B_grg5_9_6 := Lib.hid (B_g5.out.trans (hb.mono B_g5.out.size))
    clear hb RZ_g5 RT_g5 B_g5
    refine hK _ _ B_grg5_9_6.out (fun _ => ?_)
    clear hK K
    try simp only [Act.put, List.setIfInBounds_toArray, List.set_cons_zero, List.set_cons_succ]
    refine wpAnyH_take (i := 3) (oi := ⟨some 23, _, _, _, _, _⟩) (v := ?vgrg5_10) rfl (by kernel_rfl) (by kernel_rfl) (by kernel_rfl) (fun _ _ _ h => h) (Or.inl ⟨by rfl, ?ygrg5_10⟩) B_grg5_9_6.out ?rgrg5_10
    case ygrg5_10 =>
      rintro w' hSw
      go_simp
      try with_reducible rfl
    try simp only [Act.put, List.setIfInBounds_toArray, List.set_cons_zero, List.set_cons_succ]
    refine wpAnyH_ready (rs := [6]) (by kernel_rfl) (by simp) ?_
    refine (AllReadyH.cons rfl (fun K hK => ?_) AllReadyH.nil)
    go_simp
    refine (H4.out _ B_grg5_9_6.out).mono ?_
    rintro e Xgrg5_11 ⟨rfl, hb⟩
    have RZ_grg5_11_7 := Lib.hid (RZ_grg5_9_6.out.below hb RZ_grg5_9_6.out.lt)
    have RT_grg5_11_7 := Lib.hid (RT_grg5_9_6.out.below hb RT_grg5_9_6.out.lt)
    have B_grg5_11_7 := Lib.hid (B_grg5_9_6.out.trans (hb.mono B_grg5_9_6.out.size))
    clear hb RZ_grg5_9_6 RT_grg5_9_6 B_grg5_9_6
    refine hK _ _ B_grg5_11_7.out (fun _ => ?_)
    clear hK K
    try simp only [Act.put, List.setIfInBounds_toArray, List.set_cons_zero, List.set_cons_succ]
    refine wpAnyH_take (i := 7) (oi := ⟨some 27, _, _, _, _, _⟩) (v := ?vgrg5_12) rfl (by kernel_rfl) (by kernel_rfl) (by kernel_rfl) (fun _ _ _ h => h) (Or.inl ⟨by rfl, ?ygrg5_12⟩) B_grg5_11_7.out ?rgrg5_12
    case ygrg5_12 =>
      rintro w' hSw
      go_simp
      try with_reducible rfl
    try simp only [Act.put, List.setIfInBounds_toArray, List.set_cons_zero, List.set_cons_succ]
    refine wpAnyH_ready (rs := [10]) (by kernel_rfl) (by simp) ?_
    refine (AllReadyH.cons rfl (fun K hK => ?_) AllReadyH.nil)
    go_simp
    refine (H5.out _ B_grg5_11_7.out).mono ?_
    rintro e Xgrg5_13 ⟨rfl, hb⟩
    have RZ_grg5_13_8 := Lib.hid (RZ_grg5_11_7.out.below hb RZ_grg5_11_7.out.lt)
    have RT_grg5_13_8 := Lib.hid (RT_grg5_11_7.out.below hb RT_grg5_11_7.out.lt)
    have B_grg5_13_8 := Lib.hid (B_grg5_11_7.out.trans (hb.mono B_grg5_11_7.out.size))
    clear hb RZ_grg5_11_7 RT_grg5_11_7 B_grg5_11_7
    refine hK _ _ B_grg5_13_8.out (fun _ => ?_)
    clear hK K
    try simp only [Act.put, List.setIfInBounds_toArray, List.set_cons_zero, List.set_cons_succ]
    refine wpAnyH_take (i := 11) (oi := ⟨some 31, _, _, _, _, _⟩) (v := ?vgrg5_14) rfl (by kernel_rfl) (by kernel_rfl) (by kernel_rfl) (fun _ _ _ h => h) (Or.inl ⟨by rfl, ?ygrg5_14⟩) B_grg5_13_8.out ?rgrg5_14
    case ygrg5_14 =>
      rintro w' hSw
      go_simp
      try with_reducible rfl
    try simp only [Act.put, List.setIfInBounds_toArray, List.set_cons_zero, List.set_cons_succ]
    refine wpAnyH_ready (rs := [14]) (by kernel_rfl) (by simp) ?_
    refine (AllReadyH.cons rfl (fun K hK => ?_) AllReadyH.nil)
    go_simp
    refine (H6.out _ B_grg5_13_8.out).mono ?_
    rintro e Xgrg5_15 ⟨rfl, hb⟩
    have RZ_grg5_15_9 := Lib.hid (RZ_grg5_13_8.out.below hb RZ_grg5_13_8.out.lt)
    have RT_grg5_15_9 := Lib.hid (RT_grg5_13_8.out.below hb RT_grg5_13_8.out.lt)
    have B_grg5_15_9 := Lib.hid (B_grg5_13_8.out.trans (hb.mono B_grg5_13_8.out.size))
    clear hb RZ_grg5_13_8 RT_grg5_13_8 B_grg5_13_8
    refine hK _ _ B_grg5_15_9.out (fun _ => ?_)
    clear hK K
    try simp only [Act.put, List.setIfInBounds_toArray, List.set_cons_zero, List.set_cons_succ]
    refine wpAnyH_take (i := 15) (oi := ⟨some 35, _, _, _, _, _⟩) (v := ?vgrg5_16) rfl (by kernel_rfl) (by kernel_rfl) (by kernel_rfl) (fun _ _ _ h => h) (Or.inl ⟨by rfl, ?ygrg5_16⟩) B_grg5_15_9.out ?rgrg5_16
    case ygrg5_16 =>
      rintro w' hSw
      go_simp
      try with_reducible rfl
    try simp only [Act.put, List.setIfInBounds_toArray, List.set_cons_zero, List.set_cons_succ]
    refine wpAnyH_take (i := 16) (oi := ⟨some 36, _, _, _, _, _⟩) (v := ?vgrg5_17) rfl (by kernel_rfl) (by kernel_rfl) (by kernel_rfl) (fun _ _ _ h => h) (Or.inl ⟨by rfl, ?ygrg5_17⟩) B_grg5_15_9.out ?rgrg5_17
    case ygrg5_17 =>
      rintro w' hSw
      go_simp
      try with_reducible rfl
    try simp only [Act.put, List.setIfInBounds_toArray, List.set_cons_zero, List.set_cons_succ]
    refine wpAnyH_take (i := 17) (oi := ⟨some 37, _, _, _, _, _⟩) (v := ?vgrg5_18) rfl (by kernel_rfl) (by kernel_rfl) (by kernel_rfl) (fun _ _ _ h => h) (Or.inl ⟨by rfl, ?ygrg5_18⟩) B_grg5_15_9.out ?rgrg5_18
    case ygrg5_18 =>
      rintro w' hSw
      go_simp
      try with_reducible rfl
    try simp only [Act.put, List.setIfInBounds_toArray, List.set_cons_zero, List.set_cons_succ]
    refine wpAnyH_ready (rs := [18]) (by kernel_rfl) (by simp) ?_
    refine (AllReadyH.cons rfl (fun K hK => ?_) AllReadyH.nil)
    have f0 := RT_grg5_15_9.out.frozen 0
    have k0 := RT_grg5_15_9.out.cell 0
    have f1 := RT_grg5_15_9.out.frozen 1
    have k1 := RT_grg5_15_9.out.cell 1
    have f2 := RT_grg5_15_9.out.frozen 2
    have k2 := RT_grg5_15_9.out.cell 2
    have f3 := RT_grg5_15_9.out.frozen 3
    have k3 := RT_grg5_15_9.out.cell 3
    have f4 := RT_grg5_15_9.out.frozen 4
    have k4 := RT_grg5_15_9.out.cell 4
    have f5 := RT_grg5_15_9.out.frozen 5
    have k5 := RT_grg5_15_9.out.cell 5
    have f6 := RT_grg5_15_9.out.frozen 6
    have k6 := RT_grg5_15_9.out.cell 6
    have f7 := RT_grg5_15_9.out.frozen 7
    have k7 := RT_grg5_15_9.out.cell 7
    simp only [List.getElem?_cons_zero, List.getElem?_cons_succ] at k0 k1 k2 k3 k4 k5 k6 k7
    try rw [if_pos (by rfl)]
    go_simp
    clear f0 k0 f1 k1 f2 k2 f3 k3 f4 k4 f5 k5 f6 k6 f7 k7
    have RZ_sgrg5_19 := Lib.hid ((((RZ_grg5_15_9.out.far (p := ⟨gRT_g2, 3, none⟩) (by dsimp only; omega) (.int .i64 x0)).far (p := ⟨gRT_g2, 4, none⟩) (by dsimp only; omega) (.int .i64 x1)).far (p := ⟨gRT_g2, 5, none⟩) (by dsimp only; omega) (.int .i64 y0)).far (p := ⟨gRT_g2, 6, none⟩) (by dsimp only; omega) (.int .i64 y1))
    have RT_sgrg5_19 : Hid (Row ((((Xgrg5_15.setCell ⟨gRT_g2, 3, none⟩ (.int .i64 x0)).setCell ⟨gRT_g2, 4, none⟩ (.int .i64 x1)).setCell ⟨gRT_g2, 5, none⟩ (.int .i64 y0)).setCell ⟨gRT_g2, 6, none⟩ (.int .i64 y1)) (gRT_g2) 30 [.int .u32 (r : Int), .int .u64 (a : Int), .int .u64 (b : Int), .int .i64 x0, .int .i64 x1, .int .i64 y0, .int .i64 y1, .int .i64 0]) := Lib.hid ((((RT_grg5_15_9.out.store 3 (.int .i64 x0)).store 4 (.int .i64 x1)).store 5 (.int .i64 y0)).store 6 (.int .i64 y1))
    have B_sgrg5_19 := Lib.hid ((((B_grg5_15_9.out.setCell (p := ⟨gRT_g2, 3, none⟩) (by dsimp only; omega) (.int .i64 x0)).setCell (p := ⟨gRT_g2, 4, none⟩) (by dsimp only; omega) (.int .i64 x1)).setCell (p := ⟨gRT_g2, 5, none⟩) (by dsimp only; omega) (.int .i64 y0)).setCell (p := ⟨gRT_g2, 6, none⟩) (by dsimp only; omega) (.int .i64 y1))
    clear RZ_grg5_15_9 RT_grg5_15_9 B_grg5_15_9
    generalize ((((Xgrg5_15.setCell ⟨gRT_g2, 3, none⟩ (.int .i64 x0)).setCell ⟨gRT_g2, 4, none⟩ (.int .i64 x1)).setCell ⟨gRT_g2, 5, none⟩ (.int .i64 y0)).setCell ⟨gRT_g2, 6, none⟩ (.int .i64 y1)) = Xgrg5_19 at RZ_sgrg5_19 RT_sgrg5_19 B_sgrg5_19 ⊢
    refine hK _ _ B_sgrg5_19.out (fun _ => ?_)
    clear hK K
    try simp only [Act.put, List.setIfInBounds_toArray, List.set_cons_zero, List.set_cons_succ]
    refine wpAnyH_done (by kernel_rfl) ?_ _
    go_upto_region 5 with fail
    go_wp2_with fail
    refine (H7.out _ B_sgrg5_19.out).mono ?_
    rintro e W7 ⟨rfl, hb⟩
    have RZ_grg5_15_10 := Lib.hid (RZ_sgrg5_19.out.below hb RZ_sgrg5_19.out.lt)
    have RT_grg5_15_10 := Lib.hid (RT_sgrg5_19.out.below hb RT_sgrg5_19.out.lt)
    have B_grg5_15_10 := Lib.hid (B_sgrg5_19.out.trans (hb.mono B_sgrg5_19.out.size))
    clear hb RZ_sgrg5_19 RT_sgrg5_19 B_sgrg5_19
    have cgrg5_15_11_0 := RT_grg5_15_10.out.cell 0
    have cgrg5_15_11_1 := RT_grg5_15_10.out.cell 1
    have cgrg5_15_11_2 := RT_grg5_15_10.out.cell 2
    have cgrg5_15_11_3 := RT_grg5_15_10.out.cell 3
    have cgrg5_15_11_4 := RT_grg5_15_10.out.cell 4
    have cgrg5_15_11_5 := RT_grg5_15_10.out.cell 5
    have cgrg5_15_11_6 := RT_grg5_15_10.out.cell 6
    have cgrg5_15_11_7 := RT_grg5_15_10.out.cell 7
    simp only [List.getElem?_cons_zero, List.getElem?_cons_succ] at cgrg5_15_11_0 cgrg5_15_11_1 cgrg5_15_11_2 cgrg5_15_11_3 cgrg5_15_11_4 cgrg5_15_11_5 cgrg5_15_11_6 cgrg5_15_11_7
    have fgrg5_15_11_0 := RT_grg5_15_10.out.frozen 0
    have fgrg5_15_11_1 := RT_grg5_15_10.out.frozen 1
    have fgrg5_15_11_2 := RT_grg5_15_10.out.frozen 2
    have fgrg5_15_11_3 := RT_grg5_15_10.out.frozen 3
    have fgrg5_15_11_4 := RT_grg5_15_10.out.frozen 4
    have fgrg5_15_11_5 := RT_grg5_15_10.out.frozen 5
    have fgrg5_15_11_6 := RT_grg5_15_10.out.frozen 6
    have fgrg5_15_11_7 := RT_grg5_15_10.out.frozen 7
    go_upto_region 6 with fail
    clear cgrg5_15_11_0 cgrg5_15_11_1 cgrg5_15_11_2 cgrg5_15_11_3 cgrg5_15_11_4 cgrg5_15_11_5 cgrg5_15_11_6 cgrg5_15_11_7 fgrg5_15_11_0 fgrg5_15_11_1 fgrg5_15_11_2 fgrg5_15_11_3 fgrg5_15_11_4 fgrg5_15_11_5 fgrg5_15_11_6 fgrg5_15_11_7
    have RZ_grg5_15_12 := Lib.hid (RZ_grg5_15_10.out.far (p := ⟨gRT_g2, 7, none⟩) (by dsimp only; omega) (.int .i64 v))
    have RT_grg5_15_12 : Hid (Row (W7.setCell ⟨gRT_g2, 7, none⟩ (.int .i64 v)) (gRT_g2) 30 [.int .u32 (r : Int), .int .u64 (a : Int), .int .u64 (b : Int), .int .i64 x0, .int .i64 x1, .int .i64 y0, .int .i64 y1, .int .i64 v]) := Lib.hid (RT_grg5_15_10.out.store 7 (.int .i64 v))
    have B_grg5_15_12 := Lib.hid (B_grg5_15_10.out.setCell (p := ⟨gRT_g2, 7, none⟩) (by dsimp only; omega) (.int .i64 v))
    clear RZ_grg5_15_10 RT_grg5_15_10 B_grg5_15_10
    generalize (W7.setCell ⟨gRT_g2, 7, none⟩ (.int .i64 v)) = Vgrg5_15_12 at RZ_grg5_15_12 RT_grg5_15_12 B_grg5_15_12 ⊢
    have cgrg5_15_14_0 := RT_grg5_15_12.out.cell 0
    have cgrg5_15_14_1 := RT_grg5_15_12.out.cell 1
    have cgrg5_15_14_2 := RT_grg5_15_12.out.cell 2
    have cgrg5_15_14_3 := RT_grg5_15_12.out.cell 3
    have cgrg5_15_14_4 := RT_grg5_15_12.out.cell 4
    have cgrg5_15_14_5 := RT_grg5_15_12.out.cell 5
    have cgrg5_15_14_6 := RT_grg5_15_12.out.cell 6
    have cgrg5_15_14_7 := RT_grg5_15_12.out.cell 7
    simp only [List.getElem?_cons_zero, List.getElem?_cons_succ] at cgrg5_15_14_0 cgrg5_15_14_1 cgrg5_15_14_2 cgrg5_15_14_3 cgrg5_15_14_4 cgrg5_15_14_5 cgrg5_15_14_6 cgrg5_15_14_7
    go_wp2_with fail
    refine (HC.out _).mono ?_
    rintro e Wgrg5_15_13 ⟨rfl, hb⟩
    clear cgrg5_15_14_0 cgrg5_15_14_1 cgrg5_15_14_2 cgrg5_15_14_3 cgrg5_15_14_4 cgrg5_15_14_5 cgrg5_15_14_6 cgrg5_15_14_7
    have RZ_grg5_15_15 := Lib.hid (RZ_grg5_15_12.out.below hb RZ_grg5_15_12.out.lt)
    have RT_grg5_15_15 := Lib.hid (RT_grg5_15_12.out.below hb RT_grg5_15_12.out.lt)
    have B_grg5_15_15 := Lib.hid (B_grg5_15_12.out.trans (hb.mono B_grg5_15_12.out.size))
    clear hb RZ_grg5_15_12 RT_grg5_15_12 B_grg5_15_12
    have cgrg5_15_16_0 := RT_grg5_15_15.out.cell 0
    have cgrg5_15_16_1 := RT_grg5_15_15.out.cell 1
    have cgrg5_15_16_2 := RT_grg5_15_15.out.cell 2
    have cgrg5_15_16_3 := RT_grg5_15_15.out.cell 3
    have cgrg5_15_16_4 := RT_grg5_15_15.out.cell 4
    have cgrg5_15_16_5 := RT_grg5_15_15.out.cell 5
    have cgrg5_15_16_6 := RT_grg5_15_15.out.cell 6
    have cgrg5_15_16_7 := RT_grg5_15_15.out.cell 7
    simp only [List.getElem?_cons_zero, List.getElem?_cons_succ] at cgrg5_15_16_0 cgrg5_15_16_1 cgrg5_15_16_2 cgrg5_15_16_3 cgrg5_15_16_4 cgrg5_15_16_5 cgrg5_15_16_6 cgrg5_15_16_7
    have fgrg5_15_16_0 := RT_grg5_15_15.out.frozen 0
    have fgrg5_15_16_1 := RT_grg5_15_15.out.frozen 1
    have fgrg5_15_16_2 := RT_grg5_15_15.out.frozen 2
    have fgrg5_15_16_3 := RT_grg5_15_15.out.frozen 3
    have fgrg5_15_16_4 := RT_grg5_15_15.out.frozen 4
    have fgrg5_15_16_5 := RT_grg5_15_15.out.frozen 5
    have fgrg5_15_16_6 := RT_grg5_15_15.out.frozen 6
    have fgrg5_15_16_7 := RT_grg5_15_15.out.frozen 7
    have cgrg5_15_17_0 := RZ_grg5_15_15.out.cell 0
    have cgrg5_15_17_1 := RZ_grg5_15_15.out.cell 1
    have cgrg5_15_17_2 := RZ_grg5_15_15.out.cell 2
    have cgrg5_15_17_3 := RZ_grg5_15_15.out.cell 3
    have cgrg5_15_17_4 := RZ_grg5_15_15.out.cell 4
    have cgrg5_15_17_5 := RZ_grg5_15_15.out.cell 5
    have cgrg5_15_17_6 := RZ_grg5_15_15.out.cell 6
    have cgrg5_15_17_7 := RZ_grg5_15_15.out.cell 7
    simp only [List.getElem?_cons_zero, List.getElem?_cons_succ] at cgrg5_15_17_0 cgrg5_15_17_1 cgrg5_15_17_2 cgrg5_15_17_3 cgrg5_15_17_4 cgrg5_15_17_5 cgrg5_15_17_6 cgrg5_15_17_7
    have fgrg5_15_17_0 := RZ_grg5_15_15.out.frozen 0
    have fgrg5_15_17_1 := RZ_grg5_15_15.out.frozen 1
    have fgrg5_15_17_2 := RZ_grg5_15_15.out.frozen 2
    have fgrg5_15_17_3 := RZ_grg5_15_15.out.frozen 3
    have fgrg5_15_17_4 := RZ_grg5_15_15.out.frozen 4
    have fgrg5_15_17_5 := RZ_grg5_15_15.out.frozen 5
    have fgrg5_15_17_6 := RZ_grg5_15_15.out.frozen 6
    have fgrg5_15_17_7 := RZ_grg5_15_15.out.frozen 7
    go_wp2_with fail
    exact bodyPost_ret (v := .tuple #[.agg #[.int .u32 r, .int .u64 a, .int .u64 b, .int .i64 x0, .int .i64 x1, .int .i64 y0, .int .i64 y1, .int .i64 v], .bool true]) (by simp [results, Try.results15, go_sem, *]) rfl ⟨rfl, ((((((((B_grg5_15_15.out.setCell (p := ⟨w.heap.size, 0, none⟩) (Nat.le_refl _) (.int .u32 r)).setCell (p := ⟨w.heap.size, 1, none⟩) (Nat.le_refl _) (.int .u64 a)).setCell (p := ⟨w.heap.size, 2, none⟩) (Nat.le_refl _) (.int .u64 b)).setCell (p := ⟨w.heap.size, 3, none⟩) (Nat.le_refl _) (.int .i64 x0)).setCell (p := ⟨w.heap.size, 4, none⟩) (Nat.le_refl _) (.int .i64 x1)).setCell (p := ⟨w.heap.size, 5, none⟩) (Nat.le_refl _) (.int .i64 y0)).setCell (p := ⟨w.heap.size, 6, none⟩) (Nat.le_refl _) (.int .i64 y1)).setCell (p := ⟨w.heap.size, 7, none⟩) (Nat.le_refl _) (.int .i64 v))⟩

set_option maxHeartbeats 8000000 in
theorem rdec_b (b_ o_ : Nat) (l : List UInt8) (c : Nat) (r a b : Nat) (x0 x1 y0 y1 v : Int) (hk : okT r a b x0 x1 y0 y1 = false) (ht : TOf l r a b x0 x1 y0 y1 v) (w : World) (hl : l.length = 52) (hc : 52 ≤ c) (hcm : c ≤ maxLen) (hB : Bs w w.heap.size (some ⟨b_, o_, none⟩) l) :
    Calls Try.prog 15 #[.slice (some ⟨b_, o_, none⟩) 52 c] w fun e w' => e = .returned (.tuple #[TV 0 0 0 0 0 0 0 0, .bool false]) ∧ Below w.heap.size w w' := by
  have mixed : Try.prog.follows .mixedOrders = true := by kernel_rfl
  have HC := Lib.hid (Right_ref r a b x0 x1 y0 y1 v)
  rw [hk] at HC
  have HNB := Lib.hid (fun (k n x C : Nat) (hkn : k + n ≤ 52) (hn8 : n ≤ 8) (hx : fld l k n = x) (W : World) (hb : Below w.heap.size w W) => num_at b_ o_ l k n x C w W hl hkn hn8 hx hB hb)
  have hzr := ht.r
  have hza := ht.a
  have hzb := ht.b
  obtain ⟨zx0, hzzx0⟩ : ∃ z, fld l 12 8 = z := ⟨_, rfl⟩
  have wzx0 : IntKind.i64.wrap (zx0 : Int) = x0 := by rw [← hzzx0]; exact ht.x0
  obtain ⟨zx1, hzzx1⟩ : ∃ z, fld l 20 8 = z := ⟨_, rfl⟩
  have wzx1 : IntKind.i64.wrap (zx1 : Int) = x1 := by rw [← hzzx1]; exact ht.x1
  obtain ⟨zy0, hzzy0⟩ : ∃ z, fld l 28 8 = z := ⟨_, rfl⟩
  have wzy0 : IntKind.i64.wrap (zy0 : Int) = y0 := by rw [← hzzy0]; exact ht.y0
  obtain ⟨zy1, hzzy1⟩ : ∃ z, fld l 36 8 = z := ⟨_, rfl⟩
  have wzy1 : IntKind.i64.wrap (zy1 : Int) = y1 := by rw [← hzzy1]; exact ht.y1
  obtain ⟨zv, hzzv⟩ : ∃ z, fld l 44 8 = z := ⟨_, rfl⟩
  have wzv : IntKind.i64.wrap (zv : Int) = v := by rw [← hzzv]; exact ht.v
  have H0 := Lib.hid (fun (W : World) (hb : Below w.heap.size w W) => HNB.out 0 4 r (c - 0) (by omega) (by omega) hzr W hb)
  have H1 := Lib.hid (fun (W : World) (hb : Below w.heap.size w W) => HNB.out 4 4 a (c - 4) (by omega) (by omega) hza W hb)
  have H2 := Lib.hid (fun (W : World) (hb : Below w.heap.size w W) => HNB.out 8 4 b (c - 8) (by omega) (by omega) hzb W hb)
  have H3 := Lib.hid (fun (W : World) (hb : Below w.heap.size w W) => HNB.out 12 8 zx0 (c - 12) (by omega) (by omega) hzzx0 W hb)
  have H4 := Lib.hid (fun (W : World) (hb : Below w.heap.size w W) => HNB.out 20 8 zx1 (c - 20) (by omega) (by omega) hzzx1 W hb)
  have H5 := Lib.hid (fun (W : World) (hb : Below w.heap.size w W) => HNB.out 28 8 zy0 (c - 28) (by omega) (by omega) hzzy0 W hb)
  have H6 := Lib.hid (fun (W : World) (hb : Below w.heap.size w W) => HNB.out 36 8 zy1 (c - 36) (by omega) (by omega) hzzy1 W hb)
  have H7 := Lib.hid (fun (W : World) (hb : Below w.heap.size w W) => HNB.out 44 8 zv (c - 44) (by omega) (by omega) hzzv W hb)
  have wr : IntKind.u32.wrap (r : Int) = r := by have := fld_lt l 0 4; rw [hzr] at this; simp [IntKind.wrap, IntKind.signed, IntKind.bits]; omega
  have wr2 : (r : Int) % 4294967296 = r := by have := fld_lt l 0 4; rw [hzr] at this; omega
  have n4 : ¬ c = 4 := by omega
  have m4 : ¬ (c : Int) = 4 := by omega
  have n8 : ¬ c = 8 := by omega
  have m8 : ¬ (c : Int) = 8 := by omega
  have n12 : ¬ c = 12 := by omega
  have m12 : ¬ (c : Int) = 12 := by omega
  have n20 : ¬ c = 20 := by omega
  have m20 : ¬ (c : Int) = 20 := by omega
  have n28 : ¬ c = 28 := by omega
  have m28 : ¬ (c : Int) = 28 := by omega
  have n36 : ¬ c = 36 := by omega
  have m36 : ¬ (c : Int) = 36 := by omega
  have n44 : ¬ c = 44 := by omega
  have m44 : ¬ (c : Int) = 44 := by omega
  have hci : (52 : Int) ≤ (c : Int) := by omega
  have q4 : (4 : Int) ≤ (c : Int) := by omega
  have q8 : (8 : Int) ≤ (c : Int) := by omega
  have q12 : (12 : Int) ≤ (c : Int) := by omega
  have q20 : (20 : Int) ≤ (c : Int) := by omega
  have q28 : (28 : Int) ≤ (c : Int) := by omega
  have q36 : (36 : Int) ≤ (c : Int) := by omega
  have q44 : (44 : Int) ≤ (c : Int) := by omega
  unfold maxLen at hcm
  clear hl hB ht hk HNB hzr hza hzb hzzx0 hzzx1 hzzy0 hzzy1 hzzv
  go_enter Try.func15, Try.ntmps15
  go_upto_region 1 with fail
  have RZ_b1 := Lib.hid (row_last w (w.heap.size) 30 [.int .u32 0, .int .u64 0, .int .u64 0, .int .i64 0, .int .i64 0, .int .i64 0, .int .i64 0, .int .i64 0] (by simp))
  have B_b1 := Lib.hid ((Below.refl w.heap.size w).alloc (Nat.le_refl _) (.cells #[.int .u32 0, .int .u64 0, .int .u64 0, .int .i64 0, .int .i64 0, .int .i64 0, .int .i64 0, .int .i64 0] 30))
  generalize (w.alloc (.cells #[.int .u32 0, .int .u64 0, .int .u64 0, .int .i64 0, .int .i64 0, .int .i64 0, .int .i64 0, .int .i64 0] 30)) = Vb1 at RZ_b1 B_b1 ⊢
  go_upto_region 3 with fail
  go_cut [4] from 9 to 19 (fun t wx => NewR Vb1 30 [.int .u32 (r : Int), .int .u64 (a : Int), .int .u64 (b : Int), .int .i64 0, .int .i64 0, .int .i64 0, .int .i64 0, .int .i64 0] t wx)
  case first =>
    refine wp_region_held_drew (S := fun w' => Below Vb1.heap.size Vb1 w') (by kernel_rfl) (Below.refl _ _).drew (fun hHeld => ?_)
    have S_b2 := Lib.hid hHeld
    clear hHeld
    generalize Vb1.drew = Db2 at S_b2 ⊢
    refine wpAnyH_take (i := 0) (oi := ⟨some 9, _, _, _, _, _⟩) (v := ?vbdb2_1) rfl (by kernel_rfl) (by kernel_rfl) (by kernel_rfl) (fun _ _ _ h => h) (Or.inl ⟨by rfl, ?ybdb2_1⟩) S_b2.out ?rbdb2_1
    case ybdb2_1 =>
      rintro w' hSw
      go_simp
      try with_reducible rfl
    try simp only [Act.put, List.setIfInBounds_toArray, List.set_cons_zero, List.set_cons_succ]
    refine wpAnyH_take (i := 1) (oi := ⟨some 10, _, _, _, _, _⟩) (v := ?vbdb2_2) rfl (by kernel_rfl) (by kernel_rfl) (by kernel_rfl) (fun _ _ _ h => h) (Or.inl ⟨by rfl, ?ybdb2_2⟩) S_b2.out ?rbdb2_2
    case ybdb2_2 =>
      rintro w' hSw
      go_simp
      try with_reducible rfl
    try simp only [Act.put, List.setIfInBounds_toArray, List.set_cons_zero, List.set_cons_succ]
    refine wpAnyH_take (i := 4) (oi := ⟨some 13, _, _, _, _, _⟩) (v := ?vbdb2_3) rfl (by kernel_rfl) (by kernel_rfl) (by kernel_rfl) (fun _ _ _ h => h) (Or.inl ⟨by rfl, ?ybdb2_3⟩) S_b2.out ?rbdb2_3
    case ybdb2_3 =>
      rintro w' hSw
      go_simp
      try with_reducible rfl
    try simp only [Act.put, List.setIfInBounds_toArray, List.set_cons_zero, List.set_cons_succ]
    refine wpAnyH_take (i := 5) (oi := ⟨some 14, _, _, _, _, _⟩) (v := ?vbdb2_4) rfl (by kernel_rfl) (by kernel_rfl) (by kernel_rfl) (fun _ _ _ h => h) (Or.inl ⟨by rfl, ?ybdb2_4⟩) S_b2.out ?rbdb2_4
    case ybdb2_4 =>
      rintro w' hSw
      go_simp
      try with_reducible rfl
    try simp only [Act.put, List.setIfInBounds_toArray, List.set_cons_zero, List.set_cons_succ]
    refine wpAnyH_take (i := 7) (oi := ⟨some 16, _, _, _, _, _⟩) (v := ?vbdb2_5) rfl (by kernel_rfl) (by kernel_rfl) (by kernel_rfl) (fun _ _ _ h => h) (Or.inl ⟨by rfl, ?ybdb2_5⟩) S_b2.out ?rbdb2_5
    case ybdb2_5 =>
      rintro w' hSw
      go_simp
      try with_reducible rfl
    try simp only [Act.put, List.setIfInBounds_toArray, List.set_cons_zero, List.set_cons_succ]
    refine wpAnyH_take (i := 8) (oi := ⟨some 17, _, _, _, _, _⟩) (v := ?vbdb2_6) rfl (by kernel_rfl) (by kernel_rfl) (by kernel_rfl) (fun _ _ _ h => h) (Or.inl ⟨by rfl, ?ybdb2_6⟩) S_b2.out ?rbdb2_6
    case ybdb2_6 =>
      rintro w' hSw
      go_simp
      try with_reducible rfl
    try simp only [Act.put, List.setIfInBounds_toArray, List.set_cons_zero, List.set_cons_succ]
    refine wpAnyH_ready (rs := [2, 11]) (by kernel_rfl) (by simp) ?_
    refine (AllReadyH.cons rfl (fun K hK => ?_) (AllReadyH.cons rfl (fun K hK => ?_) AllReadyH.nil))
    · go_simp
      refine (H0.out _ (B_b1.out.trans (S_b2.out.mono B_b1.out.size))).mono ?_
      rintro e Xbdb2_7 ⟨rfl, hb⟩
      have Sbdb2_7 := Lib.hid (S_b2.out.trans (hb.mono S_b2.out.size))
      clear hb S_b2
      refine hK _ _ Sbdb2_7.out (fun _ => ?_)
      clear hK K
      try simp only [Act.put, List.setIfInBounds_toArray, List.set_cons_zero, List.set_cons_succ]
      refine wpAnyH_take (i := 3) (oi := ⟨some 12, _, _, _, _, _⟩) (v := ?vbdb2_8) rfl (by kernel_rfl) (by kernel_rfl) (by kernel_rfl) (fun _ _ _ h => h) (Or.inl ⟨by rfl, ?ybdb2_8⟩) Sbdb2_7.out ?rbdb2_8
      case ybdb2_8 =>
        rintro w' hSw
        go_simp
        try with_reducible rfl
      try simp only [Act.put, List.setIfInBounds_toArray, List.set_cons_zero, List.set_cons_succ]
      refine wpAnyH_ready (rs := [6, 11]) (by kernel_rfl) (by simp) ?_
      refine (AllReadyH.cons rfl (fun K hK => ?_) (AllReadyH.cons rfl (fun K hK => ?_) AllReadyH.nil))
      · go_simp
        refine (H1.out _ (B_b1.out.trans (Sbdb2_7.out.mono B_b1.out.size))).mono ?_
        rintro e Xbdb2_9 ⟨rfl, hb⟩
        have Sbdb2_9 := Lib.hid (Sbdb2_7.out.trans (hb.mono Sbdb2_7.out.size))
        clear hb Sbdb2_7
        refine hK _ _ Sbdb2_9.out (fun _ => ?_)
        clear hK K
        try simp only [Act.put, List.setIfInBounds_toArray, List.set_cons_zero, List.set_cons_succ]
        refine wpAnyH_ready (rs := [9, 11]) (by kernel_rfl) (by simp) ?_
        refine (AllReadyH.cons rfl (fun K hK => ?_) (AllReadyH.cons rfl (fun K hK => ?_) AllReadyH.nil))
        · go_simp
          refine (H2.out _ (B_b1.out.trans (Sbdb2_9.out.mono B_b1.out.size))).mono ?_
          rintro e Xbdb2_10 ⟨rfl, hb⟩
          have Sbdb2_10 := Lib.hid (Sbdb2_9.out.trans (hb.mono Sbdb2_9.out.size))
          clear hb Sbdb2_9
          refine hK _ _ Sbdb2_10.out (fun _ => ?_)
          clear hK K
          try simp only [Act.put, List.setIfInBounds_toArray, List.set_cons_zero, List.set_cons_succ]
          refine wpAnyH_take (i := 10) (oi := ⟨some 19, _, _, _, _, _⟩) (v := ?vbdb2_11) rfl (by kernel_rfl) (by kernel_rfl) (by kernel_rfl) (fun _ _ _ h => h) (Or.inl ⟨by rfl, ?ybdb2_11⟩) Sbdb2_10.out ?rbdb2_11
          case ybdb2_11 =>
            rintro w' hSw
            go_simp
            try with_reducible rfl
          try simp only [Act.put, List.setIfInBounds_toArray, List.set_cons_zero, List.set_cons_succ]
          refine wpAnyH_ready (rs := [11]) (by kernel_rfl) (by simp) ?_
          refine (AllReadyH.cons rfl (fun K hK => ?_) AllReadyH.nil)
          rw [if_pos (by rfl)]
          go_simp
          have hr := Lib.hid (row_last Xbdb2_10 Xbdb2_10.heap.size 30 [.int .u32 0, .int .u64 0, .int .u64 0, .int .i64 0, .int .i64 0, .int .i64 0, .int .i64 0, .int .i64 0] rfl)
          have Sbdb2_12 := Lib.hid (Sbdb2_10.out.alloc Sbdb2_10.out.size (.cells #[.int .u32 0, .int .u64 0, .int .u64 0, .int .i64 0, .int .i64 0, .int .i64 0, .int .i64 0, .int .i64 0] 30))
          obtain ⟨gRTbdb2_12, hgRTbdb2_12⟩ : ∃ g, g = Xbdb2_10.heap.size := ⟨_, rfl⟩
          have ngRTbdb2_12 : Vb1.heap.size ≤ gRTbdb2_12 := by rw [hgRTbdb2_12]; exact Sbdb2_10.out.size
          rw [← hgRTbdb2_12] at hr ⊢
          have RTnbdb2_12 := hr
          clear hr hgRTbdb2_12 Sbdb2_10 
          generalize Xbdb2_10.alloc (.cells #[.int .u32 0, .int .u64 0, .int .u64 0, .int .i64 0, .int .i64 0, .int .i64 0, .int .i64 0, .int .i64 0] 30) = Xbdb2_12 at Sbdb2_12 RTnbdb2_12 ⊢
          refine hK _ _ Sbdb2_12.out (fun _ => ?_)
          clear hK K
          try simp only [Act.put, List.setIfInBounds_toArray, List.set_cons_zero, List.set_cons_succ]
          refine wpAnyH_ready (rs := [12]) (by kernel_rfl) (by simp) ?_
          refine (AllReadyH.cons rfl (fun K hK => ?_) AllReadyH.nil)
          have f0 := RTnbdb2_12.out.frozen 0
          have k0 := RTnbdb2_12.out.cell 0
          have f1 := RTnbdb2_12.out.frozen 1
          have k1 := RTnbdb2_12.out.cell 1
          have f2 := RTnbdb2_12.out.frozen 2
          have k2 := RTnbdb2_12.out.cell 2
          have f3 := RTnbdb2_12.out.frozen 3
          have k3 := RTnbdb2_12.out.cell 3
          have f4 := RTnbdb2_12.out.frozen 4
          have k4 := RTnbdb2_12.out.cell 4
          have f5 := RTnbdb2_12.out.frozen 5
          have k5 := RTnbdb2_12.out.cell 5
          have f6 := RTnbdb2_12.out.frozen 6
          have k6 := RTnbdb2_12.out.cell 6
          have f7 := RTnbdb2_12.out.frozen 7
          have k7 := RTnbdb2_12.out.cell 7
          simp only [List.getElem?_cons_zero, List.getElem?_cons_succ] at k0 k1 k2 k3 k4 k5 k6 k7
          rw [if_pos (by rfl)]
          go_simp
          clear f0 k0 f1 k1 f2 k2 f3 k3 f4 k4 f5 k5 f6 k6 f7 k7
          have RTsbdb2_13 : Hid (Row ((((((((Xbdb2_12.setCell ⟨gRTbdb2_12, 0, none⟩ (.int .u32 (r : Int))).setCell ⟨gRTbdb2_12, 1, none⟩ (.int .u64 (a : Int))).setCell ⟨gRTbdb2_12, 2, none⟩ (.int .u64 (b : Int))).setCell ⟨gRTbdb2_12, 3, none⟩ (.int .i64 0)).setCell ⟨gRTbdb2_12, 4, none⟩ (.int .i64 0)).setCell ⟨gRTbdb2_12, 5, none⟩ (.int .i64 0)).setCell ⟨gRTbdb2_12, 6, none⟩ (.int .i64 0)).setCell ⟨gRTbdb2_12, 7, none⟩ (.int .i64 0)) gRTbdb2_12 30 [.int .u32 (r : Int), .int .u64 (a : Int), .int .u64 (b : Int), .int .i64 0, .int .i64 0, .int .i64 0, .int .i64 0, .int .i64 0]) := Lib.hid ((((((((RTnbdb2_12.out.store 0 (.int .u32 (r : Int))).store 1 (.int .u64 (a : Int))).store 2 (.int .u64 (b : Int))).store 3 (.int .i64 0)).store 4 (.int .i64 0)).store 5 (.int .i64 0)).store 6 (.int .i64 0)).store 7 (.int .i64 0))
          have Sbdb2_13 := Lib.hid ((((((((Sbdb2_12.out.setCell (p := ⟨gRTbdb2_12, 0, none⟩) (by dsimp only; omega) (.int .u32 (r : Int))).setCell (p := ⟨gRTbdb2_12, 1, none⟩) (by dsimp only; omega) (.int .u64 (a : Int))).setCell (p := ⟨gRTbdb2_12, 2, none⟩) (by dsimp only; omega) (.int .u64 (b : Int))).setCell (p := ⟨gRTbdb2_12, 3, none⟩) (by dsimp only; omega) (.int .i64 0)).setCell (p := ⟨gRTbdb2_12, 4, none⟩) (by dsimp only; omega) (.int .i64 0)).setCell (p := ⟨gRTbdb2_12, 5, none⟩) (by dsimp only; omega) (.int .i64 0)).setCell (p := ⟨gRTbdb2_12, 6, none⟩) (by dsimp only; omega) (.int .i64 0)).setCell (p := ⟨gRTbdb2_12, 7, none⟩) (by dsimp only; omega) (.int .i64 0))
          clear Sbdb2_12 RTnbdb2_12
          generalize ((((((((Xbdb2_12.setCell ⟨gRTbdb2_12, 0, none⟩ (.int .u32 (r : Int))).setCell ⟨gRTbdb2_12, 1, none⟩ (.int .u64 (a : Int))).setCell ⟨gRTbdb2_12, 2, none⟩ (.int .u64 (b : Int))).setCell ⟨gRTbdb2_12, 3, none⟩ (.int .i64 0)).setCell ⟨gRTbdb2_12, 4, none⟩ (.int .i64 0)).setCell ⟨gRTbdb2_12, 5, none⟩ (.int .i64 0)).setCell ⟨gRTbdb2_12, 6, none⟩ (.int .i64 0)).setCell ⟨gRTbdb2_12, 7, none⟩ (.int .i64 0)) = Xbdb2_13 at Sbdb2_13 RTsbdb2_13 ⊢
          refine hK _ _ Sbdb2_13.out (fun _ => ?_)
          clear hK K
          try simp only [Act.put, List.setIfInBounds_toArray, List.set_cons_zero, List.set_cons_succ]
          refine wpAnyH_done (by kernel_rfl) ?_ _
          go_wp2_with fail
          go_meet
          exact ⟨gRTbdb2_12, rfl, RTsbdb2_13.out, ngRTbdb2_12, Sbdb2_13.out⟩
        · rw [if_pos (by rfl)]
          go_simp
          have hr := Lib.hid (row_last Xbdb2_9 Xbdb2_9.heap.size 30 [.int .u32 0, .int .u64 0, .int .u64 0, .int .i64 0, .int .i64 0, .int .i64 0, .int .i64 0, .int .i64 0] rfl)
          have Sbdb2_14 := Lib.hid (Sbdb2_9.out.alloc Sbdb2_9.out.size (.cells #[.int .u32 0, .int .u64 0, .int .u64 0, .int .i64 0, .int .i64 0, .int .i64 0, .int .i64 0, .int .i64 0] 30))
          obtain ⟨gRTbdb2_14, hgRTbdb2_14⟩ : ∃ g, g = Xbdb2_9.heap.size := ⟨_, rfl⟩
          have ngRTbdb2_14 : Vb1.heap.size ≤ gRTbdb2_14 := by rw [hgRTbdb2_14]; exact Sbdb2_9.out.size
          rw [← hgRTbdb2_14] at hr ⊢
          have RTnbdb2_14 := hr
          clear hr hgRTbdb2_14 Sbdb2_9 
          generalize Xbdb2_9.alloc (.cells #[.int .u32 0, .int .u64 0, .int .u64 0, .int .i64 0, .int .i64 0, .int .i64 0, .int .i64 0, .int .i64 0] 30) = Xbdb2_14 at Sbdb2_14 RTnbdb2_14 ⊢
          refine hK _ _ Sbdb2_14.out (fun _ => ?_)
          clear hK K
          try simp only [Act.put, List.setIfInBounds_toArray, List.set_cons_zero, List.set_cons_succ]
          refine wpAnyH_ready (rs := [9]) (by kernel_rfl) (by simp) ?_
          refine (AllReadyH.cons rfl (fun K hK => ?_) AllReadyH.nil)
          go_simp
          refine (H2.out _ (B_b1.out.trans (Sbdb2_14.out.mono B_b1.out.size))).mono ?_
          rintro e Xbdb2_15 ⟨rfl, hb⟩
          have Sbdb2_15 := Lib.hid (Sbdb2_14.out.trans (hb.mono Sbdb2_14.out.size))
          have RTcbdb2_15 := Lib.hid (RTnbdb2_14.out.below hb RTnbdb2_14.out.lt)
          clear hb Sbdb2_14 RTnbdb2_14
          refine hK _ _ Sbdb2_15.out (fun _ => ?_)
          clear hK K
          try simp only [Act.put, List.setIfInBounds_toArray, List.set_cons_zero, List.set_cons_succ]
          refine wpAnyH_take (i := 10) (oi := ⟨some 19, _, _, _, _, _⟩) (v := ?vbdb2_16) rfl (by kernel_rfl) (by kernel_rfl) (by kernel_rfl) (fun _ _ _ h => h) (Or.inl ⟨by rfl, ?ybdb2_16⟩) Sbdb2_15.out ?rbdb2_16
          case ybdb2_16 =>
            rintro w' hSw
            go_simp
            try with_reducible rfl
          try simp only [Act.put, List.setIfInBounds_toArray, List.set_cons_zero, List.set_cons_succ]
          refine wpAnyH_ready (rs := [12]) (by kernel_rfl) (by simp) ?_
          refine (AllReadyH.cons rfl (fun K hK => ?_) AllReadyH.nil)
          have f0 := RTcbdb2_15.out.frozen 0
          have k0 := RTcbdb2_15.out.cell 0
          have f1 := RTcbdb2_15.out.frozen 1
          have k1 := RTcbdb2_15.out.cell 1
          have f2 := RTcbdb2_15.out.frozen 2
          have k2 := RTcbdb2_15.out.cell 2
          have f3 := RTcbdb2_15.out.frozen 3
          have k3 := RTcbdb2_15.out.cell 3
          have f4 := RTcbdb2_15.out.frozen 4
          have k4 := RTcbdb2_15.out.cell 4
          have f5 := RTcbdb2_15.out.frozen 5
          have k5 := RTcbdb2_15.out.cell 5
          have f6 := RTcbdb2_15.out.frozen 6
          have k6 := RTcbdb2_15.out.cell 6
          have f7 := RTcbdb2_15.out.frozen 7
          have k7 := RTcbdb2_15.out.cell 7
          simp only [List.getElem?_cons_zero, List.getElem?_cons_succ] at k0 k1 k2 k3 k4 k5 k6 k7
          rw [if_pos (by rfl)]
          go_simp
          clear f0 k0 f1 k1 f2 k2 f3 k3 f4 k4 f5 k5 f6 k6 f7 k7
          have RTsbdb2_17 : Hid (Row ((((((((Xbdb2_15.setCell ⟨gRTbdb2_14, 0, none⟩ (.int .u32 (r : Int))).setCell ⟨gRTbdb2_14, 1, none⟩ (.int .u64 (a : Int))).setCell ⟨gRTbdb2_14, 2, none⟩ (.int .u64 (b : Int))).setCell ⟨gRTbdb2_14, 3, none⟩ (.int .i64 0)).setCell ⟨gRTbdb2_14, 4, none⟩ (.int .i64 0)).setCell ⟨gRTbdb2_14, 5, none⟩ (.int .i64 0)).setCell ⟨gRTbdb2_14, 6, none⟩ (.int .i64 0)).setCell ⟨gRTbdb2_14, 7, none⟩ (.int .i64 0)) gRTbdb2_14 30 [.int .u32 (r : Int), .int .u64 (a : Int), .int .u64 (b : Int), .int .i64 0, .int .i64 0, .int .i64 0, .int .i64 0, .int .i64 0]) := Lib.hid ((((((((RTcbdb2_15.out.store 0 (.int .u32 (r : Int))).store 1 (.int .u64 (a : Int))).store 2 (.int .u64 (b : Int))).store 3 (.int .i64 0)).store 4 (.int .i64 0)).store 5 (.int .i64 0)).store 6 (.int .i64 0)).store 7 (.int .i64 0))
          have Sbdb2_17 := Lib.hid ((((((((Sbdb2_15.out.setCell (p := ⟨gRTbdb2_14, 0, none⟩) (by dsimp only; omega) (.int .u32 (r : Int))).setCell (p := ⟨gRTbdb2_14, 1, none⟩) (by dsimp only; omega) (.int .u64 (a : Int))).setCell (p := ⟨gRTbdb2_14, 2, none⟩) (by dsimp only; omega) (.int .u64 (b : Int))).setCell (p := ⟨gRTbdb2_14, 3, none⟩) (by dsimp only; omega) (.int .i64 0)).setCell (p := ⟨gRTbdb2_14, 4, none⟩) (by dsimp only; omega) (.int .i64 0)).setCell (p := ⟨gRTbdb2_14, 5, none⟩) (by dsimp only; omega) (.int .i64 0)).setCell (p := ⟨gRTbdb2_14, 6, none⟩) (by dsimp only; omega) (.int .i64 0)).setCell (p := ⟨gRTbdb2_14, 7, none⟩) (by dsimp only; omega) (.int .i64 0))
          clear Sbdb2_15 RTcbdb2_15
          generalize ((((((((Xbdb2_15.setCell ⟨gRTbdb2_14, 0, none⟩ (.int .u32 (r : Int))).setCell ⟨gRTbdb2_14, 1, none⟩ (.int .u64 (a : Int))).setCell ⟨gRTbdb2_14, 2, none⟩ (.int .u64 (b : Int))).setCell ⟨gRTbdb2_14, 3, none⟩ (.int .i64 0)).setCell ⟨gRTbdb2_14, 4, none⟩ (.int .i64 0)).setCell ⟨gRTbdb2_14, 5, none⟩ (.int .i64 0)).setCell ⟨gRTbdb2_14, 6, none⟩ (.int .i64 0)).setCell ⟨gRTbdb2_14, 7, none⟩ (.int .i64 0)) = Xbdb2_17 at Sbdb2_17 RTsbdb2_17 ⊢
          refine hK _ _ Sbdb2_17.out (fun _ => ?_)
          clear hK K
          try simp only [Act.put, List.setIfInBounds_toArray, List.set_cons_zero, List.set_cons_succ]
          refine wpAnyH_done (by kernel_rfl) ?_ _
          go_wp2_with fail
          go_meet
          exact ⟨gRTbdb2_14, rfl, RTsbdb2_17.out, ngRTbdb2_14, Sbdb2_17.out⟩
      · rw [if_pos (by rfl)]
        go_simp
        have hr := Lib.hid (row_last Xbdb2_7 Xbdb2_7.heap.size 30 [.int .u32 0, .int .u64 0, .int .u64 0, .int .i64 0, .int .i64 0, .int .i64 0, .int .i64 0, .int .i64 0] rfl)
        have Sbdb2_18 := Lib.hid (Sbdb2_7.out.alloc Sbdb2_7.out.size (.cells #[.int .u32 0, .int .u64 0, .int .u64 0, .int .i64 0, .int .i64 0, .int .i64 0, .int .i64 0, .int .i64 0] 30))
        obtain ⟨gRTbdb2_18, hgRTbdb2_18⟩ : ∃ g, g = Xbdb2_7.heap.size := ⟨_, rfl⟩
        have ngRTbdb2_18 : Vb1.heap.size ≤ gRTbdb2_18 := by rw [hgRTbdb2_18]; exact Sbdb2_7.out.size
        rw [← hgRTbdb2_18] at hr ⊢
        have RTnbdb2_18 := hr
        clear hr hgRTbdb2_18 Sbdb2_7 
        generalize Xbdb2_7.alloc (.cells #[.int .u32 0, .int .u64 0, .int .u64 0, .int .i64 0, .int .i64 0, .int .i64 0, .int .i64 0, .int .i64 0] 30) = Xbdb2_18 at Sbdb2_18 RTnbdb2_18 ⊢
        refine hK _ _ Sbdb2_18.out (fun _ => ?_)
        clear hK K
        try simp only [Act.put, List.setIfInBounds_toArray, List.set_cons_zero, List.set_cons_succ]
        refine wpAnyH_ready (rs := [6]) (by kernel_rfl) (by simp) ?_
        refine (AllReadyH.cons rfl (fun K hK => ?_) AllReadyH.nil)
        go_simp
        refine (H1.out _ (B_b1.out.trans (Sbdb2_18.out.mono B_b1.out.size))).mono ?_
        rintro e Xbdb2_19 ⟨rfl, hb⟩
        have Sbdb2_19 := Lib.hid (Sbdb2_18.out.trans (hb.mono Sbdb2_18.out.size))
        have RTcbdb2_19 := Lib.hid (RTnbdb2_18.out.below hb RTnbdb2_18.out.lt)
        clear hb Sbdb2_18 RTnbdb2_18
        refine hK _ _ Sbdb2_19.out (fun _ => ?_)
        clear hK K
        try simp only [Act.put, List.setIfInBounds_toArray, List.set_cons_zero, List.set_cons_succ]
        refine wpAnyH_ready (rs := [9]) (by kernel_rfl) (by simp) ?_
        refine (AllReadyH.cons rfl (fun K hK => ?_) AllReadyH.nil)
        go_simp
        refine (H2.out _ (B_b1.out.trans (Sbdb2_19.out.mono B_b1.out.size))).mono ?_
        rintro e Xbdb2_20 ⟨rfl, hb⟩
        have Sbdb2_20 := Lib.hid (Sbdb2_19.out.trans (hb.mono Sbdb2_19.out.size))
        have RTcbdb2_20 := Lib.hid (RTcbdb2_19.out.below hb RTcbdb2_19.out.lt)
        clear hb Sbdb2_19 RTcbdb2_19
        refine hK _ _ Sbdb2_20.out (fun _ => ?_)
        clear hK K
        try simp only [Act.put, List.setIfInBounds_toArray, List.set_cons_zero, List.set_cons_succ]
        refine wpAnyH_take (i := 10) (oi := ⟨some 19, _, _, _, _, _⟩) (v := ?vbdb2_21) rfl (by kernel_rfl) (by kernel_rfl) (by kernel_rfl) (fun _ _ _ h => h) (Or.inl ⟨by rfl, ?ybdb2_21⟩) Sbdb2_20.out ?rbdb2_21
        case ybdb2_21 =>
          rintro w' hSw
          go_simp
          try with_reducible rfl
        try simp only [Act.put, List.setIfInBounds_toArray, List.set_cons_zero, List.set_cons_succ]
        refine wpAnyH_ready (rs := [12]) (by kernel_rfl) (by simp) ?_
        refine (AllReadyH.cons rfl (fun K hK => ?_) AllReadyH.nil)
        have f0 := RTcbdb2_20.out.frozen 0
        have k0 := RTcbdb2_20.out.cell 0
        have f1 := RTcbdb2_20.out.frozen 1
        have k1 := RTcbdb2_20.out.cell 1
        have f2 := RTcbdb2_20.out.frozen 2
        have k2 := RTcbdb2_20.out.cell 2
        have f3 := RTcbdb2_20.out.frozen 3
        have k3 := RTcbdb2_20.out.cell 3
        have f4 := RTcbdb2_20.out.frozen 4
        have k4 := RTcbdb2_20.out.cell 4
        have f5 := RTcbdb2_20.out.frozen 5
        have k5 := RTcbdb2_20.out.cell 5
        have f6 := RTcbdb2_20.out.frozen 6
        have k6 := RTcbdb2_20.out.cell 6
        have f7 := RTcbdb2_20.out.frozen 7
        have k7 := RTcbdb2_20.out.cell 7
        simp only [List.getElem?_cons_zero, List.getElem?_cons_succ] at k0 k1 k2 k3 k4 k5 k6 k7
        rw [if_pos (by rfl)]
        go_simp
        clear f0 k0 f1 k1 f2 k2 f3 k3 f4 k4 f5 k5 f6 k6 f7 k7
        have RTsbdb2_22 : Hid (Row ((((((((Xbdb2_20.setCell ⟨gRTbdb2_18, 0, none⟩ (.int .u32 (r : Int))).setCell ⟨gRTbdb2_18, 1, none⟩ (.int .u64 (a : Int))).setCell ⟨gRTbdb2_18, 2, none⟩ (.int .u64 (b : Int))).setCell ⟨gRTbdb2_18, 3, none⟩ (.int .i64 0)).setCell ⟨gRTbdb2_18, 4, none⟩ (.int .i64 0)).setCell ⟨gRTbdb2_18, 5, none⟩ (.int .i64 0)).setCell ⟨gRTbdb2_18, 6, none⟩ (.int .i64 0)).setCell ⟨gRTbdb2_18, 7, none⟩ (.int .i64 0)) gRTbdb2_18 30 [.int .u32 (r : Int), .int .u64 (a : Int), .int .u64 (b : Int), .int .i64 0, .int .i64 0, .int .i64 0, .int .i64 0, .int .i64 0]) := Lib.hid ((((((((RTcbdb2_20.out.store 0 (.int .u32 (r : Int))).store 1 (.int .u64 (a : Int))).store 2 (.int .u64 (b : Int))).store 3 (.int .i64 0)).store 4 (.int .i64 0)).store 5 (.int .i64 0)).store 6 (.int .i64 0)).store 7 (.int .i64 0))
        have Sbdb2_22 := Lib.hid ((((((((Sbdb2_20.out.setCell (p := ⟨gRTbdb2_18, 0, none⟩) (by dsimp only; omega) (.int .u32 (r : Int))).setCell (p := ⟨gRTbdb2_18, 1, none⟩) (by dsimp only; omega) (.int .u64 (a : Int))).setCell (p := ⟨gRTbdb2_18, 2, none⟩) (by dsimp only; omega) (.int .u64 (b : Int))).setCell (p := ⟨gRTbdb2_18, 3, none⟩) (by dsimp only; omega) (.int .i64 0)).setCell (p := ⟨gRTbdb2_18, 4, none⟩) (by dsimp only; omega) (.int .i64 0)).setCell (p := ⟨gRTbdb2_18, 5, none⟩) (by dsimp only; omega) (.int .i64 0)).setCell (p := ⟨gRTbdb2_18, 6, none⟩) (by dsimp only; omega) (.int .i64 0)).setCell (p := ⟨gRTbdb2_18, 7, none⟩) (by dsimp only; omega) (.int .i64 0))
        clear Sbdb2_20 RTcbdb2_20
        generalize ((((((((Xbdb2_20.setCell ⟨gRTbdb2_18, 0, none⟩ (.int .u32 (r : Int))).setCell ⟨gRTbdb2_18, 1, none⟩ (.int .u64 (a : Int))).setCell ⟨gRTbdb2_18, 2, none⟩ (.int .u64 (b : Int))).setCell ⟨gRTbdb2_18, 3, none⟩ (.int .i64 0)).setCell ⟨gRTbdb2_18, 4, none⟩ (.int .i64 0)).setCell ⟨gRTbdb2_18, 5, none⟩ (.int .i64 0)).setCell ⟨gRTbdb2_18, 6, none⟩ (.int .i64 0)).setCell ⟨gRTbdb2_18, 7, none⟩ (.int .i64 0)) = Xbdb2_22 at Sbdb2_22 RTsbdb2_22 ⊢
        refine hK _ _ Sbdb2_22.out (fun _ => ?_)
        clear hK K
        try simp only [Act.put, List.setIfInBounds_toArray, List.set_cons_zero, List.set_cons_succ]
        refine wpAnyH_done (by kernel_rfl) ?_ _
        go_wp2_with fail
        go_meet
        exact ⟨gRTbdb2_18, rfl, RTsbdb2_22.out, ngRTbdb2_18, Sbdb2_22.out⟩
    · rw [if_pos (by rfl)]
      go_simp
      have hr := Lib.hid (row_last Db2 Db2.heap.size 30 [.int .u32 0, .int .u64 0, .int .u64 0, .int .i64 0, .int .i64 0, .int .i64 0, .int .i64 0, .int .i64 0] rfl)
      have Sbdb2_23 := Lib.hid (S_b2.out.alloc S_b2.out.size (.cells #[.int .u32 0, .int .u64 0, .int .u64 0, .int .i64 0, .int .i64 0, .int .i64 0, .int .i64 0, .int .i64 0] 30))
      obtain ⟨gRTbdb2_23, hgRTbdb2_23⟩ : ∃ g, g = Db2.heap.size := ⟨_, rfl⟩
      have ngRTbdb2_23 : Vb1.heap.size ≤ gRTbdb2_23 := by rw [hgRTbdb2_23]; exact S_b2.out.size
      rw [← hgRTbdb2_23] at hr ⊢
      have RTnbdb2_23 := hr
      clear hr hgRTbdb2_23 S_b2 
      generalize Db2.alloc (.cells #[.int .u32 0, .int .u64 0, .int .u64 0, .int .i64 0, .int .i64 0, .int .i64 0, .int .i64 0, .int .i64 0] 30) = Xbdb2_23 at Sbdb2_23 RTnbdb2_23 ⊢
      refine hK _ _ Sbdb2_23.out (fun _ => ?_)
      clear hK K
      try simp only [Act.put, List.setIfInBounds_toArray, List.set_cons_zero, List.set_cons_succ]
      refine wpAnyH_ready (rs := [2]) (by kernel_rfl) (by simp) ?_
      refine (AllReadyH.cons rfl (fun K hK => ?_) AllReadyH.nil)
      go_simp
      refine (H0.out _ (B_b1.out.trans (Sbdb2_23.out.mono B_b1.out.size))).mono ?_
      rintro e Xbdb2_24 ⟨rfl, hb⟩
      have Sbdb2_24 := Lib.hid (Sbdb2_23.out.trans (hb.mono Sbdb2_23.out.size))
      have RTcbdb2_24 := Lib.hid (RTnbdb2_23.out.below hb RTnbdb2_23.out.lt)
      clear hb Sbdb2_23 RTnbdb2_23
      refine hK _ _ Sbdb2_24.out (fun _ => ?_)
      clear hK K
      try simp only [Act.put, List.setIfInBounds_toArray, List.set_cons_zero, List.set_cons_succ]
      refine wpAnyH_take (i := 3) (oi := ⟨some 12, _, _, _, _, _⟩) (v := ?vbdb2_25) rfl (by kernel_rfl) (by kernel_rfl) (by kernel_rfl) (fun _ _ _ h => h) (Or.inl ⟨by rfl, ?ybdb2_25⟩) Sbdb2_24.out ?rbdb2_25
      case ybdb2_25 =>
        rintro w' hSw
        go_simp
        try with_reducible rfl
      try simp only [Act.put, List.setIfInBounds_toArray, List.set_cons_zero, List.set_cons_succ]
      refine wpAnyH_ready (rs := [6]) (by kernel_rfl) (by simp) ?_
      refine (AllReadyH.cons rfl (fun K hK => ?_) AllReadyH.nil)
      go_simp
      refine (H1.out _ (B_b1.out.trans (Sbdb2_24.out.mono B_b1.out.size))).mono ?_
      rintro e Xbdb2_26 ⟨rfl, hb⟩
      have Sbdb2_26 := Lib.hid (Sbdb2_24.out.trans (hb.mono Sbdb2_24.out.size))
      have RTcbdb2_26 := Lib.hid (RTcbdb2_24.out.below hb RTcbdb2_24.out.lt)
      clear hb Sbdb2_24 RTcbdb2_24
      refine hK _ _ Sbdb2_26.out (fun _ => ?_)
      clear hK K
      try simp only [Act.put, List.setIfInBounds_toArray, List.set_cons_zero, List.set_cons_succ]
      refine wpAnyH_ready (rs := [9]) (by kernel_rfl) (by simp) ?_
      refine (AllReadyH.cons rfl (fun K hK => ?_) AllReadyH.nil)
      go_simp
      refine (H2.out _ (B_b1.out.trans (Sbdb2_26.out.mono B_b1.out.size))).mono ?_
      rintro e Xbdb2_27 ⟨rfl, hb⟩
      have Sbdb2_27 := Lib.hid (Sbdb2_26.out.trans (hb.mono Sbdb2_26.out.size))
      have RTcbdb2_27 := Lib.hid (RTcbdb2_26.out.below hb RTcbdb2_26.out.lt)
      clear hb Sbdb2_26 RTcbdb2_26
      refine hK _ _ Sbdb2_27.out (fun _ => ?_)
      clear hK K
      try simp only [Act.put, List.setIfInBounds_toArray, List.set_cons_zero, List.set_cons_succ]
      refine wpAnyH_take (i := 10) (oi := ⟨some 19, _, _, _, _, _⟩) (v := ?vbdb2_28) rfl (by kernel_rfl) (by kernel_rfl) (by kernel_rfl) (fun _ _ _ h => h) (Or.inl ⟨by rfl, ?ybdb2_28⟩) Sbdb2_27.out ?rbdb2_28
      case ybdb2_28 =>
        rintro w' hSw
        go_simp
        try with_reducible rfl
      try simp only [Act.put, List.setIfInBounds_toArray, List.set_cons_zero, List.set_cons_succ]
      refine wpAnyH_ready (rs := [12]) (by kernel_rfl) (by simp) ?_
      refine (AllReadyH.cons rfl (fun K hK => ?_) AllReadyH.nil)
      have f0 := RTcbdb2_27.out.frozen 0
      have k0 := RTcbdb2_27.out.cell 0
      have f1 := RTcbdb2_27.out.frozen 1
      have k1 := RTcbdb2_27.out.cell 1
      have f2 := RTcbdb2_27.out.frozen 2
      have k2 := RTcbdb2_27.out.cell 2
      have f3 := RTcbdb2_27.out.frozen 3
      have k3 := RTcbdb2_27.out.cell 3
      have f4 := RTcbdb2_27.out.frozen 4
      have k4 := RTcbdb2_27.out.cell 4
      have f5 := RTcbdb2_27.out.frozen 5
      have k5 := RTcbdb2_27.out.cell 5
      have f6 := RTcbdb2_27.out.frozen 6
      have k6 := RTcbdb2_27.out.cell 6
      have f7 := RTcbdb2_27.out.frozen 7
      have k7 := RTcbdb2_27.out.cell 7
      simp only [List.getElem?_cons_zero, List.getElem?_cons_succ] at k0 k1 k2 k3 k4 k5 k6 k7
      rw [if_pos (by rfl)]
      go_simp
      clear f0 k0 f1 k1 f2 k2 f3 k3 f4 k4 f5 k5 f6 k6 f7 k7
      have RTsbdb2_29 : Hid (Row ((((((((Xbdb2_27.setCell ⟨gRTbdb2_23, 0, none⟩ (.int .u32 (r : Int))).setCell ⟨gRTbdb2_23, 1, none⟩ (.int .u64 (a : Int))).setCell ⟨gRTbdb2_23, 2, none⟩ (.int .u64 (b : Int))).setCell ⟨gRTbdb2_23, 3, none⟩ (.int .i64 0)).setCell ⟨gRTbdb2_23, 4, none⟩ (.int .i64 0)).setCell ⟨gRTbdb2_23, 5, none⟩ (.int .i64 0)).setCell ⟨gRTbdb2_23, 6, none⟩ (.int .i64 0)).setCell ⟨gRTbdb2_23, 7, none⟩ (.int .i64 0)) gRTbdb2_23 30 [.int .u32 (r : Int), .int .u64 (a : Int), .int .u64 (b : Int), .int .i64 0, .int .i64 0, .int .i64 0, .int .i64 0, .int .i64 0]) := Lib.hid ((((((((RTcbdb2_27.out.store 0 (.int .u32 (r : Int))).store 1 (.int .u64 (a : Int))).store 2 (.int .u64 (b : Int))).store 3 (.int .i64 0)).store 4 (.int .i64 0)).store 5 (.int .i64 0)).store 6 (.int .i64 0)).store 7 (.int .i64 0))
      have Sbdb2_29 := Lib.hid ((((((((Sbdb2_27.out.setCell (p := ⟨gRTbdb2_23, 0, none⟩) (by dsimp only; omega) (.int .u32 (r : Int))).setCell (p := ⟨gRTbdb2_23, 1, none⟩) (by dsimp only; omega) (.int .u64 (a : Int))).setCell (p := ⟨gRTbdb2_23, 2, none⟩) (by dsimp only; omega) (.int .u64 (b : Int))).setCell (p := ⟨gRTbdb2_23, 3, none⟩) (by dsimp only; omega) (.int .i64 0)).setCell (p := ⟨gRTbdb2_23, 4, none⟩) (by dsimp only; omega) (.int .i64 0)).setCell (p := ⟨gRTbdb2_23, 5, none⟩) (by dsimp only; omega) (.int .i64 0)).setCell (p := ⟨gRTbdb2_23, 6, none⟩) (by dsimp only; omega) (.int .i64 0)).setCell (p := ⟨gRTbdb2_23, 7, none⟩) (by dsimp only; omega) (.int .i64 0))
      clear Sbdb2_27 RTcbdb2_27
      generalize ((((((((Xbdb2_27.setCell ⟨gRTbdb2_23, 0, none⟩ (.int .u32 (r : Int))).setCell ⟨gRTbdb2_23, 1, none⟩ (.int .u64 (a : Int))).setCell ⟨gRTbdb2_23, 2, none⟩ (.int .u64 (b : Int))).setCell ⟨gRTbdb2_23, 3, none⟩ (.int .i64 0)).setCell ⟨gRTbdb2_23, 4, none⟩ (.int .i64 0)).setCell ⟨gRTbdb2_23, 5, none⟩ (.int .i64 0)).setCell ⟨gRTbdb2_23, 6, none⟩ (.int .i64 0)).setCell ⟨gRTbdb2_23, 7, none⟩ (.int .i64 0)) = Xbdb2_29 at Sbdb2_29 RTsbdb2_29 ⊢
      refine hK _ _ Sbdb2_29.out (fun _ => ?_)
      clear hK K
      try simp only [Act.put, List.setIfInBounds_toArray, List.set_cons_zero, List.set_cons_succ]
      refine wpAnyH_done (by kernel_rfl) ?_ _
      go_wp2_with fail
      go_meet
      exact ⟨gRTbdb2_23, rfl, RTsbdb2_29.out, ngRTbdb2_23, Sbdb2_29.out⟩
  case rest =>
    rename World => Wcb2
    obtain ⟨gRT_b2, rfl, hrow, hge, hb⟩ := hcut
    have RT_b2 := Lib.hid hrow
    clear hrow
    have hdb2_0 : w.heap.size < gRT_b2 := Nat.lt_of_lt_of_le RZ_b1.out.lt hge
    have RZ_b4 := Lib.hid (RZ_b1.out.below hb RZ_b1.out.lt)
    have B_b4 := Lib.hid (B_b1.out.trans (hb.mono B_b1.out.size))
    clear hb RZ_b1 B_b1
    go_wp2_with fail
    refine wp_region_held_drew (S := fun w' => Below w.heap.size w w') (by kernel_rfl) B_b4.out.drew (fun hHeld => ?_)
    clear hHeld
    have RZ_b5 := Lib.hid RZ_b4.out.drew
    have RT_b5 := Lib.hid RT_b2.out.drew
    have B_b5 := Lib.hid B_b4.out.drew
    clear RZ_b4 RT_b2 B_b4
    generalize Wcb2.drew = Db5 at RZ_b5 RT_b5 B_b5 ⊢
    refine wpAnyH_take (i := 0) (oi := ⟨some 20, _, _, _, _, _⟩) (v := ?vbrb5_1) rfl (by kernel_rfl) (by kernel_rfl) (by kernel_rfl) (fun _ _ _ h => h) (Or.inl ⟨by rfl, ?ybrb5_1⟩) B_b5.out ?rbrb5_1
    case ybrb5_1 =>
      rintro w' hSw
      go_simp
      try with_reducible rfl
    try simp only [Act.put, List.setIfInBounds_toArray, List.set_cons_zero, List.set_cons_succ]
    refine wpAnyH_take (i := 1) (oi := ⟨some 21, _, _, _, _, _⟩) (v := ?vbrb5_2) rfl (by kernel_rfl) (by kernel_rfl) (by kernel_rfl) (fun _ _ _ h => h) (Or.inl ⟨by rfl, ?ybrb5_2⟩) B_b5.out ?rbrb5_2
    case ybrb5_2 =>
      rintro w' hSw
      go_simp
      try with_reducible rfl
    try simp only [Act.put, List.setIfInBounds_toArray, List.set_cons_zero, List.set_cons_succ]
    refine wpAnyH_take (i := 4) (oi := ⟨some 24, _, _, _, _, _⟩) (v := ?vbrb5_3) rfl (by kernel_rfl) (by kernel_rfl) (by kernel_rfl) (fun _ _ _ h => h) (Or.inl ⟨by rfl, ?ybrb5_3⟩) B_b5.out ?rbrb5_3
    case ybrb5_3 =>
      rintro w' hSw
      go_simp
      try with_reducible rfl
    try simp only [Act.put, List.setIfInBounds_toArray, List.set_cons_zero, List.set_cons_succ]
    refine wpAnyH_take (i := 5) (oi := ⟨some 25, _, _, _, _, _⟩) (v := ?vbrb5_4) rfl (by kernel_rfl) (by kernel_rfl) (by kernel_rfl) (fun _ _ _ h => h) (Or.inl ⟨by rfl, ?ybrb5_4⟩) B_b5.out ?rbrb5_4
    case ybrb5_4 =>
      rintro w' hSw
      go_simp
      try with_reducible rfl
    try simp only [Act.put, List.setIfInBounds_toArray, List.set_cons_zero, List.set_cons_succ]
    refine wpAnyH_take (i := 8) (oi := ⟨some 28, _, _, _, _, _⟩) (v := ?vbrb5_5) rfl (by kernel_rfl) (by kernel_rfl) (by kernel_rfl) (fun _ _ _ h => h) (Or.inl ⟨by rfl, ?ybrb5_5⟩) B_b5.out ?rbrb5_5
    case ybrb5_5 =>
      rintro w' hSw
      go_simp
      try with_reducible rfl
    try simp only [Act.put, List.setIfInBounds_toArray, List.set_cons_zero, List.set_cons_succ]
    refine wpAnyH_take (i := 9) (oi := ⟨some 29, _, _, _, _, _⟩) (v := ?vbrb5_6) rfl (by kernel_rfl) (by kernel_rfl) (by kernel_rfl) (fun _ _ _ h => h) (Or.inl ⟨by rfl, ?ybrb5_6⟩) B_b5.out ?rbrb5_6
    case ybrb5_6 =>
      rintro w' hSw
      go_simp
      try with_reducible rfl
    try simp only [Act.put, List.setIfInBounds_toArray, List.set_cons_zero, List.set_cons_succ]
    refine wpAnyH_take (i := 12) (oi := ⟨some 32, _, _, _, _, _⟩) (v := ?vbrb5_7) rfl (by kernel_rfl) (by kernel_rfl) (by kernel_rfl) (fun _ _ _ h => h) (Or.inl ⟨by rfl, ?ybrb5_7⟩) B_b5.out ?rbrb5_7
    case ybrb5_7 =>
      rintro w' hSw
      go_simp
      try with_reducible rfl
    try simp only [Act.put, List.setIfInBounds_toArray, List.set_cons_zero, List.set_cons_succ]
    refine wpAnyH_take (i := 13) (oi := ⟨some 33, _, _, _, _, _⟩) (v := ?vbrb5_8) rfl (by kernel_rfl) (by kernel_rfl) (by kernel_rfl) (fun _ _ _ h => h) (Or.inl ⟨by rfl, ?ybrb5_8⟩) B_b5.out ?rbrb5_8
    case ybrb5_8 =>
      rintro w' hSw
      go_simp
      try with_reducible rfl
    try simp only [Act.put, List.setIfInBounds_toArray, List.set_cons_zero, List.set_cons_succ]
    refine wpAnyH_ready (rs := [2]) (by kernel_rfl) (by simp) ?_
    refine (AllReadyH.cons rfl (fun K hK => ?_) AllReadyH.nil)
    go_simp
    refine (H3.out _ B_b5.out).mono ?_
    rintro e Xbrb5_9 ⟨rfl, hb⟩
    have RZ_brb5_9_6 := Lib.hid (RZ_b5.out.below hb RZ_b5.out.lt)
    have RT_brb5_9_6 := Lib.hid (RT_b5.out.below hb RT_b5.out.lt)
    have B_brb5_9_6 := Lib.hid (B_b5.out.trans (hb.mono B_b5.out.size))
    clear hb RZ_b5 RT_b5 B_b5
    refine hK _ _ B_brb5_9_6.out (fun _ => ?_)
    clear hK K
    try simp only [Act.put, List.setIfInBounds_toArray, List.set_cons_zero, List.set_cons_succ]
    refine wpAnyH_take (i := 3) (oi := ⟨some 23, _, _, _, _, _⟩) (v := ?vbrb5_10) rfl (by kernel_rfl) (by kernel_rfl) (by kernel_rfl) (fun _ _ _ h => h) (Or.inl ⟨by rfl, ?ybrb5_10⟩) B_brb5_9_6.out ?rbrb5_10
    case ybrb5_10 =>
      rintro w' hSw
      go_simp
      try with_reducible rfl
    try simp only [Act.put, List.setIfInBounds_toArray, List.set_cons_zero, List.set_cons_succ]
    refine wpAnyH_ready (rs := [6]) (by kernel_rfl) (by simp) ?_
    refine (AllReadyH.cons rfl (fun K hK => ?_) AllReadyH.nil)
    go_simp
    refine (H4.out _ B_brb5_9_6.out).mono ?_
    rintro e Xbrb5_11 ⟨rfl, hb⟩
    have RZ_brb5_11_7 := Lib.hid (RZ_brb5_9_6.out.below hb RZ_brb5_9_6.out.lt)
    have RT_brb5_11_7 := Lib.hid (RT_brb5_9_6.out.below hb RT_brb5_9_6.out.lt)
    have B_brb5_11_7 := Lib.hid (B_brb5_9_6.out.trans (hb.mono B_brb5_9_6.out.size))
    clear hb RZ_brb5_9_6 RT_brb5_9_6 B_brb5_9_6
    refine hK _ _ B_brb5_11_7.out (fun _ => ?_)
    clear hK K
    try simp only [Act.put, List.setIfInBounds_toArray, List.set_cons_zero, List.set_cons_succ]
    refine wpAnyH_take (i := 7) (oi := ⟨some 27, _, _, _, _, _⟩) (v := ?vbrb5_12) rfl (by kernel_rfl) (by kernel_rfl) (by kernel_rfl) (fun _ _ _ h => h) (Or.inl ⟨by rfl, ?ybrb5_12⟩) B_brb5_11_7.out ?rbrb5_12
    case ybrb5_12 =>
      rintro w' hSw
      go_simp
      try with_reducible rfl
    try simp only [Act.put, List.setIfInBounds_toArray, List.set_cons_zero, List.set_cons_succ]
    refine wpAnyH_ready (rs := [10]) (by kernel_rfl) (by simp) ?_
    refine (AllReadyH.cons rfl (fun K hK => ?_) AllReadyH.nil)
    go_simp
    refine (H5.out _ B_brb5_11_7.out).mono ?_
    rintro e Xbrb5_13 ⟨rfl, hb⟩
    have RZ_brb5_13_8 := Lib.hid (RZ_brb5_11_7.out.below hb RZ_brb5_11_7.out.lt)
    have RT_brb5_13_8 := Lib.hid (RT_brb5_11_7.out.below hb RT_brb5_11_7.out.lt)
    have B_brb5_13_8 := Lib.hid (B_brb5_11_7.out.trans (hb.mono B_brb5_11_7.out.size))
    clear hb RZ_brb5_11_7 RT_brb5_11_7 B_brb5_11_7
    refine hK _ _ B_brb5_13_8.out (fun _ => ?_)
    clear hK K
    try simp only [Act.put, List.setIfInBounds_toArray, List.set_cons_zero, List.set_cons_succ]
    refine wpAnyH_take (i := 11) (oi := ⟨some 31, _, _, _, _, _⟩) (v := ?vbrb5_14) rfl (by kernel_rfl) (by kernel_rfl) (by kernel_rfl) (fun _ _ _ h => h) (Or.inl ⟨by rfl, ?ybrb5_14⟩) B_brb5_13_8.out ?rbrb5_14
    case ybrb5_14 =>
      rintro w' hSw
      go_simp
      try with_reducible rfl
    try simp only [Act.put, List.setIfInBounds_toArray, List.set_cons_zero, List.set_cons_succ]
    refine wpAnyH_ready (rs := [14]) (by kernel_rfl) (by simp) ?_
    refine (AllReadyH.cons rfl (fun K hK => ?_) AllReadyH.nil)
    go_simp
    refine (H6.out _ B_brb5_13_8.out).mono ?_
    rintro e Xbrb5_15 ⟨rfl, hb⟩
    have RZ_brb5_15_9 := Lib.hid (RZ_brb5_13_8.out.below hb RZ_brb5_13_8.out.lt)
    have RT_brb5_15_9 := Lib.hid (RT_brb5_13_8.out.below hb RT_brb5_13_8.out.lt)
    have B_brb5_15_9 := Lib.hid (B_brb5_13_8.out.trans (hb.mono B_brb5_13_8.out.size))
    clear hb RZ_brb5_13_8 RT_brb5_13_8 B_brb5_13_8
    refine hK _ _ B_brb5_15_9.out (fun _ => ?_)
    clear hK K
    try simp only [Act.put, List.setIfInBounds_toArray, List.set_cons_zero, List.set_cons_succ]
    refine wpAnyH_take (i := 15) (oi := ⟨some 35, _, _, _, _, _⟩) (v := ?vbrb5_16) rfl (by kernel_rfl) (by kernel_rfl) (by kernel_rfl) (fun _ _ _ h => h) (Or.inl ⟨by rfl, ?ybrb5_16⟩) B_brb5_15_9.out ?rbrb5_16
    case ybrb5_16 =>
      rintro w' hSw
      go_simp
      try with_reducible rfl
    try simp only [Act.put, List.setIfInBounds_toArray, List.set_cons_zero, List.set_cons_succ]
    refine wpAnyH_take (i := 16) (oi := ⟨some 36, _, _, _, _, _⟩) (v := ?vbrb5_17) rfl (by kernel_rfl) (by kernel_rfl) (by kernel_rfl) (fun _ _ _ h => h) (Or.inl ⟨by rfl, ?ybrb5_17⟩) B_brb5_15_9.out ?rbrb5_17
    case ybrb5_17 =>
      rintro w' hSw
      go_simp
      try with_reducible rfl
    try simp only [Act.put, List.setIfInBounds_toArray, List.set_cons_zero, List.set_cons_succ]
    refine wpAnyH_take (i := 17) (oi := ⟨some 37, _, _, _, _, _⟩) (v := ?vbrb5_18) rfl (by kernel_rfl) (by kernel_rfl) (by kernel_rfl) (fun _ _ _ h => h) (Or.inl ⟨by rfl, ?ybrb5_18⟩) B_brb5_15_9.out ?rbrb5_18
    case ybrb5_18 =>
      rintro w' hSw
      go_simp
      try with_reducible rfl
    try simp only [Act.put, List.setIfInBounds_toArray, List.set_cons_zero, List.set_cons_succ]
    refine wpAnyH_ready (rs := [18]) (by kernel_rfl) (by simp) ?_
    refine (AllReadyH.cons rfl (fun K hK => ?_) AllReadyH.nil)
    have f0 := RT_brb5_15_9.out.frozen 0
    have k0 := RT_brb5_15_9.out.cell 0
    have f1 := RT_brb5_15_9.out.frozen 1
    have k1 := RT_brb5_15_9.out.cell 1
    have f2 := RT_brb5_15_9.out.frozen 2
    have k2 := RT_brb5_15_9.out.cell 2
    have f3 := RT_brb5_15_9.out.frozen 3
    have k3 := RT_brb5_15_9.out.cell 3
    have f4 := RT_brb5_15_9.out.frozen 4
    have k4 := RT_brb5_15_9.out.cell 4
    have f5 := RT_brb5_15_9.out.frozen 5
    have k5 := RT_brb5_15_9.out.cell 5
    have f6 := RT_brb5_15_9.out.frozen 6
    have k6 := RT_brb5_15_9.out.cell 6
    have f7 := RT_brb5_15_9.out.frozen 7
    have k7 := RT_brb5_15_9.out.cell 7
    simp only [List.getElem?_cons_zero, List.getElem?_cons_succ] at k0 k1 k2 k3 k4 k5 k6 k7
    try rw [if_pos (by rfl)]
    go_simp
    clear f0 k0 f1 k1 f2 k2 f3 k3 f4 k4 f5 k5 f6 k6 f7 k7
    have RZ_sbrb5_19 := Lib.hid ((((RZ_brb5_15_9.out.far (p := ⟨gRT_b2, 3, none⟩) (by dsimp only; omega) (.int .i64 x0)).far (p := ⟨gRT_b2, 4, none⟩) (by dsimp only; omega) (.int .i64 x1)).far (p := ⟨gRT_b2, 5, none⟩) (by dsimp only; omega) (.int .i64 y0)).far (p := ⟨gRT_b2, 6, none⟩) (by dsimp only; omega) (.int .i64 y1))
    have RT_sbrb5_19 : Hid (Row ((((Xbrb5_15.setCell ⟨gRT_b2, 3, none⟩ (.int .i64 x0)).setCell ⟨gRT_b2, 4, none⟩ (.int .i64 x1)).setCell ⟨gRT_b2, 5, none⟩ (.int .i64 y0)).setCell ⟨gRT_b2, 6, none⟩ (.int .i64 y1)) (gRT_b2) 30 [.int .u32 (r : Int), .int .u64 (a : Int), .int .u64 (b : Int), .int .i64 x0, .int .i64 x1, .int .i64 y0, .int .i64 y1, .int .i64 0]) := Lib.hid ((((RT_brb5_15_9.out.store 3 (.int .i64 x0)).store 4 (.int .i64 x1)).store 5 (.int .i64 y0)).store 6 (.int .i64 y1))
    have B_sbrb5_19 := Lib.hid ((((B_brb5_15_9.out.setCell (p := ⟨gRT_b2, 3, none⟩) (by dsimp only; omega) (.int .i64 x0)).setCell (p := ⟨gRT_b2, 4, none⟩) (by dsimp only; omega) (.int .i64 x1)).setCell (p := ⟨gRT_b2, 5, none⟩) (by dsimp only; omega) (.int .i64 y0)).setCell (p := ⟨gRT_b2, 6, none⟩) (by dsimp only; omega) (.int .i64 y1))
    clear RZ_brb5_15_9 RT_brb5_15_9 B_brb5_15_9
    generalize ((((Xbrb5_15.setCell ⟨gRT_b2, 3, none⟩ (.int .i64 x0)).setCell ⟨gRT_b2, 4, none⟩ (.int .i64 x1)).setCell ⟨gRT_b2, 5, none⟩ (.int .i64 y0)).setCell ⟨gRT_b2, 6, none⟩ (.int .i64 y1)) = Xbrb5_19 at RZ_sbrb5_19 RT_sbrb5_19 B_sbrb5_19 ⊢
    refine hK _ _ B_sbrb5_19.out (fun _ => ?_)
    clear hK K
    try simp only [Act.put, List.setIfInBounds_toArray, List.set_cons_zero, List.set_cons_succ]
    refine wpAnyH_done (by kernel_rfl) ?_ _
    go_upto_region 5 with fail
    go_wp2_with fail
    refine (H7.out _ B_sbrb5_19.out).mono ?_
    rintro e W7 ⟨rfl, hb⟩
    have RZ_brb5_15_10 := Lib.hid (RZ_sbrb5_19.out.below hb RZ_sbrb5_19.out.lt)
    have RT_brb5_15_10 := Lib.hid (RT_sbrb5_19.out.below hb RT_sbrb5_19.out.lt)
    have B_brb5_15_10 := Lib.hid (B_sbrb5_19.out.trans (hb.mono B_sbrb5_19.out.size))
    clear hb RZ_sbrb5_19 RT_sbrb5_19 B_sbrb5_19
    have cbrb5_15_11_0 := RT_brb5_15_10.out.cell 0
    have cbrb5_15_11_1 := RT_brb5_15_10.out.cell 1
    have cbrb5_15_11_2 := RT_brb5_15_10.out.cell 2
    have cbrb5_15_11_3 := RT_brb5_15_10.out.cell 3
    have cbrb5_15_11_4 := RT_brb5_15_10.out.cell 4
    have cbrb5_15_11_5 := RT_brb5_15_10.out.cell 5
    have cbrb5_15_11_6 := RT_brb5_15_10.out.cell 6
    have cbrb5_15_11_7 := RT_brb5_15_10.out.cell 7
    simp only [List.getElem?_cons_zero, List.getElem?_cons_succ] at cbrb5_15_11_0 cbrb5_15_11_1 cbrb5_15_11_2 cbrb5_15_11_3 cbrb5_15_11_4 cbrb5_15_11_5 cbrb5_15_11_6 cbrb5_15_11_7
    have fbrb5_15_11_0 := RT_brb5_15_10.out.frozen 0
    have fbrb5_15_11_1 := RT_brb5_15_10.out.frozen 1
    have fbrb5_15_11_2 := RT_brb5_15_10.out.frozen 2
    have fbrb5_15_11_3 := RT_brb5_15_10.out.frozen 3
    have fbrb5_15_11_4 := RT_brb5_15_10.out.frozen 4
    have fbrb5_15_11_5 := RT_brb5_15_10.out.frozen 5
    have fbrb5_15_11_6 := RT_brb5_15_10.out.frozen 6
    have fbrb5_15_11_7 := RT_brb5_15_10.out.frozen 7
    go_upto_region 6 with fail
    clear cbrb5_15_11_0 cbrb5_15_11_1 cbrb5_15_11_2 cbrb5_15_11_3 cbrb5_15_11_4 cbrb5_15_11_5 cbrb5_15_11_6 cbrb5_15_11_7 fbrb5_15_11_0 fbrb5_15_11_1 fbrb5_15_11_2 fbrb5_15_11_3 fbrb5_15_11_4 fbrb5_15_11_5 fbrb5_15_11_6 fbrb5_15_11_7
    have RZ_brb5_15_12 := Lib.hid (RZ_brb5_15_10.out.far (p := ⟨gRT_b2, 7, none⟩) (by dsimp only; omega) (.int .i64 v))
    have RT_brb5_15_12 : Hid (Row (W7.setCell ⟨gRT_b2, 7, none⟩ (.int .i64 v)) (gRT_b2) 30 [.int .u32 (r : Int), .int .u64 (a : Int), .int .u64 (b : Int), .int .i64 x0, .int .i64 x1, .int .i64 y0, .int .i64 y1, .int .i64 v]) := Lib.hid (RT_brb5_15_10.out.store 7 (.int .i64 v))
    have B_brb5_15_12 := Lib.hid (B_brb5_15_10.out.setCell (p := ⟨gRT_b2, 7, none⟩) (by dsimp only; omega) (.int .i64 v))
    clear RZ_brb5_15_10 RT_brb5_15_10 B_brb5_15_10
    generalize (W7.setCell ⟨gRT_b2, 7, none⟩ (.int .i64 v)) = Vbrb5_15_12 at RZ_brb5_15_12 RT_brb5_15_12 B_brb5_15_12 ⊢
    have cbrb5_15_14_0 := RT_brb5_15_12.out.cell 0
    have cbrb5_15_14_1 := RT_brb5_15_12.out.cell 1
    have cbrb5_15_14_2 := RT_brb5_15_12.out.cell 2
    have cbrb5_15_14_3 := RT_brb5_15_12.out.cell 3
    have cbrb5_15_14_4 := RT_brb5_15_12.out.cell 4
    have cbrb5_15_14_5 := RT_brb5_15_12.out.cell 5
    have cbrb5_15_14_6 := RT_brb5_15_12.out.cell 6
    have cbrb5_15_14_7 := RT_brb5_15_12.out.cell 7
    simp only [List.getElem?_cons_zero, List.getElem?_cons_succ] at cbrb5_15_14_0 cbrb5_15_14_1 cbrb5_15_14_2 cbrb5_15_14_3 cbrb5_15_14_4 cbrb5_15_14_5 cbrb5_15_14_6 cbrb5_15_14_7
    go_wp2_with fail
    refine (HC.out _).mono ?_
    rintro e Wbrb5_15_13 ⟨rfl, hb⟩
    clear cbrb5_15_14_0 cbrb5_15_14_1 cbrb5_15_14_2 cbrb5_15_14_3 cbrb5_15_14_4 cbrb5_15_14_5 cbrb5_15_14_6 cbrb5_15_14_7
    have RZ_brb5_15_15 := Lib.hid (RZ_brb5_15_12.out.below hb RZ_brb5_15_12.out.lt)
    have RT_brb5_15_15 := Lib.hid (RT_brb5_15_12.out.below hb RT_brb5_15_12.out.lt)
    have B_brb5_15_15 := Lib.hid (B_brb5_15_12.out.trans (hb.mono B_brb5_15_12.out.size))
    clear hb RZ_brb5_15_12 RT_brb5_15_12 B_brb5_15_12
    have cbrb5_15_16_0 := RT_brb5_15_15.out.cell 0
    have cbrb5_15_16_1 := RT_brb5_15_15.out.cell 1
    have cbrb5_15_16_2 := RT_brb5_15_15.out.cell 2
    have cbrb5_15_16_3 := RT_brb5_15_15.out.cell 3
    have cbrb5_15_16_4 := RT_brb5_15_15.out.cell 4
    have cbrb5_15_16_5 := RT_brb5_15_15.out.cell 5
    have cbrb5_15_16_6 := RT_brb5_15_15.out.cell 6
    have cbrb5_15_16_7 := RT_brb5_15_15.out.cell 7
    simp only [List.getElem?_cons_zero, List.getElem?_cons_succ] at cbrb5_15_16_0 cbrb5_15_16_1 cbrb5_15_16_2 cbrb5_15_16_3 cbrb5_15_16_4 cbrb5_15_16_5 cbrb5_15_16_6 cbrb5_15_16_7
    have fbrb5_15_16_0 := RT_brb5_15_15.out.frozen 0
    have fbrb5_15_16_1 := RT_brb5_15_15.out.frozen 1
    have fbrb5_15_16_2 := RT_brb5_15_15.out.frozen 2
    have fbrb5_15_16_3 := RT_brb5_15_15.out.frozen 3
    have fbrb5_15_16_4 := RT_brb5_15_15.out.frozen 4
    have fbrb5_15_16_5 := RT_brb5_15_15.out.frozen 5
    have fbrb5_15_16_6 := RT_brb5_15_15.out.frozen 6
    have fbrb5_15_16_7 := RT_brb5_15_15.out.frozen 7
    have cbrb5_15_17_0 := RZ_brb5_15_15.out.cell 0
    have cbrb5_15_17_1 := RZ_brb5_15_15.out.cell 1
    have cbrb5_15_17_2 := RZ_brb5_15_15.out.cell 2
    have cbrb5_15_17_3 := RZ_brb5_15_15.out.cell 3
    have cbrb5_15_17_4 := RZ_brb5_15_15.out.cell 4
    have cbrb5_15_17_5 := RZ_brb5_15_15.out.cell 5
    have cbrb5_15_17_6 := RZ_brb5_15_15.out.cell 6
    have cbrb5_15_17_7 := RZ_brb5_15_15.out.cell 7
    simp only [List.getElem?_cons_zero, List.getElem?_cons_succ] at cbrb5_15_17_0 cbrb5_15_17_1 cbrb5_15_17_2 cbrb5_15_17_3 cbrb5_15_17_4 cbrb5_15_17_5 cbrb5_15_17_6 cbrb5_15_17_7
    have fbrb5_15_17_0 := RZ_brb5_15_15.out.frozen 0
    have fbrb5_15_17_1 := RZ_brb5_15_15.out.frozen 1
    have fbrb5_15_17_2 := RZ_brb5_15_15.out.frozen 2
    have fbrb5_15_17_3 := RZ_brb5_15_15.out.frozen 3
    have fbrb5_15_17_4 := RZ_brb5_15_15.out.frozen 4
    have fbrb5_15_17_5 := RZ_brb5_15_15.out.frozen 5
    have fbrb5_15_17_6 := RZ_brb5_15_15.out.frozen 6
    have fbrb5_15_17_7 := RZ_brb5_15_15.out.frozen 7
    go_wp2_with fail
    exact bodyPost_ret (v := .tuple #[.agg #[.int .u32 0, .int .u64 0, .int .u64 0, .int .i64 0, .int .i64 0, .int .i64 0, .int .i64 0, .int .i64 0], .bool false]) (by simp [results, Try.results15, go_sem, *]) rfl ⟨rfl, ((((((((B_brb5_15_15.out.setCell (p := ⟨w.heap.size, 0, none⟩) (Nat.le_refl _) (.int .u32 0)).setCell (p := ⟨w.heap.size, 1, none⟩) (Nat.le_refl _) (.int .u64 0)).setCell (p := ⟨w.heap.size, 2, none⟩) (Nat.le_refl _) (.int .u64 0)).setCell (p := ⟨w.heap.size, 3, none⟩) (Nat.le_refl _) (.int .i64 0)).setCell (p := ⟨w.heap.size, 4, none⟩) (Nat.le_refl _) (.int .i64 0)).setCell (p := ⟨w.heap.size, 5, none⟩) (Nat.le_refl _) (.int .i64 0)).setCell (p := ⟨w.heap.size, 6, none⟩) (Nat.le_refl _) (.int .i64 0)).setCell (p := ⟨w.heap.size, 7, none⟩) (Nat.le_refl _) (.int .i64 0))⟩

set_option maxHeartbeats 4000000 in
theorem rdec_s (A : Option Addr) (n c : Nat) (w : World) (h52 : n ≠ 52) : Calls Try.prog 15 #[.slice A n c] w fun e w' => e = .returned (.tuple #[TV 0 0 0 0 0 0 0 0, .bool false]) ∧ Below w.heap.size w w' := by
  have h1 : ¬ (n : Int) = 52 := by omega
  go_enter Try.func15, Try.ntmps15
  go_upto_region 1 with fail
  have RZ_s1 := Lib.hid (row_last w (w.heap.size) 30 [.int .u32 0, .int .u64 0, .int .u64 0, .int .i64 0, .int .i64 0, .int .i64 0, .int .i64 0, .int .i64 0] (by simp))
  have B_s1 := Lib.hid ((Below.refl w.heap.size w).alloc (Nat.le_refl _) (.cells #[.int .u32 0, .int .u64 0, .int .u64 0, .int .i64 0, .int .i64 0, .int .i64 0, .int .i64 0, .int .i64 0] 30))
  generalize (w.alloc (.cells #[.int .u32 0, .int .u64 0, .int .u64 0, .int .i64 0, .int .i64 0, .int .i64 0, .int .i64 0, .int .i64 0] 30)) = Vs1 at RZ_s1 B_s1 ⊢
  have cs2_0 := RZ_s1.out.cell 0
  have cs2_1 := RZ_s1.out.cell 1
  have cs2_2 := RZ_s1.out.cell 2
  have cs2_3 := RZ_s1.out.cell 3
  have cs2_4 := RZ_s1.out.cell 4
  have cs2_5 := RZ_s1.out.cell 5
  have cs2_6 := RZ_s1.out.cell 6
  have cs2_7 := RZ_s1.out.cell 7
  simp only [List.getElem?_cons_zero, List.getElem?_cons_succ] at cs2_0 cs2_1 cs2_2 cs2_3 cs2_4 cs2_5 cs2_6 cs2_7
  have fs2_0 := RZ_s1.out.frozen 0
  have fs2_1 := RZ_s1.out.frozen 1
  have fs2_2 := RZ_s1.out.frozen 2
  have fs2_3 := RZ_s1.out.frozen 3
  have fs2_4 := RZ_s1.out.frozen 4
  have fs2_5 := RZ_s1.out.frozen 5
  have fs2_6 := RZ_s1.out.frozen 6
  have fs2_7 := RZ_s1.out.frozen 7
  go_wp2_with fail
  exact bodyPost_ret (v := .tuple #[TV 0 0 0 0 0 0 0 0, .bool false]) (by simp [results, Try.results15, go_sem, *]) rfl ⟨rfl, ((((((((B_s1.out.setCell (p := ⟨w.heap.size, 0, none⟩) (Nat.le_refl _) (.int .u32 0)).setCell (p := ⟨w.heap.size, 1, none⟩) (Nat.le_refl _) (.int .u64 0)).setCell (p := ⟨w.heap.size, 2, none⟩) (Nat.le_refl _) (.int .u64 0)).setCell (p := ⟨w.heap.size, 3, none⟩) (Nat.le_refl _) (.int .i64 0)).setCell (p := ⟨w.heap.size, 4, none⟩) (Nat.le_refl _) (.int .i64 0)).setCell (p := ⟨w.heap.size, 5, none⟩) (Nat.le_refl _) (.int .i64 0)).setCell (p := ⟨w.heap.size, 6, none⟩) (Nat.le_refl _) (.int .i64 0)).setCell (p := ⟨w.heap.size, 7, none⟩) (Nat.le_refl _) (.int .i64 0))⟩

theorem rdec_some (A : Option Addr) (l : List UInt8) (n c : Nat) (r a b : Nat) (x0 x1 y0 y1 v : Int) (w : World) (h : decM l = some ⟨r, a, b, x0, x1, y0, y1, v⟩) (hS : Sl w w.heap.size A n c l) :
    Calls Try.prog 15 #[.slice A n c] w fun e w' => e = .returned (.tuple #[TV r a b x0 x1 y0 y1 v, .bool true]) ∧ Below w.heap.size w w' := by
  obtain ⟨h1, h2, h3⟩ := decM_some.1 h
  obtain rfl : n = 52 := by rw [← hS.len, h1]
  obtain ⟨b_, o_, rfl, _⟩ := hS.bs (by omega)
  exact rdec_g b_ o_ l c r a b x0 x1 y0 y1 v h2 h3 w h1 hS.cap hS.most hS.bs
theorem rdec_none (A : Option Addr) (l : List UInt8) (n c : Nat) (w : World) (h : decM l = none) (hS : Sl w w.heap.size A n c l) :
    Calls Try.prog 15 #[.slice A n c] w fun e w' => e = .returned (.tuple #[TV 0 0 0 0 0 0 0 0, .bool false]) ∧ Below w.heap.size w w' := by
  by_cases h52 : n = 52
  · rcases decM_none h with h1 | ⟨r, a, b, x0, x1, y0, y1, v, h1, h2, h3⟩
    · exact absurd (hS.len.trans h52) h1
    · subst h52
      obtain ⟨b_, o_, rfl, _⟩ := hS.bs (by omega)
      exact rdec_b b_ o_ l c r a b x0 x1 y0 y1 v h2 h3 w h1 hS.cap hS.most hS.bs
  · exact rdec_s A n c w h52
end Go.Proofs.Ytnojkoefdigcnaa.Hp
