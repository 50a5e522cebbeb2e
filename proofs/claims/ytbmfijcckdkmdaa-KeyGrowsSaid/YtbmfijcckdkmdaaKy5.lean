/-
  Keys: how much boxes are apart.
-/
import Derived.Test.YtbmfijcckdkmdaaKy4
import Derived.Deep.CutRange
import Derived.Test.YtbmfijcckdkmdaaWi2
import Derived.LoopTactic
import Derived.Deep.RegionHeld
import Derived.Deep.Cut
import Derived.WalkLawsBesides
namespace Go.Proofs.Ytbmfijcckdkmdaa.Ky
set_option maxRecDepth 100000
open Go.RowKit Go.Proofs.Ytbmfijcckdkmdaa.Wd Go.Proofs.Ytbmfijcckdkmdaa.Wi Go.Proofs.Ytbmfijcckdkmdaa.Lift



/-- how much two boxes are apart: area -/
def areaM (x0 x1 y0 y1 : Int) : Nat := widM x0 x1 * widM y0 y1
def marginM (x0 x1 y0 y1 : Int) : Nat := widM x0 x1 + widM y0 y1
/-- a row that was made since -/
def NewR (w0 : World) (T : TypeId) (cs : List Value) (t : Value) (wx : World) : Prop := ∃ g, t = .pointer (some ⟨g, 0, none⟩) ∧ Row wx g T cs ∧ w0.heap.size ≤ g ∧ Below w0.heap.size w0 wx

set_option maxHeartbeats 4000000 in
theorem apart_any {x0 x1 y0 y1 u0 u1 v0 v1 m0 m1 m2 m3 : Int} {uh ul xh xl yh yl dh dl ah al mh ml : Nat} (kx : KOk x0 x1 y0 y1) (ku : KOk u0 u1 v0 v1) (km : KOk m0 m1 m2 m3)
    (HU : Hid (∀ w, Calls Try.prog 15 #[KV x0 x1 y0 y1, KV u0 u1 v0 v1] w fun e w' => e = .returned (KV m0 m1 m2 m3) ∧ Below w.heap.size w w'))
    (h1 : Wn (widM m0 m1 * widM m2 m3) uh ul) (h2 : Wn (widM x0 x1 * widM y0 y1) xh xl) (h3 : Wn (widM u0 u1 * widM v0 v1) yh yl) (h4 : Wn (widM m0 m1 * widM m2 m3 - widM x0 x1 * widM y0 y1) dh dl)
    (h5 : Wn (widM m0 m1 * widM m2 m3 - widM x0 x1 * widM y0 y1 - widM u0 u1 * widM v0 v1) ah al) (h6 : Wn (widM m0 m1 + widM m2 m3) mh ml) (w : World) :
    Calls Try.prog 54 #[KV x0 x1 y0 y1, KV u0 u1 v0 v1] w fun e w' => e = .returned (.agg #[.int .u64 (ah : Int), .int .u64 (al : Int), .int .u64 (mh : Int), .int .u64 (ml : Int)]) ∧ Below w.heap.size w w' := by
  have HA1 := Lib.hid (fun w => Area_is km h1 w)
  have HA2 := Lib.hid (fun w => Area_is kx h2 w)
  have HA3 := Lib.hid (fun w => Area_is ku h3 w)
  have HB1 := Lib.hid (fun w => above_any h1 h2 h4 w)
  have HB2 := Lib.hid (fun w => above_any h4 h3 h5 w)
  have HM := Lib.hid (fun w => Margin_is km h6 w)
  clear h1 h2 h3 h4 h5 h6 kx ku km
  go_enter Try.func54, Try.ntmps54
  go_upto_region 1 with fail
  have RA_1 := Lib.hid (((row_last w (w.heap.size) 23 [.int .i64 x0, .int .i64 x1, .int .i64 y0, .int .i64 y1] (by simp)).alloc (.cells #[.int .i64 u0, .int .i64 u1, .int .i64 v0, .int .i64 v1] 23)).alloc (.cells #[.int .u64 0, .int .u64 0, .int .u64 0, .int .u64 0] 77))
  have RB_1 := Lib.hid ((row_last (w.alloc (.cells #[.int .i64 x0, .int .i64 x1, .int .i64 y0, .int .i64 y1] 23)) (w.heap.size + 1) 23 [.int .i64 u0, .int .i64 u1, .int .i64 v0, .int .i64 v1] (by simp)).alloc (.cells #[.int .u64 0, .int .u64 0, .int .u64 0, .int .u64 0] 77))
  have RR_1 := Lib.hid (row_last ((w.alloc (.cells #[.int .i64 x0, .int .i64 x1, .int .i64 y0, .int .i64 y1] 23)).alloc (.cells #[.int .i64 u0, .int .i64 u1, .int .i64 v0, .int .i64 v1] 23)) (w.heap.size + 1 + 1) 77 [.int .u64 0, .int .u64 0, .int .u64 0, .int .u64 0] (by simp))
  have B_1 := Lib.hid ((((Below.refl w.heap.size w).alloc (Nat.le_refl _) (.cells #[.int .i64 x0, .int .i64 x1, .int .i64 y0, .int .i64 y1] 23)).alloc (by have := Nat.le_refl w.heap.size; simp <;> omega) (.cells #[.int .i64 u0, .int .i64 u1, .int .i64 v0, .int .i64 v1] 23)).alloc (by have := Nat.le_refl w.heap.size; simp <;> omega) (.cells #[.int .u64 0, .int .u64 0, .int .u64 0, .int .u64 0] 77))
  generalize (((w.alloc (.cells #[.int .i64 x0, .int .i64 x1, .int .i64 y0, .int .i64 y1] 23)).alloc (.cells #[.int .i64 u0, .int .i64 u1, .int .i64 v0, .int .i64 v1] 23)).alloc (.cells #[.int .u64 0, .int .u64 0, .int .u64 0, .int .u64 0] 77)) = V1 at RA_1 RB_1 RR_1 B_1 ⊢
  have c3_0 := RA_1.out.cell 0
  have c3_1 := RA_1.out.cell 1
  have c3_2 := RA_1.out.cell 2
  have c3_3 := RA_1.out.cell 3
  simp only [List.getElem?_cons_zero, List.getElem?_cons_succ] at c3_0 c3_1 c3_2 c3_3
  have c4_0 := RB_1.out.cell 0
  have c4_1 := RB_1.out.cell 1
  have c4_2 := RB_1.out.cell 2
  have c4_3 := RB_1.out.cell 3
  simp only [List.getElem?_cons_zero, List.getElem?_cons_succ] at c4_0 c4_1 c4_2 c4_3
  go_wp2_with fail
  refine (HU.out _).mono ?_
  rintro e W2 ⟨rfl, hb⟩
  clear c3_0 c3_1 c3_2 c3_3 c4_0 c4_1 c4_2 c4_3
  have RA_5 := Lib.hid (RA_1.out.below hb RA_1.out.lt)
  have RB_5 := Lib.hid (RB_1.out.below hb RB_1.out.lt)
  have RR_5 := Lib.hid (RR_1.out.below hb RR_1.out.lt)
  have B_5 := Lib.hid (B_1.out.trans (hb.mono B_1.out.size))
  clear hb RA_1 RB_1 RR_1 B_1
  go_upto_region 2 with fail
  have hlt6_0 : w.heap.size < W2.heap.size := RA_5.out.lt
  have hlt6_1 : w.heap.size + 1 < W2.heap.size := RB_5.out.lt
  have hlt6_2 : w.heap.size + 1 + 1 < W2.heap.size := RR_5.out.lt
  have RA_6 := Lib.hid (RA_5.out.alloc (.cells #[.int .i64 m0, .int .i64 m1, .int .i64 m2, .int .i64 m3] 23))
  have RB_6 := Lib.hid (RB_5.out.alloc (.cells #[.int .i64 m0, .int .i64 m1, .int .i64 m2, .int .i64 m3] 23))
  have RR_6 := Lib.hid (RR_5.out.alloc (.cells #[.int .i64 m0, .int .i64 m1, .int .i64 m2, .int .i64 m3] 23))
  have RM_6 := Lib.hid (row_last W2 (W2.heap.size) 23 [.int .i64 m0, .int .i64 m1, .int .i64 m2, .int .i64 m3] (by simp))
  have B_6 := Lib.hid (B_5.out.alloc B_5.out.size (.cells #[.int .i64 m0, .int .i64 m1, .int .i64 m2, .int .i64 m3] 23))
  clear RA_5 RB_5 RR_5 B_5
  generalize (W2.alloc (.cells #[.int .i64 m0, .int .i64 m1, .int .i64 m2, .int .i64 m3] 23)) = V6 at RA_6 RB_6 RR_6 RM_6 B_6 ⊢
  go_cut [6] from 10 to 17 (fun t wx => NewR V6 33 [.int .u64 (ah : Int), .int .u64 (al : Int)] t wx)
  case first =>
    refine wp_region_held_drew (S := fun w' => Below V6.heap.size V6 w') (by kernel_rfl) (Below.refl _ _).drew (fun hHeld => ?_)
    have S_7 := Lib.hid hHeld
    clear hHeld
    generalize V6.drew = D7 at S_7 ⊢
    refine wpAnyH_take (i := 0) (oi := ⟨some 10, _, _, _, _, _⟩) (v := ?vd7_1) rfl (by kernel_rfl) (by kernel_rfl) (by kernel_rfl) (fun _ _ _ h => h) (Or.inl ⟨by rfl, ?yd7_1⟩) S_7.out ?rd7_1
    case yd7_1 =>
      rintro w' hSw
      have k0 := (RM_6.out.below hSw RM_6.out.lt).cell 0
      have k1 := (RM_6.out.below hSw RM_6.out.lt).cell 1
      have k2 := (RM_6.out.below hSw RM_6.out.lt).cell 2
      have k3 := (RM_6.out.below hSw RM_6.out.lt).cell 3
      simp only [List.getElem?_cons_zero, List.getElem?_cons_succ] at k0 k1 k2 k3
      go_simp
      try with_reducible rfl
    try simp only [Act.put, List.setIfInBounds_toArray, List.set_cons_zero, List.set_cons_succ]
    refine wpAnyH_take (i := 2) (oi := ⟨some 12, _, _, _, _, _⟩) (v := ?vd7_2) rfl (by kernel_rfl) (by kernel_rfl) (by kernel_rfl) (fun _ _ _ h => h) (Or.inl ⟨by rfl, ?yd7_2⟩) S_7.out ?rd7_2
    case yd7_2 =>
      rintro w' hSw
      have k0 := (RA_6.out.below hSw RA_6.out.lt).cell 0
      have k1 := (RA_6.out.below hSw RA_6.out.lt).cell 1
      have k2 := (RA_6.out.below hSw RA_6.out.lt).cell 2
      have k3 := (RA_6.out.below hSw RA_6.out.lt).cell 3
      simp only [List.getElem?_cons_zero, List.getElem?_cons_succ] at k0 k1 k2 k3
      go_simp
      try with_reducible rfl
    try simp only [Act.put, List.setIfInBounds_toArray, List.set_cons_zero, List.set_cons_succ]
    refine wpAnyH_take (i := 5) (oi := ⟨some 15, _, _, _, _, _⟩) (v := ?vd7_3) rfl (by kernel_rfl) (by kernel_rfl) (by kernel_rfl) (fun _ _ _ h => h) (Or.inl ⟨by rfl, ?yd7_3⟩) S_7.out ?rd7_3
    case yd7_3 =>
      rintro w' hSw
      have k0 := (RB_6.out.below hSw RB_6.out.lt).cell 0
      have k1 := (RB_6.out.below hSw RB_6.out.lt).cell 1
      have k2 := (RB_6.out.below hSw RB_6.out.lt).cell 2
      have k3 := (RB_6.out.below hSw RB_6.out.lt).cell 3
      simp only [List.getElem?_cons_zero, List.getElem?_cons_succ] at k0 k1 k2 k3
      go_simp
      try with_reducible rfl
    try simp only [Act.put, List.setIfInBounds_toArray, List.set_cons_zero, List.set_cons_succ]
    refine wpAnyH_ready (rs := [1, 8]) (by kernel_rfl) (by simp) ?_
    refine (AllReadyH.cons rfl (fun K hK => ?_) (AllReadyH.cons rfl (fun K hK => ?_) AllReadyH.nil))
    · go_simp
      refine (HA1.out _).mono ?_
      rintro e Xd7_4 ⟨rfl, hb⟩
      have Sd7_4 := Lib.hid (S_7.out.trans (hb.mono S_7.out.size))
      clear hb S_7
      refine hK _ _ Sd7_4.out (fun _ => ?_)
      clear hK K
      try simp only [Act.put, List.setIfInBounds_toArray, List.set_cons_zero, List.set_cons_succ]
      refine wpAnyH_ready (rs := [3, 8]) (by kernel_rfl) (by simp) ?_
      refine (AllReadyH.cons rfl (fun K hK => ?_) (AllReadyH.cons rfl (fun K hK => ?_) AllReadyH.nil))
      · go_simp
        refine (HA2.out _).mono ?_
        rintro e Xd7_5 ⟨rfl, hb⟩
        have Sd7_5 := Lib.hid (Sd7_4.out.trans (hb.mono Sd7_4.out.size))
        clear hb Sd7_4
        refine hK _ _ Sd7_5.out (fun _ => ?_)
        clear hK K
        try simp only [Act.put, List.setIfInBounds_toArray, List.set_cons_zero, List.set_cons_succ]
        refine wpAnyH_ready (rs := [4, 8]) (by kernel_rfl) (by simp) ?_
        refine (AllReadyH.cons rfl (fun K hK => ?_) (AllReadyH.cons rfl (fun K hK => ?_) AllReadyH.nil))
        · go_simp
          refine (HB1.out _).mono ?_
          rintro e Xd7_6 ⟨rfl, hb⟩
          have Sd7_6 := Lib.hid (Sd7_5.out.trans (hb.mono Sd7_5.out.size))
          clear hb Sd7_5
          refine hK _ _ Sd7_6.out (fun _ => ?_)
          clear hK K
          try simp only [Act.put, List.setIfInBounds_toArray, List.set_cons_zero, List.set_cons_succ]
          refine wpAnyH_ready (rs := [6, 8]) (by kernel_rfl) (by simp) ?_
          refine (AllReadyH.cons rfl (fun K hK => ?_) (AllReadyH.cons rfl (fun K hK => ?_) AllReadyH.nil))
          · go_simp
            refine (HA3.out _).mono ?_
            rintro e Xd7_7 ⟨rfl, hb⟩
            have Sd7_7 := Lib.hid (Sd7_6.out.trans (hb.mono Sd7_6.out.size))
            clear hb Sd7_6
            refine hK _ _ Sd7_7.out (fun _ => ?_)
            clear hK K
            try simp only [Act.put, List.setIfInBounds_toArray, List.set_cons_zero, List.set_cons_succ]
            refine wpAnyH_ready (rs := [7, 8]) (by kernel_rfl) (by simp) ?_
            refine (AllReadyH.cons rfl (fun K hK => ?_) (AllReadyH.cons rfl (fun K hK => ?_) AllReadyH.nil))
            · go_simp
              refine (HB2.out _).mono ?_
              rintro e Xd7_8 ⟨rfl, hb⟩
              have Sd7_8 := Lib.hid (Sd7_7.out.trans (hb.mono Sd7_7.out.size))
              clear hb Sd7_7
              refine hK _ _ Sd7_8.out (fun _ => ?_)
              clear hK K
              try simp only [Act.put, List.setIfInBounds_toArray, List.set_cons_zero, List.set_cons_succ]
              refine wpAnyH_ready (rs := [8]) (by kernel_rfl) (by simp) ?_
              refine (AllReadyH.cons rfl (fun K hK => ?_) AllReadyH.nil)
              rw [if_pos (by rfl)]
              go_simp
              have hr := Lib.hid (row_last Xd7_8 Xd7_8.heap.size 33 [.int .u64 0, .int .u64 0] rfl)
              have Sd7_9 := Lib.hid (Sd7_8.out.alloc Sd7_8.out.size (.cells #[.int .u64 0, .int .u64 0] 33))
              obtain ⟨gRDd7_9, hgRDd7_9⟩ : ∃ g, g = Xd7_8.heap.size := ⟨_, rfl⟩
              have ngRDd7_9 : V6.heap.size ≤ gRDd7_9 := by rw [hgRDd7_9]; exact Sd7_8.out.size
              rw [← hgRDd7_9] at hr ⊢
              have RDnd7_9 := hr
              clear hr hgRDd7_9 Sd7_8 
              generalize Xd7_8.alloc (.cells #[.int .u64 0, .int .u64 0] 33) = Xd7_9 at Sd7_9 RDnd7_9 ⊢
              refine hK _ _ Sd7_9.out (fun _ => ?_)
              clear hK K
              try simp only [Act.put, List.setIfInBounds_toArray, List.set_cons_zero, List.set_cons_succ]
              refine wpAnyH_ready (rs := [9]) (by kernel_rfl) (by simp) ?_
              refine (AllReadyH.cons rfl (fun K hK => ?_) AllReadyH.nil)
              have f0 := RDnd7_9.out.frozen 0
              have k0 := RDnd7_9.out.cell 0
              have f1 := RDnd7_9.out.frozen 1
              have k1 := RDnd7_9.out.cell 1
              simp only [List.getElem?_cons_zero, List.getElem?_cons_succ] at k0 k1
              rw [if_pos (by rfl)]
              go_simp
              clear f0 k0 f1 k1
              have RDsd7_10 : Hid (Row ((Xd7_9.setCell ⟨gRDd7_9, 0, none⟩ (.int .u64 (ah : Int))).setCell ⟨gRDd7_9, 1, none⟩ (.int .u64 (al : Int))) gRDd7_9 33 [.int .u64 (ah : Int), .int .u64 (al : Int)]) := Lib.hid ((RDnd7_9.out.store 0 (.int .u64 (ah : Int))).store 1 (.int .u64 (al : Int)))
              have Sd7_10 := Lib.hid ((Sd7_9.out.setCell (p := ⟨gRDd7_9, 0, none⟩) (by dsimp only; omega) (.int .u64 (ah : Int))).setCell (p := ⟨gRDd7_9, 1, none⟩) (by dsimp only; omega) (.int .u64 (al : Int)))
              clear Sd7_9 RDnd7_9
              generalize ((Xd7_9.setCell ⟨gRDd7_9, 0, none⟩ (.int .u64 (ah : Int))).setCell ⟨gRDd7_9, 1, none⟩ (.int .u64 (al : Int))) = Xd7_10 at Sd7_10 RDsd7_10 ⊢
              refine hK _ _ Sd7_10.out (fun _ => ?_)
              clear hK K
              try simp only [Act.put, List.setIfInBounds_toArray, List.set_cons_zero, List.set_cons_succ]
              refine wpAnyH_done (by kernel_rfl) ?_ _
              go_wp2_with fail
              go_meet
              exact ⟨gRDd7_9, rfl, RDsd7_10.out, ngRDd7_9, Sd7_10.out⟩
            · rw [if_pos (by rfl)]
              go_simp
              have hr := Lib.hid (row_last Xd7_7 Xd7_7.heap.size 33 [.int .u64 0, .int .u64 0] rfl)
              have Sd7_11 := Lib.hid (Sd7_7.out.alloc Sd7_7.out.size (.cells #[.int .u64 0, .int .u64 0] 33))
              obtain ⟨gRDd7_11, hgRDd7_11⟩ : ∃ g, g = Xd7_7.heap.size := ⟨_, rfl⟩
              have ngRDd7_11 : V6.heap.size ≤ gRDd7_11 := by rw [hgRDd7_11]; exact Sd7_7.out.size
              rw [← hgRDd7_11] at hr ⊢
              have RDnd7_11 := hr
              clear hr hgRDd7_11 Sd7_7 
              generalize Xd7_7.alloc (.cells #[.int .u64 0, .int .u64 0] 33) = Xd7_11 at Sd7_11 RDnd7_11 ⊢
              refine hK _ _ Sd7_11.out (fun _ => ?_)
              clear hK K
              try simp only [Act.put, List.setIfInBounds_toArray, List.set_cons_zero, List.set_cons_succ]
              refine wpAnyH_ready (rs := [7]) (by kernel_rfl) (by simp) ?_
              refine (AllReadyH.cons rfl (fun K hK => ?_) AllReadyH.nil)
              go_simp
              refine (HB2.out _).mono ?_
              rintro e Xd7_12 ⟨rfl, hb⟩
              have Sd7_12 := Lib.hid (Sd7_11.out.trans (hb.mono Sd7_11.out.size))
              have RDcd7_12 := Lib.hid (RDnd7_11.out.below hb RDnd7_11.out.lt)
              clear hb Sd7_11 RDnd7_11
              refine hK _ _ Sd7_12.out (fun _ => ?_)
              clear hK K
              try simp only [Act.put, List.setIfInBounds_toArray, List.set_cons_zero, List.set_cons_succ]
              refine wpAnyH_ready (rs := [9]) (by kernel_rfl) (by simp) ?_
              refine (AllReadyH.cons rfl (fun K hK => ?_) AllReadyH.nil)
              have f0 := RDcd7_12.out.frozen 0
              have k0 := RDcd7_12.out.cell 0
              have f1 := RDcd7_12.out.frozen 1
              have k1 := RDcd7_12.out.cell 1
              simp only [List.getElem?_cons_zero, List.getElem?_cons_succ] at k0 k1
              rw [if_pos (by rfl)]
              go_simp
              clear f0 k0 f1 k1
              have RDsd7_13 : Hid (Row ((Xd7_12.setCell ⟨gRDd7_11, 0, none⟩ (.int .u64 (ah : Int))).setCell ⟨gRDd7_11, 1, none⟩ (.int .u64 (al : Int))) gRDd7_11 33 [.int .u64 (ah : Int), .int .u64 (al : Int)]) := Lib.hid ((RDcd7_12.out.store 0 (.int .u64 (ah : Int))).store 1 (.int .u64 (al : Int)))
              have Sd7_13 := Lib.hid ((Sd7_12.out.setCell (p := ⟨gRDd7_11, 0, none⟩) (by dsimp only; omega) (.int .u64 (ah : Int))).setCell (p := ⟨gRDd7_11, 1, none⟩) (by dsimp only; omega) (.int .u64 (al : Int)))
              clear Sd7_12 RDcd7_12
              generalize ((Xd7_12.setCell ⟨gRDd7_11, 0, none⟩ (.int .u64 (ah : Int))).setCell ⟨gRDd7_11, 1, none⟩ (.int .u64 (al : Int))) = Xd7_13 at Sd7_13 RDsd7_13 ⊢
              refine hK _ _ Sd7_13.out (fun _ => ?_)
              clear hK K
              try simp only [Act.put, List.setIfInBounds_toArray, List.set_cons_zero, List.set_cons_succ]
              refine wpAnyH_done (by kernel_rfl) ?_ _
              go_wp2_with fail
              go_meet
              exact ⟨gRDd7_11, rfl, RDsd7_13.out, ngRDd7_11, Sd7_13.out⟩
          · rw [if_pos (by rfl)]
            go_simp
            have hr := Lib.hid (row_last Xd7_6 Xd7_6.heap.size 33 [.int .u64 0, .int .u64 0] rfl)
            have Sd7_14 := Lib.hid (Sd7_6.out.alloc Sd7_6.out.size (.cells #[.int .u64 0, .int .u64 0] 33))
            obtain ⟨gRDd7_14, hgRDd7_14⟩ : ∃ g, g = Xd7_6.heap.size := ⟨_, rfl⟩
            have ngRDd7_14 : V6.heap.size ≤ gRDd7_14 := by rw [hgRDd7_14]; exact Sd7_6.out.size
            rw [← hgRDd7_14] at hr ⊢
            have RDnd7_14 := hr
            clear hr hgRDd7_14 Sd7_6 
            generalize Xd7_6.alloc (.cells #[.int .u64 0, .int .u64 0] 33) = Xd7_14 at Sd7_14 RDnd7_14 ⊢
            refine hK _ _ Sd7_14.out (fun _ => ?_)
            clear hK K
            try simp only [Act.put, List.setIfInBounds_toArray, List.set_cons_zero, List.set_cons_succ]
            refine wpAnyH_ready (rs := [6]) (by kernel_rfl) (by simp) ?_
            refine (AllReadyH.cons rfl (fun K hK => ?_) AllReadyH.nil)
            go_simp
            refine (HA3.out _).mono ?_
            rintro e Xd7_15 ⟨rfl, hb⟩
            have Sd7_15 := Lib.hid (Sd7_14.out.trans (hb.mono Sd7_14.out.size))
            have RDcd7_15 := Lib.hid (RDnd7_14.out.below hb RDnd7_14.out.lt)
            clear hb Sd7_14 RDnd7_14
            refine hK _ _ Sd7_15.out (fun _ => ?_)
            clear hK K
            try simp only [Act.put, List.setIfInBounds_toArray, List.set_cons_zero, List.set_cons_succ]
            refine wpAnyH_ready (rs := [7]) (by kernel_rfl) (by simp) ?_
            refine (AllReadyH.cons rfl (fun K hK => ?_) AllReadyH.nil)
            go_simp
            refine (HB2.out _).mono ?_
            rintro e Xd7_16 ⟨rfl, hb⟩
            have Sd7_16 := Lib.hid (Sd7_15.out.trans (hb.mono Sd7_15.out.size))
            have RDcd7_16 := Lib.hid (RDcd7_15.out.below hb RDcd7_15.out.lt)
            clear hb Sd7_15 RDcd7_15
            refine hK _ _ Sd7_16.out (fun _ => ?_)
            clear hK K
            try simp only [Act.put, List.setIfInBounds_toArray, List.set_cons_zero, List.set_cons_succ]
            refine wpAnyH_ready (rs := [9]) (by kernel_rfl) (by simp) ?_
            refine (AllReadyH.cons rfl (fun K hK => ?_) AllReadyH.nil)
            have f0 := RDcd7_16.out.frozen 0
            have k0 := RDcd7_16.out.cell 0
            have f1 := RDcd7_16.out.frozen 1
            have k1 := RDcd7_16.out.cell 1
            simp only [List.getElem?_cons_zero, List.getElem?_cons_succ] at k0 k1
            rw [if_pos (by rfl)]
            go_simp
            clear f0 k0 f1 k1
            have RDsd7_17 : Hid (Row ((Xd7_16.setCell ⟨gRDd7_14, 0, none⟩ (.int .u64 (ah : Int))).setCell ⟨gRDd7_14, 1, none⟩ (.int .u64 (al : Int))) gRDd7_14 33 [.int .u64 (ah : Int), .int .u64 (al : Int)]) := Lib.hid ((RDcd7_16.out.store 0 (.int .u64 (ah : Int))).store 1 (.int .u64 (al : Int)))
            have Sd7_17 := Lib.hid ((Sd7_16.out.setCell (p := ⟨gRDd7_14, 0, none⟩) (by dsimp only; omega) (.int .u64 (ah : Int))).setCell (p := ⟨gRDd7_14, 1, none⟩) (by dsimp only; omega) (.int .u64 (al : Int)))
            clear Sd7_16 RDcd7_16
            generalize ((Xd7_16.setCell ⟨gRDd7_14, 0, none⟩ (.int .u64 (ah : Int))).setCell ⟨gRDd7_14, 1, none⟩ (.int .u64 (al : Int))) = Xd7_17 at Sd7_17 RDsd7_17 ⊢
            refine hK _ _ Sd7_17.out (fun _ => ?_)
            clear hK K
            try simp only [Act.put, List.setIfInBounds_toArray, List.set_cons_zero, List.set_cons_succ]
            refine wpAnyH_done (by kernel_rfl) ?_ _
            go_wp2_with fail
            go_meet
            exact ⟨gRDd7_14, rfl, RDsd7_17.out, ngRDd7_14, Sd7_17.out⟩
        · rw [if_pos (by rfl)]
          go_simp
          have hr := Lib.hid (row_last Xd7_5 Xd7_5.heap.size 33 [.int .u64 0, .int .u64 0] rfl)
          have Sd7_18 := Lib.hid (Sd7_5.out.alloc Sd7_5.out.size (.cells #[.int .u64 0, .int .u64 0] 33))
          obtain ⟨gRDd7_18, hgRDd7_18⟩ : ∃ g, g = Xd7_5.heap.size := ⟨_, rfl⟩
          have ngRDd7_18 : V6.heap.size ≤ gRDd7_18 := by rw [hgRDd7_18]; exact Sd7_5.out.size
          rw [← hgRDd7_18] at hr ⊢
          have RDnd7_18 := hr
          clear hr hgRDd7_18 Sd7_5 
          generalize Xd7_5.alloc (.cells #[.int .u64 0, .int .u64 0] 33) = Xd7_18 at Sd7_18 RDnd7_18 ⊢
          refine hK _ _ Sd7_18.out (fun _ => ?_)
          clear hK K
          try simp only [Act.put, List.setIfInBounds_toArray, List.set_cons_zero, List.set_cons_succ]
          refine wpAnyH_ready (rs := [4]) (by kernel_rfl) (by simp) ?_
          refine (AllReadyH.cons rfl (fun K hK => ?_) AllReadyH.nil)
          go_simp
          refine (HB1.out _).mono ?_
          rintro e Xd7_19 ⟨rfl, hb⟩
          have Sd7_19 := Lib.hid (Sd7_18.out.trans (hb.mono Sd7_18.out.size))
          have RDcd7_19 := Lib.hid (RDnd7_18.out.below hb RDnd7_18.out.lt)
          clear hb Sd7_18 RDnd7_18
          refine hK _ _ Sd7_19.out (fun _ => ?_)
          clear hK K
          try simp only [Act.put, List.setIfInBounds_toArray, List.set_cons_zero, List.set_cons_succ]
          refine wpAnyH_ready (rs := [6]) (by kernel_rfl) (by simp) ?_
          refine (AllReadyH.cons rfl (fun K hK => ?_) AllReadyH.nil)
          go_simp
          refine (HA3.out _).mono ?_
          rintro e Xd7_20 ⟨rfl, hb⟩
          have Sd7_20 := Lib.hid (Sd7_19.out.trans (hb.mono Sd7_19.out.size))
          have RDcd7_20 := Lib.hid (RDcd7_19.out.below hb RDcd7_19.out.lt)
          clear hb Sd7_19 RDcd7_19
          refine hK _ _ Sd7_20.out (fun _ => ?_)
          clear hK K
          try simp only [Act.put, List.setIfInBounds_toArray, List.set_cons_zero, List.set_cons_succ]
          refine wpAnyH_ready (rs := [7]) (by kernel_rfl) (by simp) ?_
          refine (AllReadyH.cons rfl (fun K hK => ?_) AllReadyH.nil)
          go_simp
          refine (HB2.out _).mono ?_
          rintro e Xd7_21 ⟨rfl, hb⟩
          have Sd7_21 := Lib.hid (Sd7_20.out.trans (hb.mono Sd7_20.out.size))
          have RDcd7_21 := Lib.hid (RDcd7_20.out.below hb RDcd7_20.out.lt)
          clear hb Sd7_20 RDcd7_20
          refine hK _ _ Sd7_21.out (fun _ => ?_)
          clear hK K
          try simp only [Act.put, List.setIfInBounds_toArray, List.set_cons_zero, List.set_cons_succ]
          refine wpAnyH_ready (rs := [9]) (by kernel_rfl) (by simp) ?_
          refine (AllReadyH.cons rfl (fun K hK => ?_) AllReadyH.nil)
          have f0 := RDcd7_21.out.frozen 0
          have k0 := RDcd7_21.out.cell 0
          have f1 := RDcd7_21.out.frozen 1
          have k1 := RDcd7_21.out.cell 1
          simp only [List.getElem?_cons_zero, List.getElem?_cons_succ] at k0 k1
          rw [if_pos (by rfl)]
          go_simp
          clear f0 k0 f1 k1
          have RDsd7_22 : Hid (Row ((Xd7_21.setCell ⟨gRDd7_18, 0, none⟩ (.int .u64 (ah : Int))).setCell ⟨gRDd7_18, 1, none⟩ (.int .u64 (al : Int))) gRDd7_18 33 [.int .u64 (ah : Int), .int .u64 (al : Int)]) := Lib.hid ((RDcd7_21.out.store 0 (.int .u64 (ah : Int))).store 1 (.int .u64 (al : Int)))
          have Sd7_22 := Lib.hid ((Sd7_21.out.setCell (p := ⟨gRDd7_18, 0, none⟩) (by dsimp only; omega) (.int .u64 (ah : Int))).setCell (p := ⟨gRDd7_18, 1, none⟩) (by dsimp only; omega) (.int .u64 (al : Int)))
          clear Sd7_21 RDcd7_21
          generalize ((Xd7_21.setCell ⟨gRDd7_18, 0, none⟩ (.int .u64 (ah : Int))).setCell ⟨gRDd7_18, 1, none⟩ (.int .u64 (al : Int))) = Xd7_22 at Sd7_22 RDsd7_22 ⊢
          refine hK _ _ Sd7_22.out (fun _ => ?_)
          clear hK K
          try simp only [Act.put, List.setIfInBounds_toArray, List.set_cons_zero, List.set_cons_succ]
          refine wpAnyH_done (by kernel_rfl) ?_ _
          go_wp2_with fail
          go_meet
          exact ⟨gRDd7_18, rfl, RDsd7_22.out, ngRDd7_18, Sd7_22.out⟩
      · rw [if_pos (by rfl)]
        go_simp
        have hr := Lib.hid (row_last Xd7_4 Xd7_4.heap.size 33 [.int .u64 0, .int .u64 0] rfl)
        have Sd7_23 := Lib.hid (Sd7_4.out.alloc Sd7_4.out.size (.cells #[.int .u64 0, .int .u64 0] 33))
        obtain ⟨gRDd7_23, hgRDd7_23⟩ : ∃ g, g = Xd7_4.heap.size := ⟨_, rfl⟩
        have ngRDd7_23 : V6.heap.size ≤ gRDd7_23 := by rw [hgRDd7_23]; exact Sd7_4.out.size
        rw [← hgRDd7_23] at hr ⊢
        have RDnd7_23 := hr
        clear hr hgRDd7_23 Sd7_4 
        generalize Xd7_4.alloc (.cells #[.int .u64 0, .int .u64 0] 33) = Xd7_23 at Sd7_23 RDnd7_23 ⊢
        refine hK _ _ Sd7_23.out (fun _ => ?_)
        clear hK K
        try simp only [Act.put, List.setIfInBounds_toArray, List.set_cons_zero, List.set_cons_succ]
        refine wpAnyH_ready (rs := [3]) (by kernel_rfl) (by simp) ?_
        refine (AllReadyH.cons rfl (fun K hK => ?_) AllReadyH.nil)
        go_simp
        refine (HA2.out _).mono ?_
        rintro e Xd7_24 ⟨rfl, hb⟩
        have Sd7_24 := Lib.hid (Sd7_23.out.trans (hb.mono Sd7_23.out.size))
        have RDcd7_24 := Lib.hid (RDnd7_23.out.below hb RDnd7_23.out.lt)
        clear hb Sd7_23 RDnd7_23
        refine hK _ _ Sd7_24.out (fun _ => ?_)
        clear hK K
        try simp only [Act.put, List.setIfInBounds_toArray, List.set_cons_zero, List.set_cons_succ]
        refine wpAnyH_ready (rs := [4]) (by kernel_rfl) (by simp) ?_
        refine (AllReadyH.cons rfl (fun K hK => ?_) AllReadyH.nil)
        go_simp
        refine (HB1.out _).mono ?_
        rintro e Xd7_25 ⟨rfl, hb⟩
        have Sd7_25 := Lib.hid (Sd7_24.out.trans (hb.mono Sd7_24.out.size))
        have RDcd7_25 := Lib.hid (RDcd7_24.out.below hb RDcd7_24.out.lt)
        clear hb Sd7_24 RDcd7_24
        refine hK _ _ Sd7_25.out (fun _ => ?_)
        clear hK K
        try simp only [Act.put, List.setIfInBounds_toArray, List.set_cons_zero, List.set_cons_succ]
        refine wpAnyH_ready (rs := [6]) (by kernel_rfl) (by simp) ?_
        refine (AllReadyH.cons rfl (fun K hK => ?_) AllReadyH.nil)
        go_simp
        refine (HA3.out _).mono ?_
        rintro e Xd7_26 ⟨rfl, hb⟩
        have Sd7_26 := Lib.hid (Sd7_25.out.trans (hb.mono Sd7_25.out.size))
        have RDcd7_26 := Lib.hid (RDcd7_25.out.below hb RDcd7_25.out.lt)
        clear hb Sd7_25 RDcd7_25
        refine hK _ _ Sd7_26.out (fun _ => ?_)
        clear hK K
        try simp only [Act.put, List.setIfInBounds_toArray, List.set_cons_zero, List.set_cons_succ]
        refine wpAnyH_ready (rs := [7]) (by kernel_rfl) (by simp) ?_
        refine (AllReadyH.cons rfl (fun K hK => ?_) AllReadyH.nil)
        go_simp
        refine (HB2.out _).mono ?_
        rintro e Xd7_27 ⟨rfl, hb⟩
        have Sd7_27 := Lib.hid (Sd7_26.out.trans (hb.mono Sd7_26.out.size))
        have RDcd7_27 := Lib.hid (RDcd7_26.out.below hb RDcd7_26.out.lt)
        clear hb Sd7_26 RDcd7_26
        refine hK _ _ Sd7_27.out (fun _ => ?_)
        clear hK K
        try simp only [Act.put, List.setIfInBounds_toArray, List.set_cons_zero, List.set_cons_succ]
        refine wpAnyH_ready (rs := [9]) (by kernel_rfl) (by simp) ?_
        refine (AllReadyH.cons rfl (fun K hK => ?_) AllReadyH.nil)
        have f0 := RDcd7_27.out.frozen 0
        have k0 := RDcd7_27.out.cell 0
        have f1 := RDcd7_27.out.frozen 1
        have k1 := RDcd7_27.out.cell 1
        simp only [List.getElem?_cons_zero, List.getElem?_cons_succ] at k0 k1
        rw [if_pos (by rfl)]
        go_simp
        clear f0 k0 f1 k1
        have RDsd7_28 : Hid (Row ((Xd7_27.setCell ⟨gRDd7_23, 0, none⟩ (.int .u64 (ah : Int))).setCell ⟨gRDd7_23, 1, none⟩ (.int .u64 (al : Int))) gRDd7_23 33 [.int .u64 (ah : Int), .int .u64 (al : Int)]) := Lib.hid ((RDcd7_27.out.store 0 (.int .u64 (ah : Int))).store 1 (.int .u64 (al : Int)))
        have Sd7_28 := Lib.hid ((Sd7_27.out.setCell (p := ⟨gRDd7_23, 0, none⟩) (by dsimp only; omega) (.int .u64 (ah : Int))).setCell (p := ⟨gRDd7_23, 1, none⟩) (by dsimp only; omega) (.int .u64 (al : Int)))
        clear Sd7_27 RDcd7_27
        generalize ((Xd7_27.setCell ⟨gRDd7_23, 0, none⟩ (.int .u64 (ah : Int))).setCell ⟨gRDd7_23, 1, none⟩ (.int .u64 (al : Int))) = Xd7_28 at Sd7_28 RDsd7_28 ⊢
        refine hK _ _ Sd7_28.out (fun _ => ?_)
        clear hK K
        try simp only [Act.put, List.setIfInBounds_toArray, List.set_cons_zero, List.set_cons_succ]
        refine wpAnyH_done (by kernel_rfl) ?_ _
        go_wp2_with fail
        go_meet
        exact ⟨gRDd7_23, rfl, RDsd7_28.out, ngRDd7_23, Sd7_28.out⟩
    · rw [if_pos (by rfl)]
      go_simp
      have hr := Lib.hid (row_last D7 D7.heap.size 33 [.int .u64 0, .int .u64 0] rfl)
      have Sd7_29 := Lib.hid (S_7.out.alloc S_7.out.size (.cells #[.int .u64 0, .int .u64 0] 33))
      obtain ⟨gRDd7_29, hgRDd7_29⟩ : ∃ g, g = D7.heap.size := ⟨_, rfl⟩
      have ngRDd7_29 : V6.heap.size ≤ gRDd7_29 := by rw [hgRDd7_29]; exact S_7.out.size
      rw [← hgRDd7_29] at hr ⊢
      have RDnd7_29 := hr
      clear hr hgRDd7_29 S_7 
      generalize D7.alloc (.cells #[.int .u64 0, .int .u64 0] 33) = Xd7_29 at Sd7_29 RDnd7_29 ⊢
      refine hK _ _ Sd7_29.out (fun _ => ?_)
      clear hK K
      try simp only [Act.put, List.setIfInBounds_toArray, List.set_cons_zero, List.set_cons_succ]
      refine wpAnyH_ready (rs := [1]) (by kernel_rfl) (by simp) ?_
      refine (AllReadyH.cons rfl (fun K hK => ?_) AllReadyH.nil)
      go_simp
      refine (HA1.out _).mono ?_
      rintro e Xd7_30 ⟨rfl, hb⟩
      have Sd7_30 := Lib.hid (Sd7_29.out.trans (hb.mono Sd7_29.out.size))
      have RDcd7_30 := Lib.hid (RDnd7_29.out.below hb RDnd7_29.out.lt)
      clear hb Sd7_29 RDnd7_29
      refine hK _ _ Sd7_30.out (fun _ => ?_)
      clear hK K
      try simp only [Act.put, List.setIfInBounds_toArray, List.set_cons_zero, List.set_cons_succ]
      refine wpAnyH_ready (rs := [3]) (by kernel_rfl) (by simp) ?_
      refine (AllReadyH.cons rfl (fun K hK => ?_) AllReadyH.nil)
      go_simp
      refine (HA2.out _).mono ?_
      rintro e Xd7_31 ⟨rfl, hb⟩
      have Sd7_31 := Lib.hid (Sd7_30.out.trans (hb.mono Sd7_30.out.size))
      have RDcd7_31 := Lib.hid (RDcd7_30.out.below hb RDcd7_30.out.lt)
      clear hb Sd7_30 RDcd7_30
      refine hK _ _ Sd7_31.out (fun _ => ?_)
      clear hK K
      try simp only [Act.put, List.setIfInBounds_toArray, List.set_cons_zero, List.set_cons_succ]
      refine wpAnyH_ready (rs := [4]) (by kernel_rfl) (by simp) ?_
      refine (AllReadyH.cons rfl (fun K hK => ?_) AllReadyH.nil)
      go_simp
      refine (HB1.out _).mono ?_
      rintro e Xd7_32 ⟨rfl, hb⟩
      have Sd7_32 := Lib.hid (Sd7_31.out.trans (hb.mono Sd7_31.out.size))
      have RDcd7_32 := Lib.hid (RDcd7_31.out.below hb RDcd7_31.out.lt)
      clear hb Sd7_31 RDcd7_31
      refine hK _ _ Sd7_32.out (fun _ => ?_)
      clear hK K
      try simp only [Act.put, List.setIfInBounds_toArray, List.set_cons_zero, List.set_cons_succ]
      refine wpAnyH_ready (rs := [6]) (by kernel_rfl) (by simp) ?_
      refine (AllReadyH.cons rfl (fun K hK => ?_) AllReadyH.nil)
      go_simp
      refine (HA3.out _).mono ?_
      rintro e Xd7_33 ⟨rfl, hb⟩
      have Sd7_33 := Lib.hid (Sd7_32.out.trans (hb.mono Sd7_32.out.size))
      have RDcd7_33 := Lib.hid (RDcd7_32.out.below hb RDcd7_32.out.lt)
      clear hb Sd7_32 RDcd7_32
      refine hK _ _ Sd7_33.out (fun _ => ?_)
      clear hK K
      try simp only [Act.put, List.setIfInBounds_toArray, List.set_cons_zero, List.set_cons_succ]
      refine wpAnyH_ready (rs := [7]) (by kernel_rfl) (by simp) ?_
      refine (AllReadyH.cons rfl (fun K hK => ?_) AllReadyH.nil)
      go_simp
      refine (HB2.out _).mono ?_
      rintro e Xd7_34 ⟨rfl, hb⟩
      have Sd7_34 := Lib.hid (Sd7_33.out.trans (hb.mono Sd7_33.out.size))
      have RDcd7_34 := Lib.hid (RDcd7_33.out.below hb RDcd7_33.out.lt)
      clear hb Sd7_33 RDcd7_33
      refine hK _ _ Sd7_34.out (fun _ => ?_)
      clear hK K
      try simp only [Act.put, List.setIfInBounds_toArray, List.set_cons_zero, List.set_cons_succ]
      refine wpAnyH_ready (rs := [9]) (by kernel_rfl) (by simp) ?_
      refine (AllReadyH.cons rfl (fun K hK => ?_) AllReadyH.nil)
      have f0 := RDcd7_34.out.frozen 0
      have k0 := RDcd7_34.out.cell 0
      have f1 := RDcd7_34.out.frozen 1
      have k1 := RDcd7_34.out.cell 1
      simp only [List.getElem?_cons_zero, List.getElem?_cons_succ] at k0 k1
      rw [if_pos (by rfl)]
      go_simp
      clear f0 k0 f1 k1
      have RDsd7_35 : Hid (Row ((Xd7_34.setCell ⟨gRDd7_29, 0, none⟩ (.int .u64 (ah : Int))).setCell ⟨gRDd7_29, 1, none⟩ (.int .u64 (al : Int))) gRDd7_29 33 [.int .u64 (ah : Int), .int .u64 (al : Int)]) := Lib.hid ((RDcd7_34.out.store 0 (.int .u64 (ah : Int))).store 1 (.int .u64 (al : Int)))
      have Sd7_35 := Lib.hid ((Sd7_34.out.setCell (p := ⟨gRDd7_29, 0, none⟩) (by dsimp only; omega) (.int .u64 (ah : Int))).setCell (p := ⟨gRDd7_29, 1, none⟩) (by dsimp only; omega) (.int .u64 (al : Int)))
      clear Sd7_34 RDcd7_34
      generalize ((Xd7_34.setCell ⟨gRDd7_29, 0, none⟩ (.int .u64 (ah : Int))).setCell ⟨gRDd7_29, 1, none⟩ (.int .u64 (al : Int))) = Xd7_35 at Sd7_35 RDsd7_35 ⊢
      refine hK _ _ Sd7_35.out (fun _ => ?_)
      clear hK K
      try simp only [Act.put, List.setIfInBounds_toArray, List.set_cons_zero, List.set_cons_succ]
      refine wpAnyH_done (by kernel_rfl) ?_ _
      go_wp2_with fail
      go_meet
      exact ⟨gRDd7_29, rfl, RDsd7_35.out, ngRDd7_29, Sd7_35.out⟩
  case rest =>
    rename World => Wc7
    obtain ⟨gRD_7, rfl, hrow, hge, hb⟩ := hcut
    have RD_7 := Lib.hid hrow
    clear hrow
    have hd7_0 : w.heap.size < gRD_7 := Nat.lt_of_lt_of_le RA_6.out.lt hge
    have hd7_1 : w.heap.size + 1 < gRD_7 := Nat.lt_of_lt_of_le RB_6.out.lt hge
    have hd7_2 : w.heap.size + 1 + 1 < gRD_7 := Nat.lt_of_lt_of_le RR_6.out.lt hge
    have hd7_3 : W2.heap.size < gRD_7 := Nat.lt_of_lt_of_le RM_6.out.lt hge
    have RA_9 := Lib.hid (RA_6.out.below hb RA_6.out.lt)
    have RB_9 := Lib.hid (RB_6.out.below hb RB_6.out.lt)
    have RR_9 := Lib.hid (RR_6.out.below hb RR_6.out.lt)
    have RM_9 := Lib.hid (RM_6.out.below hb RM_6.out.lt)
    have B_9 := Lib.hid (B_6.out.trans (hb.mono B_6.out.size))
    clear hb RA_6 RB_6 RR_6 RM_6 B_6
    have hg0 := trivial
    go_wp2_with fail
    refine wp_region_held_drew (S := fun w' => Row w' (gRD_7) 33 [.int .u64 (ah : Int), .int .u64 (al : Int)] ∧ Row w' (W2.heap.size) 23 [.int .i64 m0, .int .i64 m1, .int .i64 m2, .int .i64 m3]) (by kernel_rfl) ⟨RD_7.out.drew, RM_9.out.drew⟩ (fun hHeld => ?_)
    clear hHeld
    have RA_z10 := Lib.hid RA_9.out.drew
    have RB_z10 := Lib.hid RB_9.out.drew
    have RR_z10 := Lib.hid RR_9.out.drew
    have RM_z10 := Lib.hid RM_9.out.drew
    have RD_z10 := Lib.hid RD_7.out.drew
    have B_z10 := Lib.hid B_9.out.drew
    clear RA_9 RB_9 RR_9 RM_9 RD_7 B_9
    generalize Wc7.drew = Dz10 at RA_z10 RB_z10 RR_z10 RM_z10 RD_z10 B_z10 ⊢
    refine wpAnyH_take (i := 0) (oi := ⟨some 18, _, _, _, _, _⟩) (v := ?vzrz10_1) rfl (by kernel_rfl) (by kernel_rfl) (by kernel_rfl) (fun _ _ _ h => h) (Or.inl ⟨by rfl, ?yzrz10_1⟩) ⟨RD_z10.out, RM_z10.out⟩ ?rzrz10_1
    case yzrz10_1 =>
      rintro w' hSw
      have k0 := (show Row w' _ _ _ from hSw.1).cell 0
      have k1 := (show Row w' _ _ _ from hSw.1).cell 1
      simp only [List.getElem?_cons_zero, List.getElem?_cons_succ] at k0 k1
      go_simp
      try with_reducible rfl
    try simp only [Act.put, List.setIfInBounds_toArray, List.set_cons_zero, List.set_cons_succ]
    refine wpAnyH_take (i := 1) (oi := ⟨some 19, _, _, _, _, _⟩) (v := ?vzrz10_2) rfl (by kernel_rfl) (by kernel_rfl) (by kernel_rfl) (fun _ _ _ h => h) (Or.inl ⟨by rfl, ?yzrz10_2⟩) ⟨RD_z10.out, RM_z10.out⟩ ?rzrz10_2
    case yzrz10_2 =>
      rintro w' hSw
      have k0 := (show Row w' _ _ _ from hSw.2).cell 0
      have k1 := (show Row w' _ _ _ from hSw.2).cell 1
      have k2 := (show Row w' _ _ _ from hSw.2).cell 2
      have k3 := (show Row w' _ _ _ from hSw.2).cell 3
      simp only [List.getElem?_cons_zero, List.getElem?_cons_succ] at k0 k1 k2 k3
      go_simp
      try with_reducible rfl
    try simp only [Act.put, List.setIfInBounds_toArray, List.set_cons_zero, List.set_cons_succ]
    refine wpAnyH_ready (rs := [2]) (by kernel_rfl) (by simp) ?_
    refine (AllReadyH.cons rfl (fun K hK => ?_) AllReadyH.nil)
    go_simp
    refine (HM.out _).mono ?_
    rintro e Xzrz10_3 ⟨rfl, hb⟩
    have RA_zrz10_3_11 := Lib.hid (RA_z10.out.below hb RA_z10.out.lt)
    have RB_zrz10_3_11 := Lib.hid (RB_z10.out.below hb RB_z10.out.lt)
    have RR_zrz10_3_11 := Lib.hid (RR_z10.out.below hb RR_z10.out.lt)
    have RM_zrz10_3_11 := Lib.hid (RM_z10.out.below hb RM_z10.out.lt)
    have RD_zrz10_3_11 := Lib.hid (RD_z10.out.below hb RD_z10.out.lt)
    have B_zrz10_3_11 := Lib.hid (B_z10.out.trans (hb.mono B_z10.out.size))
    clear hb RA_z10 RB_z10 RR_z10 RM_z10 RD_z10 B_z10
    refine hK _ _ ⟨RD_zrz10_3_11.out, RM_zrz10_3_11.out⟩ (fun _ => ?_)
    clear hK K
    try simp only [Act.put, List.setIfInBounds_toArray, List.set_cons_zero, List.set_cons_succ]
    refine wpAnyH_take (i := 3) (oi := ⟨some 21, _, _, _, _, _⟩) (v := ?vzrz10_4) rfl (by kernel_rfl) (by kernel_rfl) (by kernel_rfl) (fun _ _ _ h => h) (Or.inl ⟨by rfl, ?yzrz10_4⟩) ⟨RD_zrz10_3_11.out, RM_zrz10_3_11.out⟩ ?rzrz10_4
    case yzrz10_4 =>
      rintro w' hSw
      go_simp
      try with_reducible rfl
    try simp only [Act.put, List.setIfInBounds_toArray, List.set_cons_zero, List.set_cons_succ]
    refine wpAnyH_ready (rs := [4]) (by kernel_rfl) (by simp) ?_
    refine (AllReadyH.cons rfl (fun K hK => ?_) AllReadyH.nil)
    have f0 := RR_zrz10_3_11.out.frozen 0
    have k0 := RR_zrz10_3_11.out.cell 0
    have f1 := RR_zrz10_3_11.out.frozen 1
    have k1 := RR_zrz10_3_11.out.cell 1
    have f2 := RR_zrz10_3_11.out.frozen 2
    have k2 := RR_zrz10_3_11.out.cell 2
    have f3 := RR_zrz10_3_11.out.frozen 3
    have k3 := RR_zrz10_3_11.out.cell 3
    simp only [List.getElem?_cons_zero, List.getElem?_cons_succ] at k0 k1 k2 k3
    rw [if_pos (by rfl)]
    go_simp
    clear f0 k0 f1 k1 f2 k2 f3 k3
    have RA_szrz10_5 := Lib.hid ((((RA_zrz10_3_11.out.far (p := ⟨w.heap.size + 1 + 1, 0, none⟩) (by dsimp only; omega) (.int .u64 (ah : Int))).far (p := ⟨w.heap.size + 1 + 1, 1, none⟩) (by dsimp only; omega) (.int .u64 (al : Int))).far (p := ⟨w.heap.size + 1 + 1, 2, none⟩) (by dsimp only; omega) (.int .u64 (mh : Int))).far (p := ⟨w.heap.size + 1 + 1, 3, none⟩) (by dsimp only; omega) (.int .u64 (ml : Int)))
    have RB_szrz10_5 := Lib.hid ((((RB_zrz10_3_11.out.far (p := ⟨w.heap.size + 1 + 1, 0, none⟩) (by dsimp only; omega) (.int .u64 (ah : Int))).far (p := ⟨w.heap.size + 1 + 1, 1, none⟩) (by dsimp only; omega) (.int .u64 (al : Int))).far (p := ⟨w.heap.size + 1 + 1, 2, none⟩) (by dsimp only; omega) (.int .u64 (mh : Int))).far (p := ⟨w.heap.size + 1 + 1, 3, none⟩) (by dsimp only; omega) (.int .u64 (ml : Int)))
    have RR_szrz10_5 : Hid (Row ((((Xzrz10_3.setCell ⟨w.heap.size + 1 + 1, 0, none⟩ (.int .u64 (ah : Int))).setCell ⟨w.heap.size + 1 + 1, 1, none⟩ (.int .u64 (al : Int))).setCell ⟨w.heap.size + 1 + 1, 2, none⟩ (.int .u64 (mh : Int))).setCell ⟨w.heap.size + 1 + 1, 3, none⟩ (.int .u64 (ml : Int))) (w.heap.size + 1 + 1) 77 [.int .u64 (ah : Int), .int .u64 (al : Int), .int .u64 (mh : Int), .int .u64 (ml : Int)]) := Lib.hid ((((RR_zrz10_3_11.out.store 0 (.int .u64 (ah : Int))).store 1 (.int .u64 (al : Int))).store 2 (.int .u64 (mh : Int))).store 3 (.int .u64 (ml : Int)))
    have RM_szrz10_5 := Lib.hid ((((RM_zrz10_3_11.out.far (p := ⟨w.heap.size + 1 + 1, 0, none⟩) (by dsimp only; omega) (.int .u64 (ah : Int))).far (p := ⟨w.heap.size + 1 + 1, 1, none⟩) (by dsimp only; omega) (.int .u64 (al : Int))).far (p := ⟨w.heap.size + 1 + 1, 2, none⟩) (by dsimp only; omega) (.int .u64 (mh : Int))).far (p := ⟨w.heap.size + 1 + 1, 3, none⟩) (by dsimp only; omega) (.int .u64 (ml : Int)))
    have RD_szrz10_5 := Lib.hid ((((RD_zrz10_3_11.out.far (p := ⟨w.heap.size + 1 + 1, 0, none⟩) (by dsimp only; omega) (.int .u64 (ah : Int))).far (p := ⟨w.heap.size + 1 + 1, 1, none⟩) (by dsimp only; omega) (.int .u64 (al : Int))).far (p := ⟨w.heap.size + 1 + 1, 2, none⟩) (by dsimp only; omega) (.int .u64 (mh : Int))).far (p := ⟨w.heap.size + 1 + 1, 3, none⟩) (by dsimp only; omega) (.int .u64 (ml : Int)))
    have B_szrz10_5 := Lib.hid ((((B_zrz10_3_11.out.setCell (p := ⟨w.heap.size + 1 + 1, 0, none⟩) (by dsimp only; omega) (.int .u64 (ah : Int))).setCell (p := ⟨w.heap.size + 1 + 1, 1, none⟩) (by dsimp only; omega) (.int .u64 (al : Int))).setCell (p := ⟨w.heap.size + 1 + 1, 2, none⟩) (by dsimp only; omega) (.int .u64 (mh : Int))).setCell (p := ⟨w.heap.size + 1 + 1, 3, none⟩) (by dsimp only; omega) (.int .u64 (ml : Int)))
    clear RA_zrz10_3_11 RB_zrz10_3_11 RR_zrz10_3_11 RM_zrz10_3_11 RD_zrz10_3_11 B_zrz10_3_11
    generalize ((((Xzrz10_3.setCell ⟨w.heap.size + 1 + 1, 0, none⟩ (.int .u64 (ah : Int))).setCell ⟨w.heap.size + 1 + 1, 1, none⟩ (.int .u64 (al : Int))).setCell ⟨w.heap.size + 1 + 1, 2, none⟩ (.int .u64 (mh : Int))).setCell ⟨w.heap.size + 1 + 1, 3, none⟩ (.int .u64 (ml : Int))) = Xzrz10_5 at RA_szrz10_5 RB_szrz10_5 RR_szrz10_5 RM_szrz10_5 RD_szrz10_5 B_szrz10_5 ⊢
    refine hK _ _ ⟨RD_szrz10_5.out, RM_szrz10_5.out⟩ (fun _ => ?_)
    clear hK K
    try simp only [Act.put, List.setIfInBounds_toArray, List.set_cons_zero, List.set_cons_succ]
    refine wpAnyH_done (by kernel_rfl) ?_ _
    have czrz10_3_12_0 := RR_szrz10_5.out.cell 0
    have czrz10_3_12_1 := RR_szrz10_5.out.cell 1
    have czrz10_3_12_2 := RR_szrz10_5.out.cell 2
    have czrz10_3_12_3 := RR_szrz10_5.out.cell 3
    simp only [List.getElem?_cons_zero, List.getElem?_cons_succ] at czrz10_3_12_0 czrz10_3_12_1 czrz10_3_12_2 czrz10_3_12_3
    go_wp2
    exact bodyPost_ret (v := .agg #[.int .u64 (ah : Int), .int .u64 (al : Int), .int .u64 (mh : Int), .int .u64 (ml : Int)]) (by simp [results, Try.results54, go_sem, *]) rfl ⟨rfl, B_szrz10_5.out⟩
end Go.Proofs.Ytbmfijcckdkmdaa.Ky
