/-
  The areas and margins of boxes.
-/
import Derived.Test.YtbmfijcckdkmdaaWi1
import Derived.Deep.RegionHeld
import Derived.WalkLawsBesides
namespace Go.Proofs.Ytbmfijcckdkmdaa.Wi
set_option maxRecDepth 100000
open Go.RowKit Go.Proofs.Ytbmfijcckdkmdaa.Wd

theorem Area_any (x0 x1 y0 y1 : Int) (h l : Nat) (w : World) (a1 : -9223372036854775808 ≤ x0) (a2 : x0 ≤ 9223372036854775807) (a3 : -9223372036854775808 ≤ x1) (a4 : x1 ≤ 9223372036854775807) (a5 : -9223372036854775808 ≤ y0) (a6 : y0 ≤ 9223372036854775807) (a7 : -9223372036854775808 ≤ y1) (a8 : y1 ≤ 9223372036854775807) (hh : h < 18446744073709551616) (hl : l < 18446744073709551616) (he : widM x0 x1 * widM y0 y1 = h * 18446744073709551616 + l) :
    Calls Try.prog 27 #[.agg #[.int .i64 x0, .int .i64 x1, .int .i64 y0, .int .i64 y1]] w fun e w' => e = .returned (.agg #[.int .u64 (h : Int), .int .u64 (l : Int)]) ∧ Below w.heap.size w w' := by
  have HA := Lib.hid (fun w => Width_any x0 x1 w a1 a2 a3 a4)
  have HB := Lib.hid (fun w => Width_any y0 y1 w a5 a6 a7 a8)
  have HC := Lib.hid (fun w => Mul_any _ _ h l w (widM_lt a1 a4) (widM_lt a5 a8) hh hl he)
  clear he
  generalize widM x0 x1 = u at *
  generalize widM y0 y1 = v at *
  clear a1 a2 a3 a4 a5 a6 a7 a8
  go_enter Try.func27, Try.ntmps27
  go_wp2_with fail
  have HK := Lib.hid ((row_last w w.heap.size 23 [.int .i64 x0, .int .i64 x1, .int .i64 y0, .int .i64 y1] rfl).alloc (.cells #[.int .u64 0, .int .u64 0] 33))
  have HR_0 := Lib.hid (row_last (w.alloc (.cells #[.int .i64 x0, .int .i64 x1, .int .i64 y0, .int .i64 y1] 23)) (w.heap.size + 1) 33 [.int .u64 0, .int .u64 0] (by simp))
  have B0 := Lib.hid (show Below w.heap.size w ((w.alloc (.cells #[.int .i64 x0, .int .i64 x1, .int .i64 y0, .int .i64 y1] 23)).alloc (.cells #[.int .u64 0, .int .u64 0] 33)) from ((Below.refl _ _).alloc (Nat.le_refl _) _).alloc (by simp) _)
  generalize ((w.alloc (.cells #[.int .i64 x0, .int .i64 x1, .int .i64 y0, .int .i64 y1] 23)).alloc (.cells #[.int .u64 0, .int .u64 0] 33)) = w0 at HK HR_0 B0 ⊢
  refine wp_region_held_drew (S := fun w' => Below (w.heap.size + 1) w0 w') (by kernel_rfl) (Below.refl _ _).drew (fun hHeld => ?_)
  have S0 := Lib.hid hHeld
  have HR_0 := Lib.hid HR_0.out.drew
  clear hHeld
  generalize w0.drew = wq at S0 HR_0 ⊢
  refine wpAnyH_take (i := 0) (oi := ⟨some 3, _, _, _, _, _⟩) (v := ?va1) rfl (by kernel_rfl) (by kernel_rfl) (by kernel_rfl) (fun _ _ _ h => h) (Or.inl ⟨by rfl, ?ya1⟩) S0.out ?ra1
  case ya1 =>
    rintro w' hSw
    go_simp
    try with_reducible rfl
  try simp only [Act.put, List.setIfInBounds_toArray, List.set_cons_zero, List.set_cons_succ]
  refine wpAnyH_take (i := 1) (oi := ⟨some 4, _, _, _, _, _⟩) (v := ?va2) rfl (by kernel_rfl) (by kernel_rfl) (by kernel_rfl) (fun _ _ _ h => h) (Or.inl ⟨by rfl, ?ya2⟩) S0.out ?ra2
  case ya2 =>
    rintro w' hSw
    have cK := (HK.out.below hSw (by omega)).cell 0
    simp at cK
    go_simp
    try with_reducible rfl
  try simp only [Act.put, List.setIfInBounds_toArray, List.set_cons_zero, List.set_cons_succ]
  refine wpAnyH_take (i := 2) (oi := ⟨some 5, _, _, _, _, _⟩) (v := ?va3) rfl (by kernel_rfl) (by kernel_rfl) (by kernel_rfl) (fun _ _ _ h => h) (Or.inl ⟨by rfl, ?ya3⟩) S0.out ?ra3
  case ya3 =>
    rintro w' hSw
    go_simp
    try with_reducible rfl
  try simp only [Act.put, List.setIfInBounds_toArray, List.set_cons_zero, List.set_cons_succ]
  refine wpAnyH_take (i := 3) (oi := ⟨some 6, _, _, _, _, _⟩) (v := ?va4) rfl (by kernel_rfl) (by kernel_rfl) (by kernel_rfl) (fun _ _ _ h => h) (Or.inl ⟨by rfl, ?ya4⟩) S0.out ?ra4
  case ya4 =>
    rintro w' hSw
    have cK := (HK.out.below hSw (by omega)).cell 1
    simp at cK
    go_simp
    try with_reducible rfl
  try simp only [Act.put, List.setIfInBounds_toArray, List.set_cons_zero, List.set_cons_succ]
  refine wpAnyH_take (i := 5) (oi := ⟨some 8, _, _, _, _, _⟩) (v := ?va5) rfl (by kernel_rfl) (by kernel_rfl) (by kernel_rfl) (fun _ _ _ h => h) (Or.inl ⟨by rfl, ?ya5⟩) S0.out ?ra5
  case ya5 =>
    rintro w' hSw
    go_simp
    try with_reducible rfl
  try simp only [Act.put, List.setIfInBounds_toArray, List.set_cons_zero, List.set_cons_succ]
  refine wpAnyH_take (i := 6) (oi := ⟨some 9, _, _, _, _, _⟩) (v := ?va6) rfl (by kernel_rfl) (by kernel_rfl) (by kernel_rfl) (fun _ _ _ h => h) (Or.inl ⟨by rfl, ?ya6⟩) S0.out ?ra6
  case ya6 =>
    rintro w' hSw
    have cK := (HK.out.below hSw (by omega)).cell 2
    simp at cK
    go_simp
    try with_reducible rfl
  try simp only [Act.put, List.setIfInBounds_toArray, List.set_cons_zero, List.set_cons_succ]
  refine wpAnyH_take (i := 7) (oi := ⟨some 10, _, _, _, _, _⟩) (v := ?va7) rfl (by kernel_rfl) (by kernel_rfl) (by kernel_rfl) (fun _ _ _ h => h) (Or.inl ⟨by rfl, ?ya7⟩) S0.out ?ra7
  case ya7 =>
    rintro w' hSw
    go_simp
    try with_reducible rfl
  try simp only [Act.put, List.setIfInBounds_toArray, List.set_cons_zero, List.set_cons_succ]
  refine wpAnyH_take (i := 8) (oi := ⟨some 11, _, _, _, _, _⟩) (v := ?va8) rfl (by kernel_rfl) (by kernel_rfl) (by kernel_rfl) (fun _ _ _ h => h) (Or.inl ⟨by rfl, ?ya8⟩) S0.out ?ra8
  case ya8 =>
    rintro w' hSw
    have cK := (HK.out.below hSw (by omega)).cell 3
    simp at cK
    go_simp
    try with_reducible rfl
  try simp only [Act.put, List.setIfInBounds_toArray, List.set_cons_zero, List.set_cons_succ]
  refine wpAnyH_ready (rs := [4]) (by kernel_rfl) (by simp) ?_
  refine (AllReadyH.cons rfl (fun K hK => ?_) AllReadyH.nil)
  go_simp
  refine (HA.out _).mono ?_
  rintro e wxa9 ⟨rfl, rfl⟩
  refine hK _ _ S0.out (fun _ => ?_)
  clear hK K
  try simp only [Act.put, List.setIfInBounds_toArray, List.set_cons_zero, List.set_cons_succ]
  refine wpAnyH_ready (rs := [9]) (by kernel_rfl) (by simp) ?_
  refine (AllReadyH.cons rfl (fun K hK => ?_) AllReadyH.nil)
  go_simp
  refine (HB.out _).mono ?_
  rintro e wxa10 ⟨rfl, rfl⟩
  refine hK _ _ S0.out (fun _ => ?_)
  clear hK K
  try simp only [Act.put, List.setIfInBounds_toArray, List.set_cons_zero, List.set_cons_succ]
  refine wpAnyH_ready (rs := [10]) (by kernel_rfl) (by simp) ?_
  refine (AllReadyH.cons rfl (fun K hK => ?_) AllReadyH.nil)
  go_simp
  refine (HC.out _).mono ?_
  rintro e wxa11 ⟨rfl, hb⟩
  have hz : w.heap.size + 1 ≤ wq.heap.size := by have := HR_0.out.lt; omega
  have Sa11 := Lib.hid (S0.out.trans (hb.mono hz))
  have HR_a11 := Lib.hid (HR_0.out.below hb HR_0.out.lt)
  clear hb
  clear hz
  refine hK _ _ Sa11.out (fun _ => ?_)
  clear hK K
  try simp only [Act.put, List.setIfInBounds_toArray, List.set_cons_zero, List.set_cons_succ]
  refine wpAnyH_ready (rs := [11]) (by kernel_rfl) (by simp) ?_
  refine (AllReadyH.cons rfl (fun K hK => ?_) AllReadyH.nil)
  rw [if_pos (by rfl)]
  have f0 := HR_a11.out.frozen 0
  have f1 := HR_a11.out.frozen 1
  have c0 := HR_a11.out.cell 0
  have c1 := HR_a11.out.cell 1
  simp at c0 c1
  go_simp
  clear f0 f1 c0 c1
  have HR_a12 : Hid (Row ((wxa11.setCell ⟨w.heap.size + 1, 0, none⟩ (.int .u64 (h : Int))).setCell ⟨w.heap.size + 1, 1, none⟩ (.int .u64 (l : Int))) (w.heap.size + 1) 33 [.int .u64 (h : Int), .int .u64 (l : Int)]) := Lib.hid ((HR_a11.out.store 0 (.int .u64 (h : Int))).store 1 (.int .u64 (l : Int)))
  have Sa12 := Lib.hid ((Sa11.out.setCell (p := ⟨w.heap.size + 1, 0, none⟩) (by dsimp only; omega) (.int .u64 (h : Int))).setCell (p := ⟨w.heap.size + 1, 1, none⟩) (by dsimp only; omega) (.int .u64 (l : Int)))
  clear Sa11 HR_a11
  generalize ((wxa11.setCell ⟨w.heap.size + 1, 0, none⟩ (.int .u64 (h : Int))).setCell ⟨w.heap.size + 1, 1, none⟩ (.int .u64 (l : Int))) = wsa12 at Sa12 HR_a12 ⊢
  refine hK _ _ Sa12.out (fun _ => ?_)
  clear hK K
  try simp only [Act.put, List.setIfInBounds_toArray, List.set_cons_zero, List.set_cons_succ]
  refine wpAnyH_done (by kernel_rfl) ?_ _
  have c0 := HR_a12.out.cell 0
  have c1 := HR_a12.out.cell 1
  simp at c0 c1
  go_wp2
  exact bodyPost_ret (v := .agg #[.int .u64 (h : Int), .int .u64 (l : Int)]) (by simp [results, Try.results27, go_sem, *]) rfl ⟨rfl, (B0.out.trans (Sa12.out.mono (by omega)))⟩


set_option maxHeartbeats 2000000 in
theorem Margin_any (x0 x1 y0 y1 : Int) (h l : Nat) (w : World) (a1 : -9223372036854775808 ≤ x0) (a2 : x0 ≤ 9223372036854775807) (a3 : -9223372036854775808 ≤ x1) (a4 : x1 ≤ 9223372036854775807) (a5 : -9223372036854775808 ≤ y0) (a6 : y0 ≤ 9223372036854775807) (a7 : -9223372036854775808 ≤ y1) (a8 : y1 ≤ 9223372036854775807) (hh : h < 18446744073709551616) (hl : l < 18446744073709551616) (he : widM x0 x1 + widM y0 y1 = h * 18446744073709551616 + l) :
    Calls Try.prog 28 #[.agg #[.int .i64 x0, .int .i64 x1, .int .i64 y0, .int .i64 y1]] w fun e w' => e = .returned (.agg #[.int .u64 (h : Int), .int .u64 (l : Int)]) ∧ Below w.heap.size w w' := by
  have HA := Lib.hid (fun w => Width_any x0 x1 w a1 a2 a3 a4)
  have HB := Lib.hid (fun w => Width_any y0 y1 w a5 a6 a7 a8)
  have HC := Lib.hid (fun w => Add_any 0 (widM x0 x1) 0 (widM y0 y1) h l 0 w (by omega) (widM_lt a1 a4) (by omega) (widM_lt a5 a8) hh hl (by rw [← he]; simp only [Nat.zero_mul, Nat.zero_add]))
  clear he
  generalize widM x0 x1 = u at *
  generalize widM y0 y1 = v at *
  clear a1 a2 a3 a4 a5 a6 a7 a8
  go_enter Try.func28, Try.ntmps28
  go_wp2_with fail
  have HK := Lib.hid ((row_last w w.heap.size 23 [.int .i64 x0, .int .i64 x1, .int .i64 y0, .int .i64 y1] rfl).alloc (.cells #[.int .u64 0, .int .u64 0] 33))
  have HR_0 := Lib.hid (row_last (w.alloc (.cells #[.int .i64 x0, .int .i64 x1, .int .i64 y0, .int .i64 y1] 23)) (w.heap.size + 1) 33 [.int .u64 0, .int .u64 0] (by simp))
  have B0 := Lib.hid (show Below w.heap.size w ((w.alloc (.cells #[.int .i64 x0, .int .i64 x1, .int .i64 y0, .int .i64 y1] 23)).alloc (.cells #[.int .u64 0, .int .u64 0] 33)) from ((Below.refl _ _).alloc (Nat.le_refl _) _).alloc (by simp) _)
  generalize ((w.alloc (.cells #[.int .i64 x0, .int .i64 x1, .int .i64 y0, .int .i64 y1] 23)).alloc (.cells #[.int .u64 0, .int .u64 0] 33)) = w0 at HK HR_0 B0 ⊢
  refine wp_region_held_drew (S := fun w' => Below (w.heap.size + 1) w0 w') (by kernel_rfl) (Below.refl _ _).drew (fun hHeld => ?_)
  have S0 := Lib.hid hHeld
  have HR_0 := Lib.hid HR_0.out.drew
  clear hHeld
  generalize w0.drew = wq at S0 HR_0 ⊢
  refine wpAnyH_take (i := 0) (oi := ⟨some 6, _, _, _, _, _⟩) (v := ?vm1) rfl (by kernel_rfl) (by kernel_rfl) (by kernel_rfl) (fun _ _ _ h => h) (Or.inl ⟨by rfl, ?ym1⟩) S0.out ?rm1
  case ym1 =>
    rintro w' hSw
    go_simp
    try with_reducible rfl
  try simp only [Act.put, List.setIfInBounds_toArray, List.set_cons_zero, List.set_cons_succ]
  refine wpAnyH_take (i := 1) (oi := ⟨some 7, _, _, _, _, _⟩) (v := ?vm2) rfl (by kernel_rfl) (by kernel_rfl) (by kernel_rfl) (fun _ _ _ h => h) (Or.inl ⟨by rfl, ?ym2⟩) S0.out ?rm2
  case ym2 =>
    rintro w' hSw
    have cK := (HK.out.below hSw (by omega)).cell 0
    simp at cK
    go_simp
    try with_reducible rfl
  try simp only [Act.put, List.setIfInBounds_toArray, List.set_cons_zero, List.set_cons_succ]
  refine wpAnyH_take (i := 2) (oi := ⟨some 8, _, _, _, _, _⟩) (v := ?vm3) rfl (by kernel_rfl) (by kernel_rfl) (by kernel_rfl) (fun _ _ _ h => h) (Or.inl ⟨by rfl, ?ym3⟩) S0.out ?rm3
  case ym3 =>
    rintro w' hSw
    go_simp
    try with_reducible rfl
  try simp only [Act.put, List.setIfInBounds_toArray, List.set_cons_zero, List.set_cons_succ]
  refine wpAnyH_take (i := 3) (oi := ⟨some 9, _, _, _, _, _⟩) (v := ?vm4) rfl (by kernel_rfl) (by kernel_rfl) (by kernel_rfl) (fun _ _ _ h => h) (Or.inl ⟨by rfl, ?ym4⟩) S0.out ?rm4
  case ym4 =>
    rintro w' hSw
    have cK := (HK.out.below hSw (by omega)).cell 1
    simp at cK
    go_simp
    try with_reducible rfl
  try simp only [Act.put, List.setIfInBounds_toArray, List.set_cons_zero, List.set_cons_succ]
  refine wpAnyH_take (i := 6) (oi := ⟨some 12, _, _, _, _, _⟩) (v := ?vm5) rfl (by kernel_rfl) (by kernel_rfl) (by kernel_rfl) (fun _ _ _ h => h) (Or.inl ⟨by rfl, ?ym5⟩) S0.out ?rm5
  case ym5 =>
    rintro w' hSw
    go_simp
    try with_reducible rfl
  try simp only [Act.put, List.setIfInBounds_toArray, List.set_cons_zero, List.set_cons_succ]
  refine wpAnyH_take (i := 7) (oi := ⟨some 13, _, _, _, _, _⟩) (v := ?vm6) rfl (by kernel_rfl) (by kernel_rfl) (by kernel_rfl) (fun _ _ _ h => h) (Or.inl ⟨by rfl, ?ym6⟩) S0.out ?rm6
  case ym6 =>
    rintro w' hSw
    have cK := (HK.out.below hSw (by omega)).cell 2
    simp at cK
    go_simp
    try with_reducible rfl
  try simp only [Act.put, List.setIfInBounds_toArray, List.set_cons_zero, List.set_cons_succ]
  refine wpAnyH_take (i := 8) (oi := ⟨some 14, _, _, _, _, _⟩) (v := ?vm7) rfl (by kernel_rfl) (by kernel_rfl) (by kernel_rfl) (fun _ _ _ h => h) (Or.inl ⟨by rfl, ?ym7⟩) S0.out ?rm7
  case ym7 =>
    rintro w' hSw
    go_simp
    try with_reducible rfl
  try simp only [Act.put, List.setIfInBounds_toArray, List.set_cons_zero, List.set_cons_succ]
  refine wpAnyH_take (i := 9) (oi := ⟨some 15, _, _, _, _, _⟩) (v := ?vm8) rfl (by kernel_rfl) (by kernel_rfl) (by kernel_rfl) (fun _ _ _ h => h) (Or.inl ⟨by rfl, ?ym8⟩) S0.out ?rm8
  case ym8 =>
    rintro w' hSw
    have cK := (HK.out.below hSw (by omega)).cell 3
    simp at cK
    go_simp
    try with_reducible rfl
  try simp only [Act.put, List.setIfInBounds_toArray, List.set_cons_zero, List.set_cons_succ]
  refine wpAnyH_ready (rs := [4, 16]) (by kernel_rfl) (by simp) ?_
  refine (AllReadyH.cons rfl (fun K hK => ?_) (AllReadyH.cons rfl (fun K hK => ?_) AllReadyH.nil))
  · go_simp
    refine (HA.out _).mono ?_
    rintro e wxm9 ⟨rfl, rfl⟩
    refine hK _ _ S0.out (fun _ => ?_)
    clear hK K
    try simp only [Act.put, List.setIfInBounds_toArray, List.set_cons_zero, List.set_cons_succ]
    refine wpAnyH_take (i := 5) (oi := ⟨some 11, _, _, _, _, _⟩) (v := ?vm10) rfl (by kernel_rfl) (by kernel_rfl) (by kernel_rfl) (fun _ _ _ h => h) (Or.inl ⟨by rfl, ?ym10⟩) S0.out ?rm10
    case ym10 =>
      rintro w' hSw
      go_simp
      try with_reducible rfl
    try simp only [Act.put, List.setIfInBounds_toArray, List.set_cons_zero, List.set_cons_succ]
    refine wpAnyH_ready (rs := [10, 16]) (by kernel_rfl) (by simp) ?_
    refine (AllReadyH.cons rfl (fun K hK => ?_) (AllReadyH.cons rfl (fun K hK => ?_) AllReadyH.nil))
    · go_simp
      refine (HB.out _).mono ?_
      rintro e wxm11 ⟨rfl, rfl⟩
      refine hK _ _ S0.out (fun _ => ?_)
      clear hK K
      try simp only [Act.put, List.setIfInBounds_toArray, List.set_cons_zero, List.set_cons_succ]
      refine wpAnyH_take (i := 11) (oi := ⟨some 17, _, _, _, _, _⟩) (v := ?vm12) rfl (by kernel_rfl) (by kernel_rfl) (by kernel_rfl) (fun _ _ _ h => h) (Or.inl ⟨by rfl, ?ym12⟩) S0.out ?rm12
      case ym12 =>
        rintro w' hSw
        go_simp
        try with_reducible rfl
      try simp only [Act.put, List.setIfInBounds_toArray, List.set_cons_zero, List.set_cons_succ]
      refine wpAnyH_ready (rs := [12, 16]) (by kernel_rfl) (by simp) ?_
      refine (AllReadyH.cons rfl (fun K hK => ?_) (AllReadyH.cons rfl (fun K hK => ?_) AllReadyH.nil))
      · go_simp
        refine (HC.out _).mono ?_
        rintro e wxm13 ⟨rfl, hb⟩
        have hz : w.heap.size + 1 ≤ wq.heap.size := by have := HR_0.out.lt; omega
        have Sm13 := Lib.hid (S0.out.trans (hb.mono hz))
        have HR_m13 := Lib.hid (HR_0.out.below hb HR_0.out.lt)
        clear hb
        clear hz
        refine hK _ _ Sm13.out (fun _ => ?_)
        clear hK K
        try simp only [Act.put, List.setIfInBounds_toArray, List.set_cons_zero, List.set_cons_succ]
        refine wpAnyH_take (i := 13) (oi := ⟨some 5, _, _, _, _, _⟩) (v := ?vm14) rfl (by kernel_rfl) (by kernel_rfl) (by kernel_rfl) (fun _ _ _ h => h) (Or.inl ⟨by rfl, ?ym14⟩) Sm13.out ?rm14
        case ym14 =>
          rintro w' hSw
          go_simp
          try with_reducible rfl
        try simp only [Act.put, List.setIfInBounds_toArray, List.set_cons_zero, List.set_cons_succ]
        refine wpAnyH_take (i := 14) (oi := ⟨some 19, _, _, _, _, _⟩) (v := ?vm15) rfl (by kernel_rfl) (by kernel_rfl) (by kernel_rfl) (fun _ _ _ h => h) (Or.inl ⟨by rfl, ?ym15⟩) Sm13.out ?rm15
        case ym15 =>
          rintro w' hSw
          go_simp
          try with_reducible rfl
        try simp only [Act.put, List.setIfInBounds_toArray, List.set_cons_zero, List.set_cons_succ]
        refine wpAnyH_take (i := 15) (oi := ⟨some 20, _, _, _, _, _⟩) (v := ?vm16) rfl (by kernel_rfl) (by kernel_rfl) (by kernel_rfl) (fun _ _ _ h => h) (Or.inl ⟨by rfl, ?ym16⟩) Sm13.out ?rm16
        case ym16 =>
          rintro w' hSw
          go_simp
          try with_reducible rfl
        try simp only [Act.put, List.setIfInBounds_toArray, List.set_cons_zero, List.set_cons_succ]
        refine wpAnyH_ready (rs := [16]) (by kernel_rfl) (by simp) ?_
        refine (AllReadyH.cons rfl (fun K hK => ?_) AllReadyH.nil)
        rw [if_pos (by rfl)]
        go_simp
        have hb : Below wxm13.heap.size wxm13 (wxm13.alloc (.cells #[.int .u64 0, .int .u64 0] 33)) := (Below.refl _ _).alloc (Nat.le_refl _) _
        have hz : w.heap.size + 1 ≤ wxm13.heap.size := by have := HR_m13.out.lt; omega
        have Sm17 := Lib.hid (Sm13.out.trans (hb.mono hz))
        have HR_m17 := Lib.hid (HR_m13.out.below hb HR_m13.out.lt)
        have g_m17 := Lib.hid (row_last wxm13 wxm13.heap.size 33 [.int .u64 0, .int .u64 0] rfl)
        have hlg : w.heap.size + 1 < wxm13.heap.size := HR_m13.out.lt
        obtain ⟨g, hg⟩ : ∃ g, g = wxm13.heap.size := ⟨_, rfl⟩
        clear hb hz Sm13 HR_m13
        rw [← hg] at g_m17 hlg ⊢
        clear hg
        generalize wxm13.alloc (.cells #[.int .u64 0, .int .u64 0] 33) = wam17 at Sm17 HR_m17 g_m17 ⊢
        refine hK _ _ Sm17.out (fun _ => ?_)
        clear hK K
        try simp only [Act.put, List.setIfInBounds_toArray, List.set_cons_zero, List.set_cons_succ]
        refine wpAnyH_ready (rs := [17]) (by kernel_rfl) (by simp) ?_
        refine (AllReadyH.cons rfl (fun K hK => ?_) AllReadyH.nil)
        rw [if_pos (by rfl)]
        have f0 := g_m17.out.frozen 0
        have f1 := g_m17.out.frozen 1
        have c0 := g_m17.out.cell 0
        have c1 := g_m17.out.cell 1
        simp at c0 c1
        go_simp
        clear f0 f1 c0 c1
        have HR_m18 := Lib.hid ((HR_m17.out.far (p := ⟨g, 0, none⟩) (by dsimp only; omega) (.int .u64 (h : Int))).far (p := ⟨g, 1, none⟩) (by dsimp only; omega) (.int .u64 (l : Int)))
        have g_m18 : Hid (Row ((wam17.setCell ⟨g, 0, none⟩ (.int .u64 (h : Int))).setCell ⟨g, 1, none⟩ (.int .u64 (l : Int))) (g) 33 [.int .u64 (h : Int), .int .u64 (l : Int)]) := Lib.hid ((g_m17.out.store 0 (.int .u64 (h : Int))).store 1 (.int .u64 (l : Int)))
        have Sm18 := Lib.hid ((Sm17.out.setCell (p := ⟨g, 0, none⟩) (by dsimp only; omega) (.int .u64 (h : Int))).setCell (p := ⟨g, 1, none⟩) (by dsimp only; omega) (.int .u64 (l : Int)))
        clear Sm17 HR_m17 g_m17
        generalize ((wam17.setCell ⟨g, 0, none⟩ (.int .u64 (h : Int))).setCell ⟨g, 1, none⟩ (.int .u64 (l : Int))) = wsm18 at Sm18 HR_m18 g_m18 ⊢
        refine hK _ _ Sm18.out (fun _ => ?_)
        clear hK K
        try simp only [Act.put, List.setIfInBounds_toArray, List.set_cons_zero, List.set_cons_succ]
        refine wpAnyH_take (i := 18) (oi := ⟨some 4, _, _, _, _, _⟩) (v := ?vm19) rfl (by kernel_rfl) (by kernel_rfl) (by kernel_rfl) (fun _ _ _ h => h) (Or.inl ⟨by rfl, ?ym19⟩) Sm18.out ?rm19
        case ym19 =>
          rintro w' hSw
          go_simp
          try with_reducible rfl
        try simp only [Act.put, List.setIfInBounds_toArray, List.set_cons_zero, List.set_cons_succ]
        refine wpAnyH_done (by kernel_rfl) ?_ _
        have c0 := g_m18.out.cell 0
        have c1 := g_m18.out.cell 1
        have d0 := HR_m18.out.cell 0
        have d1 := HR_m18.out.cell 1
        have f0 := HR_m18.out.frozen 0
        have f1 := HR_m18.out.frozen 1
        simp at c0 c1 d0 d1
        go_wp2
        exact bodyPost_ret (v := .agg #[.int .u64 (h : Int), .int .u64 (l : Int)]) (by simp [results, Try.results28, go_sem, *]) rfl ⟨rfl, ((B0.out.trans (Sm18.out.mono (by omega))).setCell (by dsimp only; omega) _).setCell (by dsimp only; omega) _⟩
      · rw [if_pos (by rfl)]
        go_simp
        have hb : Below wq.heap.size wq (wq.alloc (.cells #[.int .u64 0, .int .u64 0] 33)) := (Below.refl _ _).alloc (Nat.le_refl _) _
        have hz : w.heap.size + 1 ≤ wq.heap.size := by have := HR_0.out.lt; omega
        have Sm20 := Lib.hid (S0.out.trans (hb.mono hz))
        have HR_m20 := Lib.hid (HR_0.out.below hb HR_0.out.lt)
        have g_m20 := Lib.hid (row_last wq wq.heap.size 33 [.int .u64 0, .int .u64 0] rfl)
        have hlg : w.heap.size + 1 < wq.heap.size := HR_0.out.lt
        obtain ⟨g, hg⟩ : ∃ g, g = wq.heap.size := ⟨_, rfl⟩
        clear hb hz S0 HR_0
        rw [← hg] at g_m20 hlg ⊢
        clear hg
        generalize wq.alloc (.cells #[.int .u64 0, .int .u64 0] 33) = wam20 at Sm20 HR_m20 g_m20 ⊢
        refine hK _ _ Sm20.out (fun _ => ?_)
        clear hK K
        try simp only [Act.put, List.setIfInBounds_toArray, List.set_cons_zero, List.set_cons_succ]
        refine wpAnyH_ready (rs := [12]) (by kernel_rfl) (by simp) ?_
        refine (AllReadyH.cons rfl (fun K hK => ?_) AllReadyH.nil)
        go_simp
        refine (HC.out _).mono ?_
        rintro e wxm21 ⟨rfl, hb⟩
        have hz : w.heap.size + 1 ≤ wam20.heap.size := by have := HR_m20.out.lt; omega
        have Sm21 := Lib.hid (Sm20.out.trans (hb.mono hz))
        have HR_m21 := Lib.hid (HR_m20.out.below hb HR_m20.out.lt)
        have g_m21 := Lib.hid (g_m20.out.below hb g_m20.out.lt)
        clear hb
        clear hz
        refine hK _ _ Sm21.out (fun _ => ?_)
        clear hK K
        try simp only [Act.put, List.setIfInBounds_toArray, List.set_cons_zero, List.set_cons_succ]
        refine wpAnyH_take (i := 13) (oi := ⟨some 5, _, _, _, _, _⟩) (v := ?vm22) rfl (by kernel_rfl) (by kernel_rfl) (by kernel_rfl) (fun _ _ _ h => h) (Or.inl ⟨by rfl, ?ym22⟩) Sm21.out ?rm22
        case ym22 =>
          rintro w' hSw
          go_simp
          try with_reducible rfl
        try simp only [Act.put, List.setIfInBounds_toArray, List.set_cons_zero, List.set_cons_succ]
        refine wpAnyH_take (i := 14) (oi := ⟨some 19, _, _, _, _, _⟩) (v := ?vm23) rfl (by kernel_rfl) (by kernel_rfl) (by kernel_rfl) (fun _ _ _ h => h) (Or.inl ⟨by rfl, ?ym23⟩) Sm21.out ?rm23
        case ym23 =>
          rintro w' hSw
          go_simp
          try with_reducible rfl
        try simp only [Act.put, List.setIfInBounds_toArray, List.set_cons_zero, List.set_cons_succ]
        refine wpAnyH_take (i := 15) (oi := ⟨some 20, _, _, _, _, _⟩) (v := ?vm24) rfl (by kernel_rfl) (by kernel_rfl) (by kernel_rfl) (fun _ _ _ h => h) (Or.inl ⟨by rfl, ?ym24⟩) Sm21.out ?rm24
        case ym24 =>
          rintro w' hSw
          go_simp
          try with_reducible rfl
        try simp only [Act.put, List.setIfInBounds_toArray, List.set_cons_zero, List.set_cons_succ]
        refine wpAnyH_ready (rs := [17]) (by kernel_rfl) (by simp) ?_
        refine (AllReadyH.cons rfl (fun K hK => ?_) AllReadyH.nil)
        rw [if_pos (by rfl)]
        have f0 := g_m21.out.frozen 0
        have f1 := g_m21.out.frozen 1
        have c0 := g_m21.out.cell 0
        have c1 := g_m21.out.cell 1
        simp at c0 c1
        go_simp
        clear f0 f1 c0 c1
        have HR_m25 := Lib.hid ((HR_m21.out.far (p := ⟨g, 0, none⟩) (by dsimp only; omega) (.int .u64 (h : Int))).far (p := ⟨g, 1, none⟩) (by dsimp only; omega) (.int .u64 (l : Int)))
        have g_m25 : Hid (Row ((wxm21.setCell ⟨g, 0, none⟩ (.int .u64 (h : Int))).setCell ⟨g, 1, none⟩ (.int .u64 (l : Int))) (g) 33 [.int .u64 (h : Int), .int .u64 (l : Int)]) := Lib.hid ((g_m21.out.store 0 (.int .u64 (h : Int))).store 1 (.int .u64 (l : Int)))
        have Sm25 := Lib.hid ((Sm21.out.setCell (p := ⟨g, 0, none⟩) (by dsimp only; omega) (.int .u64 (h : Int))).setCell (p := ⟨g, 1, none⟩) (by dsimp only; omega) (.int .u64 (l : Int)))
        clear Sm21 HR_m21 g_m21
        generalize ((wxm21.setCell ⟨g, 0, none⟩ (.int .u64 (h : Int))).setCell ⟨g, 1, none⟩ (.int .u64 (l : Int))) = wsm25 at Sm25 HR_m25 g_m25 ⊢
        refine hK _ _ Sm25.out (fun _ => ?_)
        clear hK K
        try simp only [Act.put, List.setIfInBounds_toArray, List.set_cons_zero, List.set_cons_succ]
        refine wpAnyH_take (i := 18) (oi := ⟨some 4, _, _, _, _, _⟩) (v := ?vm26) rfl (by kernel_rfl) (by kernel_rfl) (by kernel_rfl) (fun _ _ _ h => h) (Or.inl ⟨by rfl, ?ym26⟩) Sm25.out ?rm26
        case ym26 =>
          rintro w' hSw
          go_simp
          try with_reducible rfl
        try simp only [Act.put, List.setIfInBounds_toArray, List.set_cons_zero, List.set_cons_succ]
        refine wpAnyH_done (by kernel_rfl) ?_ _
        have c0 := g_m25.out.cell 0
        have c1 := g_m25.out.cell 1
        have d0 := HR_m25.out.cell 0
        have d1 := HR_m25.out.cell 1
        have f0 := HR_m25.out.frozen 0
        have f1 := HR_m25.out.frozen 1
        simp at c0 c1 d0 d1
        go_wp2
        exact bodyPost_ret (v := .agg #[.int .u64 (h : Int), .int .u64 (l : Int)]) (by simp [results, Try.results28, go_sem, *]) rfl ⟨rfl, ((B0.out.trans (Sm25.out.mono (by omega))).setCell (by dsimp only; omega) _).setCell (by dsimp only; omega) _⟩
    · rw [if_pos (by rfl)]
      go_simp
      have hb : Below wq.heap.size wq (wq.alloc (.cells #[.int .u64 0, .int .u64 0] 33)) := (Below.refl _ _).alloc (Nat.le_refl _) _
      have hz : w.heap.size + 1 ≤ wq.heap.size := by have := HR_0.out.lt; omega
      have Sm27 := Lib.hid (S0.out.trans (hb.mono hz))
      have HR_m27 := Lib.hid (HR_0.out.below hb HR_0.out.lt)
      have g_m27 := Lib.hid (row_last wq wq.heap.size 33 [.int .u64 0, .int .u64 0] rfl)
      have hlg : w.heap.size + 1 < wq.heap.size := HR_0.out.lt
      obtain ⟨g, hg⟩ : ∃ g, g = wq.heap.size := ⟨_, rfl⟩
      clear hb hz S0 HR_0
      rw [← hg] at g_m27 hlg ⊢
      clear hg
      generalize wq.alloc (.cells #[.int .u64 0, .int .u64 0] 33) = wam27 at Sm27 HR_m27 g_m27 ⊢
      refine hK _ _ Sm27.out (fun _ => ?_)
      clear hK K
      try simp only [Act.put, List.setIfInBounds_toArray, List.set_cons_zero, List.set_cons_succ]
      refine wpAnyH_ready (rs := [10]) (by kernel_rfl) (by simp) ?_
      refine (AllReadyH.cons rfl (fun K hK => ?_) AllReadyH.nil)
      go_simp
      refine (HB.out _).mono ?_
      rintro e wxm28 ⟨rfl, rfl⟩
      refine hK _ _ Sm27.out (fun _ => ?_)
      clear hK K
      try simp only [Act.put, List.setIfInBounds_toArray, List.set_cons_zero, List.set_cons_succ]
      refine wpAnyH_take (i := 11) (oi := ⟨some 17, _, _, _, _, _⟩) (v := ?vm29) rfl (by kernel_rfl) (by kernel_rfl) (by kernel_rfl) (fun _ _ _ h => h) (Or.inl ⟨by rfl, ?ym29⟩) Sm27.out ?rm29
      case ym29 =>
        rintro w' hSw
        go_simp
        try with_reducible rfl
      try simp only [Act.put, List.setIfInBounds_toArray, List.set_cons_zero, List.set_cons_succ]
      refine wpAnyH_ready (rs := [12]) (by kernel_rfl) (by simp) ?_
      refine (AllReadyH.cons rfl (fun K hK => ?_) AllReadyH.nil)
      go_simp
      refine (HC.out _).mono ?_
      rintro e wxm30 ⟨rfl, hb⟩
      have hz : w.heap.size + 1 ≤ wam27.heap.size := by have := HR_m27.out.lt; omega
      have Sm30 := Lib.hid (Sm27.out.trans (hb.mono hz))
      have HR_m30 := Lib.hid (HR_m27.out.below hb HR_m27.out.lt)
      have g_m30 := Lib.hid (g_m27.out.below hb g_m27.out.lt)
      clear hb
      clear hz
      refine hK _ _ Sm30.out (fun _ => ?_)
      clear hK K
      try simp only [Act.put, List.setIfInBounds_toArray, List.set_cons_zero, List.set_cons_succ]
      refine wpAnyH_take (i := 13) (oi := ⟨some 5, _, _, _, _, _⟩) (v := ?vm31) rfl (by kernel_rfl) (by kernel_rfl) (by kernel_rfl) (fun _ _ _ h => h) (Or.inl ⟨by rfl, ?ym31⟩) Sm30.out ?rm31
      case ym31 =>
        rintro w' hSw
        go_simp
        try with_reducible rfl
      try simp only [Act.put, List.setIfInBounds_toArray, List.set_cons_zero, List.set_cons_succ]
      refine wpAnyH_take (i := 14) (oi := ⟨some 19, _, _, _, _, _⟩) (v := ?vm32) rfl (by kernel_rfl) (by kernel_rfl) (by kernel_rfl) (fun _ _ _ h => h) (Or.inl ⟨by rfl, ?ym32⟩) Sm30.out ?rm32
      case ym32 =>
        rintro w' hSw
        go_simp
        try with_reducible rfl
      try simp only [Act.put, List.setIfInBounds_toArray, List.set_cons_zero, List.set_cons_succ]
      refine wpAnyH_take (i := 15) (oi := ⟨some 20, _, _, _, _, _⟩) (v := ?vm33) rfl (by kernel_rfl) (by kernel_rfl) (by kernel_rfl) (fun _ _ _ h => h) (Or.inl ⟨by rfl, ?ym33⟩) Sm30.out ?rm33
      case ym33 =>
        rintro w' hSw
        go_simp
        try with_reducible rfl
      try simp only [Act.put, List.setIfInBounds_toArray, List.set_cons_zero, List.set_cons_succ]
      refine wpAnyH_ready (rs := [17]) (by kernel_rfl) (by simp) ?_
      refine (AllReadyH.cons rfl (fun K hK => ?_) AllReadyH.nil)
      rw [if_pos (by rfl)]
      have f0 := g_m30.out.frozen 0
      have f1 := g_m30.out.frozen 1
      have c0 := g_m30.out.cell 0
      have c1 := g_m30.out.cell 1
      simp at c0 c1
      go_simp
      clear f0 f1 c0 c1
      have HR_m34 := Lib.hid ((HR_m30.out.far (p := ⟨g, 0, none⟩) (by dsimp only; omega) (.int .u64 (h : Int))).far (p := ⟨g, 1, none⟩) (by dsimp only; omega) (.int .u64 (l : Int)))
      have g_m34 : Hid (Row ((wxm30.setCell ⟨g, 0, none⟩ (.int .u64 (h : Int))).setCell ⟨g, 1, none⟩ (.int .u64 (l : Int))) (g) 33 [.int .u64 (h : Int), .int .u64 (l : Int)]) := Lib.hid ((g_m30.out.store 0 (.int .u64 (h : Int))).store 1 (.int .u64 (l : Int)))
      have Sm34 := Lib.hid ((Sm30.out.setCell (p := ⟨g, 0, none⟩) (by dsimp only; omega) (.int .u64 (h : Int))).setCell (p := ⟨g, 1, none⟩) (by dsimp only; omega) (.int .u64 (l : Int)))
      clear Sm30 HR_m30 g_m30
      generalize ((wxm30.setCell ⟨g, 0, none⟩ (.int .u64 (h : Int))).setCell ⟨g, 1, none⟩ (.int .u64 (l : Int))) = wsm34 at Sm34 HR_m34 g_m34 ⊢
      refine hK _ _ Sm34.out (fun _ => ?_)
      clear hK K
      try simp only [Act.put, List.setIfInBounds_toArray, List.set_cons_zero, List.set_cons_succ]
      refine wpAnyH_take (i := 18) (oi := ⟨some 4, _, _, _, _, _⟩) (v := ?vm35) rfl (by kernel_rfl) (by kernel_rfl) (by kernel_rfl) (fun _ _ _ h => h) (Or.inl ⟨by rfl, ?ym35⟩) Sm34.out ?rm35
      case ym35 =>
        rintro w' hSw
        go_simp
        try with_reducible rfl
      try simp only [Act.put, List.setIfInBounds_toArray, List.set_cons_zero, List.set_cons_succ]
      refine wpAnyH_done (by kernel_rfl) ?_ _
      have c0 := g_m34.out.cell 0
      have c1 := g_m34.out.cell 1
      have d0 := HR_m34.out.cell 0
      have d1 := HR_m34.out.cell 1
      have f0 := HR_m34.out.frozen 0
      have f1 := HR_m34.out.frozen 1
      simp at c0 c1 d0 d1
      go_wp2
      exact bodyPost_ret (v := .agg #[.int .u64 (h : Int), .int .u64 (l : Int)]) (by simp [results, Try.results28, go_sem, *]) rfl ⟨rfl, ((B0.out.trans (Sm34.out.mono (by omega))).setCell (by dsimp only; omega) _).setCell (by dsimp only; omega) _⟩
  · rw [if_pos (by rfl)]
    go_simp
    have hb : Below wq.heap.size wq (wq.alloc (.cells #[.int .u64 0, .int .u64 0] 33)) := (Below.refl _ _).alloc (Nat.le_refl _) _
    have hz : w.heap.size + 1 ≤ wq.heap.size := by have := HR_0.out.lt; omega
    have Sm36 := Lib.hid (S0.out.trans (hb.mono hz))
    have HR_m36 := Lib.hid (HR_0.out.below hb HR_0.out.lt)
    have g_m36 := Lib.hid (row_last wq wq.heap.size 33 [.int .u64 0, .int .u64 0] rfl)
    have hlg : w.heap.size + 1 < wq.heap.size := HR_0.out.lt
    obtain ⟨g, hg⟩ : ∃ g, g = wq.heap.size := ⟨_, rfl⟩
    clear hb hz S0 HR_0
    rw [← hg] at g_m36 hlg ⊢
    clear hg
    generalize wq.alloc (.cells #[.int .u64 0, .int .u64 0] 33) = wam36 at Sm36 HR_m36 g_m36 ⊢
    refine hK _ _ Sm36.out (fun _ => ?_)
    clear hK K
    try simp only [Act.put, List.setIfInBounds_toArray, List.set_cons_zero, List.set_cons_succ]
    refine wpAnyH_ready (rs := [4]) (by kernel_rfl) (by simp) ?_
    refine (AllReadyH.cons rfl (fun K hK => ?_) AllReadyH.nil)
    go_simp
    refine (HA.out _).mono ?_
    rintro e wxm37 ⟨rfl, rfl⟩
    refine hK _ _ Sm36.out (fun _ => ?_)
    clear hK K
    try simp only [Act.put, List.setIfInBounds_toArray, List.set_cons_zero, List.set_cons_succ]
    refine wpAnyH_take (i := 5) (oi := ⟨some 11, _, _, _, _, _⟩) (v := ?vm38) rfl (by kernel_rfl) (by kernel_rfl) (by kernel_rfl) (fun _ _ _ h => h) (Or.inl ⟨by rfl, ?ym38⟩) Sm36.out ?rm38
    case ym38 =>
      rintro w' hSw
      go_simp
      try with_reducible rfl
    try simp only [Act.put, List.setIfInBounds_toArray, List.set_cons_zero, List.set_cons_succ]
    refine wpAnyH_ready (rs := [10]) (by kernel_rfl) (by simp) ?_
    refine (AllReadyH.cons rfl (fun K hK => ?_) AllReadyH.nil)
    go_simp
    refine (HB.out _).mono ?_
    rintro e wxm39 ⟨rfl, rfl⟩
    refine hK _ _ Sm36.out (fun _ => ?_)
    clear hK K
    try simp only [Act.put, List.setIfInBounds_toArray, List.set_cons_zero, List.set_cons_succ]
    refine wpAnyH_take (i := 11) (oi := ⟨some 17, _, _, _, _, _⟩) (v := ?vm40) rfl (by kernel_rfl) (by kernel_rfl) (by kernel_rfl) (fun _ _ _ h => h) (Or.inl ⟨by rfl, ?ym40⟩) Sm36.out ?rm40
    case ym40 =>
      rintro w' hSw
      go_simp
      try with_reducible rfl
    try simp only [Act.put, List.setIfInBounds_toArray, List.set_cons_zero, List.set_cons_succ]
    refine wpAnyH_ready (rs := [12]) (by kernel_rfl) (by simp) ?_
    refine (AllReadyH.cons rfl (fun K hK => ?_) AllReadyH.nil)
    go_simp
    refine (HC.out _).mono ?_
    rintro e wxm41 ⟨rfl, hb⟩
    have hz : w.heap.size + 1 ≤ wam36.heap.size := by have := HR_m36.out.lt; omega
    have Sm41 := Lib.hid (Sm36.out.trans (hb.mono hz))
    have HR_m41 := Lib.hid (HR_m36.out.below hb HR_m36.out.lt)
    have g_m41 := Lib.hid (g_m36.out.below hb g_m36.out.lt)
    clear hb
    clear hz
    refine hK _ _ Sm41.out (fun _ => ?_)
    clear hK K
    try simp only [Act.put, List.setIfInBounds_toArray, List.set_cons_zero, List.set_cons_succ]
    refine wpAnyH_take (i := 13) (oi := ⟨some 5, _, _, _, _, _⟩) (v := ?vm42) rfl (by kernel_rfl) (by kernel_rfl) (by kernel_rfl) (fun _ _ _ h => h) (Or.inl ⟨by rfl, ?ym42⟩) Sm41.out ?rm42
    case ym42 =>
      rintro w' hSw
      go_simp
      try with_reducible rfl
    try simp only [Act.put, List.setIfInBounds_toArray, List.set_cons_zero, List.set_cons_succ]
    refine wpAnyH_take (i := 14) (oi := ⟨some 19, _, _, _, _, _⟩) (v := ?vm43) rfl (by kernel_rfl) (by kernel_rfl) (by kernel_rfl) (fun _ _ _ h => h) (Or.inl ⟨by rfl, ?ym43⟩) Sm41.out ?rm43
    case ym43 =>
      rintro w' hSw
      go_simp
      try with_reducible rfl
    try simp only [Act.put, List.setIfInBounds_toArray, List.set_cons_zero, List.set_cons_succ]
    refine wpAnyH_take (i := 15) (oi := ⟨some 20, _, _, _, _, _⟩) (v := ?vm44) rfl (by kernel_rfl) (by kernel_rfl) (by kernel_rfl) (fun _ _ _ h => h) (Or.inl ⟨by rfl, ?ym44⟩) Sm41.out ?rm44
    case ym44 =>
      rintro w' hSw
      go_simp
      try with_reducible rfl
    try simp only [Act.put, List.setIfInBounds_toArray, List.set_cons_zero, List.set_cons_succ]
    refine wpAnyH_ready (rs := [17]) (by kernel_rfl) (by simp) ?_
    refine (AllReadyH.cons rfl (fun K hK => ?_) AllReadyH.nil)
    rw [if_pos (by rfl)]
    have f0 := g_m41.out.frozen 0
    have f1 := g_m41.out.frozen 1
    have c0 := g_m41.out.cell 0
    have c1 := g_m41.out.cell 1
    simp at c0 c1
    go_simp
    clear f0 f1 c0 c1
    have HR_m45 := Lib.hid ((HR_m41.out.far (p := ⟨g, 0, none⟩) (by dsimp only; omega) (.int .u64 (h : Int))).far (p := ⟨g, 1, none⟩) (by dsimp only; omega) (.int .u64 (l : Int)))
    have g_m45 : Hid (Row ((wxm41.setCell ⟨g, 0, none⟩ (.int .u64 (h : Int))).setCell ⟨g, 1, none⟩ (.int .u64 (l : Int))) (g) 33 [.int .u64 (h : Int), .int .u64 (l : Int)]) := Lib.hid ((g_m41.out.store 0 (.int .u64 (h : Int))).store 1 (.int .u64 (l : Int)))
    have Sm45 := Lib.hid ((Sm41.out.setCell (p := ⟨g, 0, none⟩) (by dsimp only; omega) (.int .u64 (h : Int))).setCell (p := ⟨g, 1, none⟩) (by dsimp only; omega) (.int .u64 (l : Int)))
    clear Sm41 HR_m41 g_m41
    generalize ((wxm41.setCell ⟨g, 0, none⟩ (.int .u64 (h : Int))).setCell ⟨g, 1, none⟩ (.int .u64 (l : Int))) = wsm45 at Sm45 HR_m45 g_m45 ⊢
    refine hK _ _ Sm45.out (fun _ => ?_)
    clear hK K
    try simp only [Act.put, List.setIfInBounds_toArray, List.set_cons_zero, List.set_cons_succ]
    refine wpAnyH_take (i := 18) (oi := ⟨some 4, _, _, _, _, _⟩) (v := ?vm46) rfl (by kernel_rfl) (by kernel_rfl) (by kernel_rfl) (fun _ _ _ h => h) (Or.inl ⟨by rfl, ?ym46⟩) Sm45.out ?rm46
    case ym46 =>
      rintro w' hSw
      go_simp
      try with_reducible rfl
    try simp only [Act.put, List.setIfInBounds_toArray, List.set_cons_zero, List.set_cons_succ]
    refine wpAnyH_done (by kernel_rfl) ?_ _
    have c0 := g_m45.out.cell 0
    have c1 := g_m45.out.cell 1
    have d0 := HR_m45.out.cell 0
    have d1 := HR_m45.out.cell 1
    have f0 := HR_m45.out.frozen 0
    have f1 := HR_m45.out.frozen 1
    simp at c0 c1 d0 d1
    go_wp2
    exact bodyPost_ret (v := .agg #[.int .u64 (h : Int), .int .u64 (l : Int)]) (by simp [results, Try.results28, go_sem, *]) rfl ⟨rfl, ((B0.out.trans (Sm45.out.mono (by omega))).setCell (by dsimp only; omega) _).setCell (by dsimp only; omega) _⟩
end Go.Proofs.Ytbmfijcckdkmdaa.Wi
