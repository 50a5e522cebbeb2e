/-
  Heap: does the layer do anything?
-/
import Derived.Test.YtnojkoefdigcnaaHp7
import Derived.LoopTactic
import Derived.Deep.RegionHeld
import Derived.Deep.Cut
import Derived.WalkLawsBesides
namespace Go.Proofs.Ytnojkoefdigcnaa.Hp
set_option maxRecDepth 100000
open Go.RowKit Go.Proofs.Ytnojkoefdigcnaa.Pg Go.Proofs.Ytnojkoefdigcnaa.Rec Go.Proofs.Ytnojkoefdigcnaa.Wd Go.Proofs.Ytnojkoefdigcnaa.Wi Go.Proofs.Ytnojkoefdigcnaa.Ky Go.Proofs.Ytnojkoefdigcnaa.Oct Go.Proofs.Ytnojkoefdigcnaa.Rec Go.Proofs.Ytnojkoefdigcnaa.Lift

def b1 : List UInt8 := tb 1 2 0 0 1 (-1) 0 3
theorem b1_3 : b1.getD 3 0 = 1 := by decide +kernel
theorem b1_7 : b1.getD 7 0 = 2 := by decide +kernel
theorem b1_28 : b1.getD 28 0 = 255 := by decide +kernel
theorem b1_51 : b1.getD 51 0 = 3 := by decide +kernel
theorem b1_len : b1.length = 52 := by decide +kernel
def p1 : PM := ⟨2, 0, fun k => if k = 1 then b1 else []⟩
def s1 (A : Option Addr) (c : Nat) : PS := ⟨fun k => if k = 1 then A else none, fun k => if k = 1 then 52 else 0, fun k => if k = 1 then c else 0⟩
def x1 (A : Option Addr) (c : Nat) : PX := ⟨2, 0, fun k => if k = 1 then b1 else [], s1 A c⟩
theorem p1_items : itL [p1] = [⟨2, 1, ⟨1, 2, 0, 0, 1, -1, 0, 3⟩, 0⟩] := by kernel_rfl
theorem p1_err : itE [p1] = 0 := by kernel_rfl
theorem p1_place : placeV [p1] = (2, 0, 0) := by kernel_rfl
theorem own_cells {W : World} {base n c size : Nat} {t : TypeId} {A : Option Addr} {xs : List Value} (h : W.ownsRow base t size (.slice A n c) n xs) (hp : 0 < n) : ∃ g, A = some ⟨g, 0, none⟩ ∧ base ≤ g ∧ g < W.heap.size ∧ ∀ i v, xs[i]? = some v → W.cell? ⟨g, i, none⟩ = some v := by
  rcases h.2 with ⟨hv, h0⟩ | ⟨g, cap, cur, hv, hb, hg, hn, hm, hs, ht⟩
  · omega
  · injection hv with e1 e2 e3
    refine ⟨g, e1, hb, (Array.getElem?_eq_some_iff.1 hg).1, fun i v hi => ?_⟩
    rw [cell_of_row W g i cur t (0, 0) hg]
    rw [← ht, List.getElem?_take] at hi
    split at hi
    · simpa using hi
    · cases hi
theorem x1_pgs {w : World} {A : Option Addr} {c g : Nat} (h : Sl w w.heap.size A 52 c b1) (hr : Row w g 73 [.int .i64 2, .int .u64 0, .slice none 0 0, .slice A 52 c, .slice none 0 0, .slice none 0 0]) : Pgs w w.heap.size (some ⟨g, 0, none⟩) [x1 A c] := by
  refine ⟨fun _ => ⟨g, 0, rfl, hr.lt, fun i x hx j v hj => ?_⟩, fun x hx k hk => ?_⟩
  · have hi : i = 0 := by
      have := (List.getElem?_eq_some_iff.1 hx).1
      simp at this
      exact this
    subst hi
    obtain rfl : x1 A c = x := by simpa using hx
    rw [show 0 + 0 * 6 + j = j by omega, hr.cell]
    exact hj
  · obtain rfl : x = x1 A c := by simpa using hx
    by_cases h1 : k = 1
    · subst h1; exact h
    · unfold x1 s1
      simp only [if_neg h1]
      exact Sl.nil_ _ _

set_option maxHeartbeats 4000000 in
theorem wakes_any (w : World) : Calls Try.prog 8 #[] w fun e w' => e = .returned (.bool true) ∧ Below w.heap.size w w' := by
  have HFI := Lib.hid first_any
  have HE : Hid (∀ w, Calls Try.prog 9 #[.agg #[.int .u32 1, .int .u64 2, .int .u64 0, .int .i64 0, .int .i64 1, .int .i64 (-1), .int .i64 0, .int .i64 3]] w (EncR w b1)) := Lib.hid (fun w => Encode_ok 1 2 0 0 1 (-1) 0 3 w (by decide) (by omega))
  have HSL : Hid (∀ (A : Option Addr) (c : Nat), ∀ x ∈ [x1 A c], ∀ k, k < 4 → x.s.n k ≤ 140737488355328) := Lib.hid (fun A c x hx k hk => by
    obtain rfl : x = x1 A c := by simpa using hx
    unfold x1 s1
    dsimp only
    split <;> omega)
  have B0 := Lib.hid (Below.refl w.heap.size w)
  go_enter Try.func8, Try.ntmps8
  go_wp2_with fail
  refine (first_any _).mono ?_
  rintro e W1 ⟨rfl, hb⟩
  have B_1 := Lib.hid (B0.out.trans (hb.mono B0.out.size))
  clear hb B0
  go_wp2_with fail
  refine (HE.out _).mono ?_
  rintro e W2 ⟨A, c, rfl, hS, hb⟩
  have B_2 := Lib.hid (B_1.out.trans (hb.mono B_1.out.size))
  clear hb B_1
  obtain ⟨b, o, rfl, hblt, hc⟩ := hS.bs (by decide +kernel)
  have k3 : W2.cell? ⟨b, o + 3, none⟩ = some (.int .u8 1) := by have := hc 3 (by decide +kernel); rwa [show (b1.getD 3 0) = 1 from b1_3] at this
  have k7 : W2.cell? ⟨b, o + 7, none⟩ = some (.int .u8 2) := by have := hc 7 (by decide +kernel); rwa [show (b1.getD 7 0) = 2 from b1_7] at this
  have k28 : W2.cell? ⟨b, o + 28, none⟩ = some (.int .u8 255) := by have := hc 28 (by decide +kernel); rwa [show (b1.getD 28 0) = 255 from b1_28] at this
  have k51 : W2.cell? ⟨b, o + 51, none⟩ = some (.int .u8 3) := by have := hc 51 (by decide +kernel); rwa [show (b1.getD 51 0) = 3 from b1_51] at this
  have HS := Lib.hid hS
  clear hS hc hblt
  go_upto_region 5 with fail
  clear k3 k7 k28 k51
  have S_3 := Lib.hid ((HS.out.below ((Below.refl W2.heap.size W2).alloc (Nat.le_refl _) (.cells #[.int .i64 2, .int .u64 0, .slice none 0 0, .slice (some ⟨b, o, none⟩) 52 c, .slice none 0 0, .slice none 0 0] 73))).more ((Below.refl W2.heap.size W2).alloc (Nat.le_refl _) (.cells #[.int .i64 2, .int .u64 0, .slice none 0 0, .slice (some ⟨b, o, none⟩) 52 c, .slice none 0 0, .slice none 0 0] 73)).size)
  have RP_3 := Lib.hid (row_last W2 (W2.heap.size) 73 [.int .i64 2, .int .u64 0, .slice none 0 0, .slice (some ⟨b, o, none⟩) 52 c, .slice none 0 0, .slice none 0 0] (by simp))
  have B_3 := Lib.hid (B_2.out.alloc B_2.out.size (.cells #[.int .i64 2, .int .u64 0, .slice none 0 0, .slice (some ⟨b, o, none⟩) 52 c, .slice none 0 0, .slice none 0 0] 73))
  clear HS B_2
  generalize (W2.alloc (.cells #[.int .i64 2, .int .u64 0, .slice none 0 0, .slice (some ⟨b, o, none⟩) 52 c, .slice none 0 0, .slice none 0 0] 73)) = V3 at RP_3 S_3 B_3 ⊢
  have HPL := place_any [x1 (some ⟨b, o, none⟩) c] _ 1 1 V3 rfl (by omega) (x1_pgs S_3.out RP_3.out) (HSL.out _ _)
  rw [show [x1 (some ⟨b, o, none⟩) c].map pmOf = [p1] from rfl, p1_place] at HPL
  have HPL := Lib.hid HPL
  go_wp2_with fail
  refine HPL.out.mono ?_
  rintro e W3 ⟨rfl, hb⟩
  clear HPL
  have RP_4 := Lib.hid (RP_3.out.below hb RP_3.out.lt)
  have S_4 := Lib.hid ((S_3.out.below hb).more hb.size)
  have B_4 := Lib.hid (B_3.out.trans (hb.mono B_3.out.size))
  clear hb RP_3 S_3 B_3
  go_upto_region 6 with fail
  have hlt5_0 : W2.heap.size < W3.heap.size := RP_4.out.lt
  have RP_5 := Lib.hid (RP_4.out.alloc (.cells #[.int .i64 2, .int .i64 0] 49))
  have S_5 := Lib.hid ((S_4.out.below ((Below.refl W3.heap.size W3).alloc (Nat.le_refl _) (.cells #[.int .i64 2, .int .i64 0] 49))).more ((Below.refl W3.heap.size W3).alloc (Nat.le_refl _) (.cells #[.int .i64 2, .int .i64 0] 49)).size)
  have RS_5 := Lib.hid (row_last W3 (W3.heap.size) 49 [.int .i64 2, .int .i64 0] (by simp))
  have B_5 := Lib.hid (B_4.out.alloc B_4.out.size (.cells #[.int .i64 2, .int .i64 0] 49))
  clear RP_4 S_4 B_4
  generalize (W3.alloc (.cells #[.int .i64 2, .int .i64 0] 49)) = V5 at RP_5 RS_5 S_5 B_5 ⊢
  have HIT := items_any [x1 (some ⟨b, o, none⟩) c] _ 1 1 V5 rfl (by omega) (x1_pgs S_5.out RP_5.out) (HSL.out _ _)
  rw [show [x1 (some ⟨b, o, none⟩) c].map pmOf = [p1] from rfl] at HIT
  unfold ItR at HIT
  rw [p1_items, p1_err] at HIT
  have HIT := Lib.hid HIT
  go_wp2_with fail
  refine HIT.out.mono ?_
  rintro e W4 ⟨Ai, ci, rfl, hown, hb⟩
  clear HIT
  have RP_6 := Lib.hid (RP_5.out.below hb RP_5.out.lt)
  have RS_6 := Lib.hid (RS_5.out.below hb RS_5.out.lt)
  have S_6 := Lib.hid ((S_5.out.below hb).more hb.size)
  have B_6 := Lib.hid (B_5.out.trans (hb.mono B_5.out.size))
  clear hb RP_5 RS_5 S_5 B_5
  obtain ⟨gi, rfl, hgb, hgl, hgc⟩ := own_cells hown (by decide)
  have HGL := Lib.hid hgl
  have HGC := Lib.hid hgc
  clear hown hgb hgl hgc
  go_wp2_with fail
  refine wp_region_held_drew (S := fun w' => Below W4.heap.size W4 w') (by kernel_rfl) (Below.refl _ _).drew (fun hHeld => ?_)
  have S_7 := Lib.hid hHeld
  clear hHeld
  generalize W4.drew = D7 at S_7 ⊢
  refine wpAnyH_take (i := 0) (oi := ⟨some 57, _, _, _, _, _⟩) (v := ?vd7_1) rfl (by kernel_rfl) (by kernel_rfl) (by kernel_rfl) (fun _ _ _ h => h) (Or.inl ⟨by rfl, ?yd7_1⟩) S_7.out ?rd7_1
  case yd7_1 =>
    rintro w' hSw
    go_simp
    try with_reducible rfl
  try simp only [Act.put, List.setIfInBounds_toArray, List.set_cons_zero, List.set_cons_succ]
  refine wpAnyH_take (i := 1) (oi := ⟨some 58, _, _, _, _, _⟩) (v := ?vd7_2) rfl (by kernel_rfl) (by kernel_rfl) (by kernel_rfl) (fun _ _ _ h => h) (Or.inl ⟨by rfl, ?yd7_2⟩) S_7.out ?rd7_2
  case yd7_2 =>
    rintro w' hSw
    go_simp
    try with_reducible rfl
  try simp only [Act.put, List.setIfInBounds_toArray, List.set_cons_zero, List.set_cons_succ]
  refine wpAnyH_take (i := 2) (oi := ⟨some 59, _, _, _, _, _⟩) (v := ?vd7_3) rfl (by kernel_rfl) (by kernel_rfl) (by kernel_rfl) (fun _ _ _ h => h) (Or.inl ⟨by rfl, ?yd7_3⟩) S_7.out ?rd7_3
  case yd7_3 =>
    rintro w' hSw
    go_simp
    try with_reducible rfl
  try simp only [Act.put, List.setIfInBounds_toArray, List.set_cons_zero, List.set_cons_succ]
  refine wpAnyH_take (i := 3) (oi := ⟨some 60, _, _, _, _, _⟩) (v := ?vd7_4) rfl (by kernel_rfl) (by kernel_rfl) (by kernel_rfl) (fun _ _ _ h => h) (Or.inl ⟨by rfl, ?yd7_4⟩) S_7.out ?rd7_4
  case yd7_4 =>
    rintro w' hSw
    go_simp
    try with_reducible rfl
  try simp only [Act.put, List.setIfInBounds_toArray, List.set_cons_zero, List.set_cons_succ]
  refine wpAnyH_take (i := 4) (oi := ⟨some 61, _, _, _, _, _⟩) (v := ?vd7_5) rfl (by kernel_rfl) (by kernel_rfl) (by kernel_rfl) (fun _ _ _ h => h) (Or.inl ⟨by rfl, ?yd7_5⟩) S_7.out ?rd7_5
  case yd7_5 =>
    rintro w' hSw
    go_simp
    try with_reducible rfl
  try simp only [Act.put, List.setIfInBounds_toArray, List.set_cons_zero, List.set_cons_succ]
  refine wpAnyH_take (i := 5) (oi := ⟨some 62, _, _, _, _, _⟩) (v := ?vd7_6) rfl (by kernel_rfl) (by kernel_rfl) (by kernel_rfl) (fun _ _ _ h => h) (Or.inl ⟨by rfl, ?yd7_6⟩) S_7.out ?rd7_6
  case yd7_6 =>
    rintro w' hSw
    go_simp
    try with_reducible rfl
  try simp only [Act.put, List.setIfInBounds_toArray, List.set_cons_zero, List.set_cons_succ]
  refine wpAnyH_take (i := 6) (oi := ⟨some 63, _, _, _, _, _⟩) (v := ?vd7_7) rfl (by kernel_rfl) (by kernel_rfl) (by kernel_rfl) (fun _ _ _ h => h) (Or.inl ⟨by rfl, ?yd7_7⟩) S_7.out ?rd7_7
  case yd7_7 =>
    rintro w' hSw
    go_simp
    try with_reducible rfl
  try simp only [Act.put, List.setIfInBounds_toArray, List.set_cons_zero, List.set_cons_succ]
  refine wpAnyH_take (i := 7) (oi := ⟨some 64, _, _, _, _, _⟩) (v := ?vd7_8) rfl (by kernel_rfl) (by kernel_rfl) (by kernel_rfl) (fun _ _ _ h => h) (Or.inl ⟨by rfl, ?yd7_8⟩) S_7.out ?rd7_8
  case yd7_8 =>
    rintro w' hSw
    have k0 := (RS_6.out.below hSw RS_6.out.lt).cell 0
    have k1 := (RS_6.out.below hSw RS_6.out.lt).cell 1
    simp only [List.getElem?_cons_zero, List.getElem?_cons_succ] at k0 k1
    go_simp
    try with_reducible rfl
  try simp only [Act.put, List.setIfInBounds_toArray, List.set_cons_zero, List.set_cons_succ]
  refine wpAnyH_take (i := 8) (oi := ⟨some 65, _, _, _, _, _⟩) (v := ?vd7_9) rfl (by kernel_rfl) (by kernel_rfl) (by kernel_rfl) (fun _ _ _ h => h) (Or.inl ⟨by rfl, ?yd7_9⟩) S_7.out ?rd7_9
  case yd7_9 =>
    rintro w' hSw
    go_simp
    try with_reducible rfl
  try simp only [Act.put, List.setIfInBounds_toArray, List.set_cons_zero, List.set_cons_succ]
  refine wpAnyH_take (i := 9) (oi := ⟨some 66, _, _, _, _, _⟩) (v := ?vd7_10) rfl (by kernel_rfl) (by kernel_rfl) (by kernel_rfl) (fun _ _ _ h => h) (Or.inl ⟨by rfl, ?yd7_10⟩) S_7.out ?rd7_10
  case yd7_10 =>
    rintro w' hSw
    go_simp
    try with_reducible rfl
  try simp only [Act.put, List.setIfInBounds_toArray, List.set_cons_zero, List.set_cons_succ]
  refine wpAnyH_take (i := 10) (oi := ⟨some 67, _, _, _, _, _⟩) (v := ?vd7_11) rfl (by kernel_rfl) (by kernel_rfl) (by kernel_rfl) (fun _ _ _ h => h) (Or.inl ⟨by rfl, ?yd7_11⟩) S_7.out ?rd7_11
  case yd7_11 =>
    rintro w' hSw
    go_simp
    try with_reducible rfl
  try simp only [Act.put, List.setIfInBounds_toArray, List.set_cons_zero, List.set_cons_succ]
  refine wpAnyH_take (i := 11) (oi := ⟨some 68, _, _, _, _, _⟩) (v := ?vd7_12) rfl (by kernel_rfl) (by kernel_rfl) (by kernel_rfl) (fun _ _ _ h => h) (Or.inl ⟨by rfl, ?yd7_12⟩) S_7.out ?rd7_12
  case yd7_12 =>
    rintro w' hSw
    go_simp
    try with_reducible rfl
  try simp only [Act.put, List.setIfInBounds_toArray, List.set_cons_zero, List.set_cons_succ]
  refine wpAnyH_take (i := 12) (oi := ⟨some 69, _, _, _, _, _⟩) (v := ?vd7_13) rfl (by kernel_rfl) (by kernel_rfl) (by kernel_rfl) (fun _ _ _ h => h) (Or.inl ⟨by rfl, ?yd7_13⟩) S_7.out ?rd7_13
  case yd7_13 =>
    rintro w' hSw
    go_simp
    try with_reducible rfl
  try simp only [Act.put, List.setIfInBounds_toArray, List.set_cons_zero, List.set_cons_succ]
  refine wpAnyH_take (i := 13) (oi := ⟨some 70, _, _, _, _, _⟩) (v := ?vd7_14) rfl (by kernel_rfl) (by kernel_rfl) (by kernel_rfl) (fun _ _ _ h => h) (Or.inl ⟨by rfl, ?yd7_14⟩) S_7.out ?rd7_14
  case yd7_14 =>
    rintro w' hSw
    go_simp
    try with_reducible rfl
  try simp only [Act.put, List.setIfInBounds_toArray, List.set_cons_zero, List.set_cons_succ]
  refine wpAnyH_take (i := 14) (oi := ⟨some 71, _, _, _, _, _⟩) (v := ?vd7_15) rfl (by kernel_rfl) (by kernel_rfl) (by kernel_rfl) (fun _ _ _ h => h) (Or.inl ⟨by rfl, ?yd7_15⟩) S_7.out ?rd7_15
  case yd7_15 =>
    rintro w' hSw
    go_simp
    try with_reducible rfl
  try simp only [Act.put, List.setIfInBounds_toArray, List.set_cons_zero, List.set_cons_succ]
  refine wpAnyH_take (i := 15) (oi := ⟨some 72, _, _, _, _, _⟩) (v := ?vd7_16) rfl (by kernel_rfl) (by kernel_rfl) (by kernel_rfl) (fun _ _ _ h => h) (Or.inl ⟨by rfl, ?yd7_16⟩) S_7.out ?rd7_16
  case yd7_16 =>
    rintro w' hSw
    go_simp
    try with_reducible rfl
  try simp only [Act.put, List.setIfInBounds_toArray, List.set_cons_zero, List.set_cons_succ]
  refine wpAnyH_take (i := 16) (oi := ⟨some 73, _, _, _, _, _⟩) (v := ?vd7_17) rfl (by kernel_rfl) (by kernel_rfl) (by kernel_rfl) (fun _ _ _ h => h) (Or.inl ⟨by rfl, ?yd7_17⟩) S_7.out ?rd7_17
  case yd7_17 =>
    rintro w' hSw
    go_simp
    try with_reducible rfl
  try simp only [Act.put, List.setIfInBounds_toArray, List.set_cons_zero, List.set_cons_succ]
  refine wpAnyH_take (i := 17) (oi := ⟨some 74, _, _, _, _, _⟩) (v := ?vd7_18) rfl (by kernel_rfl) (by kernel_rfl) (by kernel_rfl) (fun _ _ _ h => h) (Or.inl ⟨by rfl, ?yd7_18⟩) S_7.out ?rd7_18
  case yd7_18 =>
    rintro w' hSw
    go_simp
    try with_reducible rfl
  try simp only [Act.put, List.setIfInBounds_toArray, List.set_cons_zero, List.set_cons_succ]
  refine wpAnyH_take (i := 18) (oi := ⟨some 75, _, _, _, _, _⟩) (v := ?vd7_19) rfl (by kernel_rfl) (by kernel_rfl) (by kernel_rfl) (fun _ _ _ h => h) (Or.inl ⟨by rfl, ?yd7_19⟩) S_7.out ?rd7_19
  case yd7_19 =>
    rintro w' hSw
    go_simp
    try with_reducible rfl
  try simp only [Act.put, List.setIfInBounds_toArray, List.set_cons_zero, List.set_cons_succ]
  refine wpAnyH_take (i := 19) (oi := ⟨some 76, _, _, _, _, _⟩) (v := ?vd7_20) rfl (by kernel_rfl) (by kernel_rfl) (by kernel_rfl) (fun _ _ _ h => h) (Or.inl ⟨by rfl, ?yd7_20⟩) S_7.out ?rd7_20
  case yd7_20 =>
    rintro w' hSw
    go_simp
    try with_reducible rfl
  try simp only [Act.put, List.setIfInBounds_toArray, List.set_cons_zero, List.set_cons_succ]
  refine wpAnyH_take (i := 20) (oi := ⟨some 77, _, _, _, _, _⟩) (v := ?vd7_21) rfl (by kernel_rfl) (by kernel_rfl) (by kernel_rfl) (fun _ _ _ h => h) (Or.inl ⟨by rfl, ?yd7_21⟩) S_7.out ?rd7_21
  case yd7_21 =>
    rintro w' hSw
    have q2 : w'.cell? ⟨gi, 2, none⟩ = some (.int .u32 1) := (hSw.cell (p := ⟨gi, 2, none⟩) HGL.out).trans (HGC.out 2 _ rfl)
    have q3 : w'.cell? ⟨gi, 3, none⟩ = some (.int .u64 2) := (hSw.cell (p := ⟨gi, 3, none⟩) HGL.out).trans (HGC.out 3 _ rfl)
    have q4 : w'.cell? ⟨gi, 4, none⟩ = some (.int .u64 0) := (hSw.cell (p := ⟨gi, 4, none⟩) HGL.out).trans (HGC.out 4 _ rfl)
    have q5 : w'.cell? ⟨gi, 5, none⟩ = some (.int .i64 0) := (hSw.cell (p := ⟨gi, 5, none⟩) HGL.out).trans (HGC.out 5 _ rfl)
    have q6 : w'.cell? ⟨gi, 6, none⟩ = some (.int .i64 1) := (hSw.cell (p := ⟨gi, 6, none⟩) HGL.out).trans (HGC.out 6 _ rfl)
    have q7 : w'.cell? ⟨gi, 7, none⟩ = some (.int .i64 (-1)) := (hSw.cell (p := ⟨gi, 7, none⟩) HGL.out).trans (HGC.out 7 _ rfl)
    have q8 : w'.cell? ⟨gi, 8, none⟩ = some (.int .i64 0) := (hSw.cell (p := ⟨gi, 8, none⟩) HGL.out).trans (HGC.out 8 _ rfl)
    have q9 : w'.cell? ⟨gi, 9, none⟩ = some (.int .i64 3) := (hSw.cell (p := ⟨gi, 9, none⟩) HGL.out).trans (HGC.out 9 _ rfl)
    go_simp
    try with_reducible rfl
  try simp only [Act.put, List.setIfInBounds_toArray, List.set_cons_zero, List.set_cons_succ]
  refine wpAnyH_ready (rs := [21]) (by kernel_rfl) (by simp) ?_
  refine (AllReadyH.cons rfl (fun K hK => ?_) AllReadyH.nil)
  go_simp
  refine (HFI.out _).mono ?_
  rintro e Xd7_22 ⟨rfl, hb⟩
  have Sd7_22 := Lib.hid (S_7.out.trans (hb.mono S_7.out.size))
  clear hb S_7
  refine hK _ _ Sd7_22.out (fun _ => ?_)
  clear hK K
  try simp only [Act.put, List.setIfInBounds_toArray, List.set_cons_zero, List.set_cons_succ]
  refine wpAnyH_take (i := 22) (oi := ⟨some 79, _, _, _, _, _⟩) (v := ?vd7_23) rfl (by kernel_rfl) (by kernel_rfl) (by kernel_rfl) (fun _ _ _ h => h) (Or.inl ⟨by rfl, ?yd7_23⟩) Sd7_22.out ?rd7_23
  case yd7_23 =>
    rintro w' hSw
    go_simp
    try with_reducible rfl
  try simp only [Act.put, List.setIfInBounds_toArray, List.set_cons_zero, List.set_cons_succ]
  refine wpAnyH_take (i := 23) (oi := ⟨some 80, _, _, _, _, _⟩) (v := ?vd7_24) rfl (by kernel_rfl) (by kernel_rfl) (by kernel_rfl) (fun _ _ _ h => h) (Or.inl ⟨by rfl, ?yd7_24⟩) Sd7_22.out ?rd7_24
  case yd7_24 =>
    rintro w' hSw
    go_simp
    try with_reducible rfl
  try simp only [Act.put, List.setIfInBounds_toArray, List.set_cons_zero, List.set_cons_succ]
  refine wpAnyH_take (i := 24) (oi := ⟨some 0, _, _, _, _, _⟩) (v := ?vd7_25) rfl (by kernel_rfl) (by kernel_rfl) (by kernel_rfl) (fun _ _ _ h => h) (Or.inl ⟨by rfl, ?yd7_25⟩) Sd7_22.out ?rd7_25
  case yd7_25 =>
    rintro w' hSw
    go_simp
    try with_reducible rfl
  try simp only [Act.put, List.setIfInBounds_toArray, List.set_cons_zero, List.set_cons_succ]
  refine wpAnyH_done (by kernel_rfl) ?_ _
  go_wp2
  go_ret
  exact ⟨rfl, B_6.out.trans (Sd7_22.out.mono B_6.out.size)⟩
end Go.Proofs.Ytnojkoefdigcnaa.Hp
