/-
  HeapRows: the next row has no version, and all that have are below it. No condition.
-/
import Derived.Test.YtmgpghblnipbmaaHp8
import Derived.Test.YtmgpghblnipbmaaHpO
import Derived.Test.YtmgpghblnipbmaaHpS
import Derived.Test.YtmgpghblnipbmaaHpV
import Derived.Deep.RegionHeld
import Derived.Deep.Cut
import Derived.WalkLawsBesides
namespace Go.Proofs.Ytmgpghblnipbmaa.HeapRows
set_option maxRecDepth 100000
open Go.RowKit Go.ChangeShapes Go.WideShapes Go.ChangeAt Go.Proofs.Ytmgpghblnipbmaa.Pg Go.Proofs.Ytmgpghblnipbmaa.Rec Go.Proofs.Ytmgpghblnipbmaa.Wd Go.Proofs.Ytmgpghblnipbmaa.Wi Go.Proofs.Ytmgpghblnipbmaa.Ky Go.Proofs.Ytmgpghblnipbmaa.Oct Go.Proofs.Ytmgpghblnipbmaa.Lift Go.Proofs.Ytmgpghblnipbmaa.Hp

theorem own : ownKnob Try.prog.godebug = none := by kernel_rfl
theorem laidOut : laidOutB Try.prog = true := by kernel_rfl
theorem bytes1 : Try.prog.bytesOf 5 = 1 := by kernel_rfl

theorem top_ge : ∀ (L : List EH) (x : EH), x ∈ L → x.t.r ≤ topM L := by
  have h : ∀ (L : List EH) (m : Nat), m ≤ L.foldl (fun m x => max m x.t.r) m ∧ ∀ x ∈ L, x.t.r ≤ L.foldl (fun m x => max m x.t.r) m := by
    intro L
    induction L with
    | nil => intro m; exact ⟨Nat.le_refl _, fun x hx => by cases hx⟩
    | cons y L ih =>
      intro m
      have h1 := ih (max m y.t.r)
      refine ⟨Nat.le_trans (Nat.le_max_left _ _) h1.1, fun x hx => ?_⟩
      rcases List.mem_cons.1 hx with rfl | hx
      · exact Nat.le_trans (Nat.le_max_right _ _) h1.1
      · exact h1.2 x hx
  exact fun L x hx => (h L 0).2 x hx
theorem next_none (L : List EH) (N : Nat) (h : topM L < N) : L.filter (fun x => !otherB N x) = [] := by
  rw [List.filter_eq_nil_iff]
  intro x hx
  have hle := top_ge L x hx
  simp [otherB]
  omega
theorem rows_some (L : List EH) (x : EH) (hx : x ∈ L) : (L.filter (fun y => !otherB x.t.r y)).length ≠ 0 := by
  intro h
  have h1 := List.eq_nil_of_length_eq_zero h
  rw [List.filter_eq_nil_iff] at h1
  exact h1 x hx (by simp [otherB])
set_option maxHeartbeats 8000000 in
theorem walk (l : List PX) (A : Option Addr) (n c : Nat) (w : World) (hn : l.length = n) (hP : Pgs w w.heap.size A l) :
    Calls Try.prog 7 #[.slice A n c] w fun e w' => e = .returned (.bool true) ∧ Below w.heap.size w w' := by
  have HW := Lib.hid wakes_any
  have HSH := Lib.hid (fun (W : World) (hb : Below w.heap.size w W) => short_any l A n c W hn ((hP.below hb).more hb.size))
  clear hn hP
  generalize l.map pmOf = ms at HSH
  go_enter Try.func7, Try.ntmps7
  go_wp2_with fail
  refine (HW.out _).mono ?_
  rintro e w1 ⟨rfl, hb⟩
  have B1 := Lib.hid hb
  clear hb HW
  go_wp2_with fail
  refine (HSH.out _ B1.out).mono ?_
  rintro e w2 ⟨As, cs, xs, rfl, hps, hmap, hb⟩
  have B2 := Lib.hid (B1.out.trans (hb.mono B1.out.size))
  have hlx : xs.length ≤ 33 := by
    have := congrArg List.length hmap
    simp only [List.length_map, List.length_take] at this
    omega
  obtain ⟨m, hm⟩ : ∃ m, m = xs.length := ⟨_, rfl⟩
  rw [← hm] at hps hlx ⊢
  have HPS := Lib.hid hps
  have HM := Lib.hid hm.symm
  have HLN := Lib.hid hps.lens
  clear hps hmap hb HSH B1 hm
  have HIT := Lib.hid (items_any xs As m cs w2 HM.out (by omega) (HPS.out.pgs HM.out) HLN.out)
  have HNX := Lib.hid (fun (W : World) (hb : Below w2.heap.size w2 W) => next_any xs As m cs W HM.out (by omega) ((HPS.out.below hb).pgs HM.out) HLN.out)
  have HVR := Lib.hid (fun (row : Nat) (W : World) (hb : Below w2.heap.size w2 W) => versions_any xs As m cs row W HM.out (by omega) ((HPS.out.below hb).pgs HM.out) HLN.out)
  have HTL := Lib.hid (top_lt (itL (xs.map pmOf)) (fun x hx => itL_r hx))
  have HLL : Hid ((itL (xs.map pmOf)).length ≤ 1000) := Lib.hid (by have := itL_len (xs.map pmOf); rw [List.length_map, HM.out] at this; omega)
  clear HPS HLN
  generalize xs.map pmOf = ns at *
  have HNV : Hid (nextV ns = if itE ns = 0 then (if topM (itL ns) = 4294967295 then (0, 6) else ((topM (itL ns) : Int) + 1, 0)) else (0, itE ns)) := Lib.hid rfl
  unfold ItR at HIT
  unfold VerR at HVR
  obtain ⟨⟨v1, v2⟩, hv⟩ : ∃ V, V = nextV ns := ⟨_, rfl⟩
  rw [← hv] at HNV HNX
  clear hv
  dsimp only at HNX
  generalize itL ns = L at *
  generalize itE ns = E at *
  go_wp2_with fail
  refine HIT.out.mono ?_
  rintro e w3 ⟨A1, c1, rfl, ho, hb⟩
  have B3 := Lib.hid (B2.out.trans (hb.mono B2.out.size))
  have D3 := Lib.hid hb
  have HO := Lib.hid ho
  clear ho hb HIT
  obtain ⟨nl, hnl⟩ : ∃ nl, nl = L.length := ⟨_, rfl⟩
  rw [← hnl]
  have HNL := Lib.hid hnl.symm
  have hnl1 : nl ≤ 1000 := by rw [hnl]; exact HLL.out
  clear hnl
  by_cases he : E = 0
  case neg =>
    have he2 : (E != 0) = true := by simp [he]
    clear he HO HNX HVR HNV
    go_wp2
    go_ret
    exact ⟨rfl, B3.out⟩
  subst he
  have HNV2 := Lib.hid HNV.out
  rw [if_pos rfl] at HNV2
  clear HNV
  go_wp2_with fail
  refine (HNX.out _ D3.out).mono ?_
  rintro e w4 ⟨rfl, hb⟩
  have B4 := Lib.hid (B3.out.trans (hb.mono B3.out.size))
  have D4 := Lib.hid (D3.out.trans (hb.mono D3.out.size))
  have HO4 := Lib.hid (ownS_below HO.out hb)
  clear hb HO B3 D3 HNX
  by_cases hx : topM L = 4294967295
  · obtain ⟨rfl, rfl⟩ : v1 = 0 ∧ v2 = 6 := by have := HNV2.out; rw [if_pos hx] at this; simpa using this
    clear hx HNV2 HTL HO4
    go_wp2
    go_ret
    exact ⟨rfl, B4.out⟩
  obtain ⟨N, hN⟩ : ∃ N, N = topM L + 1 := ⟨_, rfl⟩
  obtain ⟨rfl, rfl⟩ : v1 = (N : Int) ∧ v2 = 0 := by have := HNV2.out; rw [if_neg hx] at this; rw [hN]; simpa using this
  have HN := Lib.hid hN
  have hN0 : ((N : Int) == 0) = false := by simp <;> omega
  clear hx HNV2 HTL hN
  have HV1 := Lib.hid (HVR.out N w4 D4.out)
  rw [next_none L N (by rw [HN.out]; omega)] at HV1
  go_wp2_with fail
  refine HV1.out.mono ?_
  rintro e w5 ⟨A5, m5, c5, rfl, hm5, -, hb⟩
  obtain rfl : m5 = 0 := hm5.out
  have B5 := Lib.hid (B4.out.trans (hb.mono B4.out.size))
  have D5 := Lib.hid (D4.out.trans (hb.mono D4.out.size))
  have HO5 := Lib.hid (ownS_below HO4.out hb)
  clear hb hm5 HO4 B4 D4 HV1
  go_wp2_with fail
  clear hN0
  go_loopw [56] (fun i wr => ∃ k : Nat, k ≤ nl ∧ i = .int .i64 (k : Int) ∧ Hid (Below w.heap.size w wr) ∧ Hid (Below w2.heap.size w2 wr) ∧ Hid (OwnI wr w2.heap.size (.slice A1 nl c1) L)) (fun i _ => nl - (intOf i).toNat)
  case atStart => exact ⟨0, by omega, rfl, B5, D5, Lib.hid (by rw [show (Value.slice A1 nl c1) = .slice A1 L.length c1 by rw [HNL.out]]; exact HO5.out)⟩
  case round =>
    obtain ⟨k, hk, rfl, HI, HD, HOI⟩ := hrel
    clear B5 D5 HO5
    by_cases hlt : k < nl
    case neg =>
      have h1 : ¬ (k : Int) < (nl : Int) := by omega
      go_wp2
      go_ret
      exact ⟨rfl, HI.out⟩
    have h1 : (k : Int) < (nl : Int) := by omega
    obtain ⟨x, hx⟩ : ∃ x, L[k]? = some x := ⟨_, List.getElem?_eq_getElem (by rw [HNL.out]; exact hlt)⟩
    obtain ⟨g, rfl, hgb, hgl, -, hc⟩ := ownI_at HOI.out hx
    have HNE := Lib.hid (rows_some L x (List.mem_of_getElem? hx))
    have HLE : Hid (x.t.r < N) := Lib.hid (by have := top_ge L x (List.mem_of_getElem? hx); have := HN.out; omega)
    have HWA : Hid (Below wr.heap.size wr (wr.alloc (.cells x.cells.toArray 64))) := Lib.hid ((Below.refl _ _).alloc (Nat.le_refl _) _)
    have HRX : Hid (Row (wr.alloc (.cells x.cells.toArray 64)) wr.heap.size 64 x.cells) := Lib.hid (Row.new _ _ _)
    obtain ⟨x1, x2, ⟨r, a, b, x0, z1, y0, y1, v⟩, xe⟩ := x
    have c0 : wr.cell? ⟨g, k * 10, none⟩ = some (.int .i64 x1) := hc 0 _ rfl
    have c1 : wr.cell? ⟨g, k * 10 + 1, none⟩ = some (.int .i64 (x2 : Int)) := hc 1 _ rfl
    have c2 : wr.cell? ⟨g, k * 10 + 2, none⟩ = some (.int .u32 (r : Int)) := hc 2 _ rfl
    have c3 : wr.cell? ⟨g, k * 10 + 3, none⟩ = some (.int .u64 (a : Int)) := hc 3 _ rfl
    have c4 : wr.cell? ⟨g, k * 10 + 4, none⟩ = some (.int .u64 (b : Int)) := hc 4 _ rfl
    have c5 : wr.cell? ⟨g, k * 10 + 5, none⟩ = some (.int .i64 x0) := hc 5 _ rfl
    have c6 : wr.cell? ⟨g, k * 10 + 6, none⟩ = some (.int .i64 z1) := hc 6 _ rfl
    have c7 : wr.cell? ⟨g, k * 10 + 7, none⟩ = some (.int .i64 y0) := hc 7 _ rfl
    have c8 : wr.cell? ⟨g, k * 10 + 8, none⟩ = some (.int .i64 y1) := hc 8 _ rfl
    have c9 : wr.cell? ⟨g, k * 10 + 9, none⟩ = some (.int .i64 v) := hc 9 _ rfl
    clear hc hgb hgl hx
    dsimp only at HNE HLE
    unfold EH.cells Tu.cells at HWA HRX
    dsimp only at HWA HRX
    go_upto_region 16 with fail
    clear c2 c3 c4 c5 c6 c7 c8 c9 
    obtain ⟨gb, hgb⟩ : ∃ gb, gb = wr.heap.size := ⟨_, rfl⟩
    rw [← hgb] at HRX ⊢
    generalize wr.alloc (.cells #[.int .i64 x1, .int .i64 (x2 : Int), .int .u32 (r : Int), .int .u64 (a : Int), .int .u64 (b : Int), .int .i64 x0, .int .i64 z1, .int .i64 y0, .int .i64 y1, .int .i64 v] 64) = wa at HWA HRX ⊢
    clear hgb
    have BA := Lib.hid (HI.out.trans (HWA.out.mono HI.out.size))
    have DA := Lib.hid (HD.out.trans (HWA.out.mono HD.out.size))
    have OA := Lib.hid (ownS_below HOI.out HWA.out)
    clear HI HD HOI HWA
    have q2 := HRX.out.cell 2
    simp only [List.getElem?_cons_zero, List.getElem?_cons_succ] at q2
    have HV := Lib.hid (HVR.out r wa DA.out)
    go_wp2_with fail
    clear q2
    refine HV.out.mono ?_
    rintro e w7 ⟨A7, m7, c7, rfl, hm7, -, hb⟩
    have B7 := Lib.hid (BA.out.trans (hb.mono BA.out.size))
    have D7 := Lib.hid (DA.out.trans (hb.mono DA.out.size))
    have O7 := Lib.hid (ownS_below OA.out hb)
    have HR7 := Lib.hid (HRX.out.below hb HRX.out.lt)
    have hm0 : ((m7 : Int) == 0) = false := by have := HNE.out; rw [hm7.out, beq_eq_false_iff_ne]; omega
    have hrn : ¬ (N : Int) ≤ (r : Int) := by have := HLE.out; omega
    have q2 := HR7.out.cell 2
    simp only [List.getElem?_cons_zero, List.getElem?_cons_succ] at q2
    clear hb hm7 BA DA OA HRX HV
    go_wp2_with fail
    go_roundw
    case rel => exact ⟨k + 1, by omega, by go_num, B7, D7, O7⟩
    case measure => simp [intOf]; omega

theorem resT_HeapRows : Try.f7.resultTypes = #[4] := by kernel_rfl
set_option maxRecDepth 100000 in
theorem lifted_HeapRows (os : Os) (started : os.Started) (H : Type) (enc : TypeId × Value → H) :
    ReturnsInHanded {} Try.checked os 7 .any (Rows.heapRowsSpec.pre6 enc Try.prog Try.f7 Rows.heapRowsRow.domain false) (Rows.heapRowsSpec.post enc Try.prog Try.f7 false true false false) := by
  refine Lift.law_lift (C := Try.checked) (s := Rows.heapRowsSpec) (tb := 4) own laidOut started (by kernel_rfl) Try.func7
    (ChangeSpec.witness6 (enc := enc) (C := Try.checked) false ⟨#[], #[.slice none 0 0], []⟩ 8 (by kernel_rfl) (by kernel_rfl) (by kernel_rfl) (by kernel_rfl))
    rfl resT_HeapRows Try.underlying4 (by
      have hr : ∀ t ∈ ([44] : List TypeId), Try.prog.readableRec t = true ∧ t < Try.prog.types.size := by
        intro t ht
        simp only [List.mem_cons, List.not_mem_nil, or_false] at ht
        rcases ht with rfl <;> exact ⟨by kernel_rfl, of_decide_eq_true (by kernel_rfl)⟩
      intro t ht
      exact hr t (by
        have ht' : t ∈ Try.f7.params.toList := ht
        rw [Try.params7] at ht'
        exact ht')) ?_
  intro W base args ds p hval0 hA0 hsz0
  have hval : ∀ (j : Nat) t v, Try.f7.params[j]? = some t → args[j]? = some v → Value.okWide Try.prog W .any base t v := hval0
  have hA : DataW.TrodAll enc Try.prog W 0 (fun _ => true) true Try.f7.params.toList args.toList ds p := hA0
  have hsz : (DataW.weightsEach Try.prog Try.f7.params.toList ds).all (· ≤ reachBytes) = true := hsz0
  clear hval0 hA0 hsz0
  rw [Try.params7] at hA hval hsz
  obtain ⟨v0, vs0, d0, ds0, p0, q0, hargs, rfl, rfl, h0, r0⟩ := trodAll_cons hA
  obtain ⟨rfl, rfl, rfl⟩ := trodAll_nil r0
  obtain rfl : args = #[v0] := by cases args; simp_all
  obtain ⟨A0, n0, c0, os0, rfl, hl0, -, -, -, hm0, ho0⟩ := Pg.open_pages (hval 0 44 v0 rfl rfl) h0 (by rw [List.all_eq_true] at hsz ⊢; intro z hz; exact hsz z (DataW.weights_mem_each (j := 0) (t := 44) (d := d0) rfl rfl z hz))
  exact ⟨rfl, walk os0 A0 n0 c0 W hl0 ⟨hm0, fun x hx => (ho0 x hx).at_⟩⟩

theorem proved_HeapRows : Rows.HeapRowsSaid :=
  OpenClaim.holds_of_wide 7 Try.f7 rfl rfl rfl rfl rfl rfl rfl ⟨rfl, rfl, rfl, rfl, rfl⟩ rfl rfl rfl rfl rfl (by kernel_rfl) Try.func7 (by kernel_rfl)
    (of_decide_eq_true (by kernel_rfl)) (by unfold Func.isWrapper; first | (rw [if_pos (by decide +kernel)]; kernel_rfl) | (rw [if_neg (by decide +kernel)]; exact ⟨rfl, rfl⟩))
    (fun os started H enc _ => lifted_HeapRows os started H enc)
end Go.Proofs.Ytmgpghblnipbmaa.HeapRows
