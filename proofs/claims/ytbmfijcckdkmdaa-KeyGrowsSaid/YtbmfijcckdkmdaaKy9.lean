/-
  Keys: the seeds of a list that is parted.
-/
import Derived.Test.YtbmfijcckdkmdaaKy8
import Derived.Test.YtbmfijcckdkmdaaKy5
import Derived.Deep.CutRange
import Derived.Scope
import Derived.Test.YtbmfijcckdkmdaaWi2
import Derived.LoopTactic
import Derived.Deep.RegionHeld
import Derived.Deep.Cut
import Derived.WalkLawsBesides
namespace Go.Proofs.Ytbmfijcckdkmdaa.Ky
set_option maxRecDepth 100000
open Go.RowKit Go.Proofs.Ytbmfijcckdkmdaa.Wd Go.Proofs.Ytbmfijcckdkmdaa.Wi Go.Proofs.Ytbmfijcckdkmdaa.Lift


/-- what the rounds hold: the best pair's row, and where it stands -/
structure SI (w wr : World) (g n : Nat) (s : SS) : Prop where
  best : ∃ ah al mh ml : Nat, Wn s.a ah al ∧ Wn s.m mh ml ∧ Row wr g 77 [.int .u64 (ah : Int), .int .u64 (al : Int), .int .u64 (mh : Int), .int .u64 (ml : Int)]
  hb : Below w.heap.size w wr
  hg : w.heap.size ≤ g
  lr : s.l < s.r ∧ s.r < n
theorem SI.below {w wr wx : World} {g n : Nat} {s : SS} (h : SI w wr g n s) (hb : Below wr.heap.size wr wx) : SI w wx g n s := by
  obtain ⟨⟨ah, al, mh, ml, h1, h2, h3⟩, h4, h5, h6⟩ := h
  exact ⟨⟨ah, al, mh, ml, h1, h2, h3.below hb h3.lt⟩, h4.trans (hb.mono h4.size), h5, h6⟩
theorem SI.drew {w wr : World} {g n : Nat} {s : SS} (h : SI w wr g n s) : SI w wr.drew g n s := by
  obtain ⟨⟨ah, al, mh, ml, h1, h2, h3⟩, h4, h5, h6⟩ := h
  exact ⟨⟨ah, al, mh, ml, h1, h2, h3.drew⟩, h4.drew, h5, h6⟩
/-- a list of boxes -/
structure KsOk (ks : List Kb) : Prop where
  ok : ∀ k ∈ ks, k.ok = true
  num : ∀ k ∈ ks, KOk k.x0 k.x1 k.y0 k.y1

theorem apart_is {x u : Kb} {ah al mh ml : Nat} (kx : KOk x.x0 x.x1 x.y0 x.y1) (ku : KOk u.x0 u.x1 u.y0 u.y1) (hx : x.ok = true) (hu : u.ok = true) (h5 : Wn (apA x u) ah al) (h6 : Wn (apM x u) mh ml) (w : World) :
    Calls Try.prog 54 #[KV x.x0 x.x1 x.y0 x.y1, KV u.x0 u.x1 u.y0 u.y1] w fun e w' => e = .returned (.agg #[.int .u64 (ah : Int), .int .u64 (al : Int), .int .u64 (mh : Int), .int .u64 (ml : Int)]) ∧ Below w.heap.size w w' := by
  have km := union_ok kx ku
  obtain ⟨uh, ul, h1⟩ := wn_of _ (area_lt km)
  obtain ⟨xh, xl, h2⟩ := wn_of _ (area_lt kx)
  obtain ⟨yh, yl, h3⟩ := wn_of _ (area_lt ku)
  obtain ⟨dh, dl, h4⟩ := wn_of _ (Nat.lt_of_le_of_lt (Nat.sub_le (widM (minI x.x0 u.x0) (maxI x.x1 u.x1) * widM (minI x.y0 u.y0) (maxI x.y1 u.y1)) (widM x.x0 x.x1 * widM x.y0 x.y1)) (area_lt km))
  refine apart_any kx ku km (Lib.hid fun w => ?_) h1 h2 h3 h4 h5 h6 w
  have h := Union_any x.x0 x.x1 x.y0 x.y1 u.x0 u.x1 u.y0 u.y1 w
  unfold unionV at h
  rw [show boxB x.x0 x.x1 x.y0 x.y1 = true from hx, show boxB u.x0 u.x1 u.y0 u.y1 = true from hu, Bool.and_self, if_pos rfl] at h
  exact h
theorem idx2 (a b c d : Value) (w : World) : (Instr.index 77 (.agg #[a, b, c, d]) (.int .i64 0)).run Try.prog w = .ok (.agg #[a, b]) w ∧ (Instr.index 77 (.agg #[a, b, c, d]) (.int .i64 1)).run Try.prog w = .ok (.agg #[c, d]) w :=
  ⟨by kernel_rfl, by kernel_rfl⟩
theorem apA_lt {x u : Kb} (kx : KOk x.x0 x.x1 x.y0 x.y1) (ku : KOk u.x0 u.x1 u.y0 u.y1) : apA x u < 340282366920938463463374607431768211456 := Nat.lt_of_le_of_lt (Nat.sub_le _ _) (Nat.lt_of_le_of_lt (Nat.sub_le _ _) (area_lt (union_ok kx ku)))
theorem apM_lt {x u : Kb} (kx : KOk x.x0 x.x1 x.y0 x.y1) (ku : KOk u.x0 u.x1 u.y0 u.y1) : apM x u < 340282366920938463463374607431768211456 := margin_lt (union_ok kx ku)

set_option maxHeartbeats 8000000 in
theorem seeds_any (ks : List Kb) (A : Option Addr) (n c : Nat) (w : World) (hn : ks.length = n) (hn2 : 2 ≤ n) (hm : n ≤ 1000) (hM : Many Kb.cells 4 w w.heap.size A ks) (hK : KsOk ks) :
    Calls Try.prog 47 #[.slice A n c] w fun e w' => e = .returned (.tuple #[.int .i64 ((seedsS ks n).l : Int), .int .i64 ((seedsS ks n).r : Int)]) ∧ (seedsS ks n).l < (seedsS ks n).r ∧ (seedsS ks n).r < n ∧ Below w.heap.size w w' := by
  obtain ⟨b, o, rfl, hblt, hc⟩ := hM (by omega)
  have HN := Lib.hid hn
  have HC := Lib.hid hc
  have HK := Lib.hid hK
  clear hM hn hc hK
  go_enter Try.func47, Try.ntmps47
  go_upto_region 3 with fail
  have HI0 : Hid (SI w (w.alloc (.cells #[.int .u64 0, .int .u64 0, .int .u64 0, .int .u64 0] 77)) w.heap.size n (seedsS ks 0)) := Lib.hid ⟨⟨0, 0, 0, 0, ⟨by omega, by omega, rfl⟩, ⟨by omega, by omega, rfl⟩, Row.new w _ _⟩, (Below.refl _ _).alloc (Nat.le_refl _) _, Nat.le_refl _, by show 0 < 1 ∧ 1 < n; omega⟩
  generalize w.alloc (.cells #[.int .u64 0, .int .u64 0, .int .u64 0, .int .u64 0] 77) = w1 at HI0 ⊢
  obtain ⟨g, hg⟩ : ∃ g, g = w.heap.size := ⟨_, rfl⟩
  rw [← hg] at HI0 ⊢
  have hbg : b < g := by rw [hg]; exact hblt
  clear hg
  go_wp2_with fail
  go_loopw [4, 5, 15] (fun t4 t5 t15 wr => ∃ (i l r a m : Nat), i ≤ n ∧ t15 = .int .i64 (i : Int) ∧ t4 = .int .i64 (l : Int) ∧ t5 = .int .i64 (r : Int) ∧ Hid (seedsS ks i = ⟨l, r, a, m⟩) ∧ Hid (SI w wr g n ⟨l, r, a, m⟩)) (fun _ _ t _ => n - (intOf t).toNat)
  case atStart => exact ⟨0, 0, 1, 0, 0, by omega, rfl, rfl, rfl, rfl, HI0⟩
  case round =>
    obtain ⟨i, l, r, a, m, hi, rfl, rfl, rfl, HS, HI⟩ := hrel
    clear HI0
    by_cases hlt : i < n
    case neg =>
      have h1 : ¬ (i : Int) < (n : Int) := by omega
      obtain rfl : i = n := by omega
      have HE := Lib.hid HI.out.lr
      go_wp2
      refine bodyPost_ret (v := .tuple #[.int .i64 (l : Int), .int .i64 (r : Int)]) (by simp [results, Try.results47, go_sem]) rfl ?_
      exact ⟨by rw [HS.out], by rw [HS.out]; exact HI.out.lr.1, by rw [HS.out]; exact HI.out.lr.2, HI.out.hb⟩
    have h1 : (i : Int) < (n : Int) := by omega
    obtain ⟨i1, hi1⟩ : ∃ i1 : Nat, i1 = i + 1 := ⟨_, rfl⟩
    have wi : IntKind.i64.wrap ((i : Int) + 1) = (i1 : Int) := by rw [IntKind.wrap_i64]; omega
    have HI1 := Lib.hid hi1
    clear hi1
    go_wp2_with fail
    refine wp_scope_straight ?_
    go_wp2_with fail
    refine wp_label ?_
    go_wp2_with fail
    obtain ⟨s0, hs0⟩ : ∃ s0 : SS, s0 = ⟨l, r, a, m⟩ := ⟨_, rfl⟩
    have HJ0 : Hid (rowS ks s0 i 0 = ⟨l, r, a, m⟩) := Lib.hid (by rw [hs0]; rfl)
    have HS0 := Lib.hid (show seedsS ks i = s0 by rw [hs0]; exact HS.out)
    clear HS hs0
    go_loopw [4, 5, 8] (fun t4 t5 t8 wr => ∃ (k j l r a m : Nat), k ≤ n ∧ i1 ≤ k ∧ t8 = .int .i64 (k : Int) ∧ t4 = .int .i64 (l : Int) ∧ t5 = .int .i64 (r : Int) ∧ Hid (k = i1 + j) ∧ Hid (rowS ks s0 i j = ⟨l, r, a, m⟩) ∧ Hid (SI w wr g n ⟨l, r, a, m⟩)) (fun _ _ t _ => n - (intOf t).toNat)
    case atStart => exact ⟨i1, 0, l, r, a, m, by have := HI1.out; omega, by omega, rfl, rfl, rfl, rfl, HJ0, HI⟩
    case round =>
      clear HJ0 HI
      obtain ⟨k, j, l, r, a, m, hk, hk1, rfl, rfl, rfl, HKJ, HR, HI⟩ := hrel
      by_cases hkn : k < n
      case neg =>
        have h1 : ¬ (k : Int) < (n : Int) := by omega
        have wk : IntKind.i64.wrap ((i : Int) + 1) = (i1 : Int) := wi
        have HE : Hid (seedsS ks (i + 1) = ⟨l, r, a, m⟩) := Lib.hid (by
          have e1 := HI1.out
          have e2 := HKJ.out
          rw [seedsS_succ, HS0.out, HN.out, ← HR.out]
          congr 1
          omega)
        have e1 := HI1.out
        have hi2 : i1 ≤ n := by omega
        go_wp2_with fail
        clear e1
        go_roundw
        case rel => exact ⟨i + 1, l, r, a, m, by omega, by go_num, rfl, rfl, HE, HI⟩
        case measure => have e1 := HI1.out; simp [intOf]; omega
      have h1 : (k : Int) < (n : Int) := by omega
      obtain ⟨xi, hxi⟩ : ∃ x, ks[i]? = some x := ⟨_, List.getElem?_eq_getElem (by rw [HN.out]; exact hlt)⟩
      obtain ⟨xk, hxk⟩ : ∃ x, ks[k]? = some x := ⟨_, List.getElem?_eq_getElem (by rw [HN.out]; exact hkn)⟩
      obtain ⟨fah, fal, hfa⟩ := wn_of _ (apA_lt (HK.out.num _ (List.mem_of_getElem? hxi)) (HK.out.num _ (List.mem_of_getElem? hxk)))
      obtain ⟨fmh, fml, hfm⟩ := wn_of _ (apM_lt (HK.out.num _ (List.mem_of_getElem? hxi)) (HK.out.num _ (List.mem_of_getElem? hxk)))
      have HAP := Lib.hid (fun w => apart_is (HK.out.num _ (List.mem_of_getElem? hxi)) (HK.out.num _ (List.mem_of_getElem? hxk)) (HK.out.ok _ (List.mem_of_getElem? hxi)) (HK.out.ok _ (List.mem_of_getElem? hxk)) hfa hfm w)
      have HST0 : Hid (∀ fa fm, apA xi xk = fa → apM xi xk = fm → rowS ks s0 i (j + 1) = if better fa fm a m then ⟨i, k, fa, fm⟩ else ⟨l, r, a, m⟩) := Lib.hid (fun fa fm e1 e2 => by
        have e3 : ks.getD i .zero = xi := by rw [List.getD_eq_getElem?_getD, hxi]; rfl
        have e4 : ks.getD k .zero = xk := by rw [List.getD_eq_getElem?_getD, hxk]; rfl
        have e5 := HKJ.out
        have e6 := HI1.out
        rw [rowS_succ, HR.out, show i + 1 + j = k by omega]
        unfold stepS
        rw [e3, e4, e1, e2])
      have HXI : Hid (∀ w', Below w.heap.size w w' → w'.cell? ⟨b, o + i * 4, none⟩ = some (.int .i64 xi.x0) ∧ w'.cell? ⟨b, o + i * 4 + 1, none⟩ = some (.int .i64 xi.x1) ∧ w'.cell? ⟨b, o + i * 4 + 2, none⟩ = some (.int .i64 xi.y0) ∧ w'.cell? ⟨b, o + i * 4 + 3, none⟩ = some (.int .i64 xi.y1)) := Lib.hid (fun w' hb => by
        have hc := fun j v hj => (hb.cell (p := ⟨b, o + i * 4 + j, none⟩) hblt).trans (HC.out i _ hxi j v hj)
        exact ⟨hc 0 _ rfl, hc 1 _ rfl, hc 2 _ rfl, hc 3 _ rfl⟩)
      have HXK : Hid (∀ w', Below w.heap.size w w' → w'.cell? ⟨b, o + k * 4, none⟩ = some (.int .i64 xk.x0) ∧ w'.cell? ⟨b, o + k * 4 + 1, none⟩ = some (.int .i64 xk.x1) ∧ w'.cell? ⟨b, o + k * 4 + 2, none⟩ = some (.int .i64 xk.y0) ∧ w'.cell? ⟨b, o + k * 4 + 3, none⟩ = some (.int .i64 xk.y1)) := Lib.hid (fun w' hb => by
        have hc := fun j v hj => (hb.cell (p := ⟨b, o + k * 4 + j, none⟩) hblt).trans (HC.out k _ hxk j v hj)
        exact ⟨hc 0 _ rfl, hc 1 _ rfl, hc 2 _ rfl, hc 3 _ rfl⟩)
      obtain ⟨fa, hfae⟩ : ∃ fa, apA xi xk = fa := ⟨_, rfl⟩
      obtain ⟨fm, hfme⟩ : ∃ fm, apM xi xk = fm := ⟨_, rfl⟩
      have HST := Lib.hid (HST0.out _ _ hfae hfme)
      rw [hfae] at hfa
      rw [hfme] at hfm
      clear hfae hfme hxi hxk HST0
      obtain ⟨x0, x1, y0, y1⟩ := xi
      obtain ⟨u0, u1, v0, v1⟩ := xk
      dsimp only at HXI HXK HAP
      obtain ⟨⟨bh, bl, nh, nl, hw1, hw2, hrow⟩, hbel, hgg, hlr⟩ := HI.out
      have RB_ := Lib.hid hrow
      have B_ := Lib.hid hbel
      have HLR := Lib.hid hlr
      have HW1 := Lib.hid hw1
      have HW2 := Lib.hid hw2
      have HF1 := Lib.hid hfa
      have HF2 := Lib.hid hfm
      obtain ⟨s1, hs1⟩ : ∃ s, cmpM fa a = s := ⟨_, rfl⟩
      obtain ⟨s2, hs2⟩ : ∃ s, cmpM fm m = s := ⟨_, rfl⟩
      have HC1 := Lib.hid (Cmp_is hfa hw1 hs1)
      have HC2 := Lib.hid (Cmp_is hfm hw2 hs2)
      have HS1 := Lib.hid hs1
      have HS2 := Lib.hid hs2
      clear hrow hbel hlr hw1 hw2 hfa hfm hs1 hs2 HI
      go_upto_region 9 with fail
      go_cut [9] from 26 to 34 (fun t wx => NewR wr 77 [.int .u64 (fah : Int), .int .u64 (fal : Int), .int .u64 (fmh : Int), .int .u64 (fml : Int)] t wx)
      case first =>
        refine wp_region_held_drew (S := fun w' => Below wr.heap.size wr w') (by kernel_rfl) (Below.refl _ _).drew (fun hHeld => ?_)
        have S_1 := Lib.hid hHeld
        clear hHeld
        generalize wr.drew = D1 at S_1 ⊢
        refine wpAnyH_take (i := 0) (oi := ⟨some 26, _, _, _, _, _⟩) (v := ?vd1_1) rfl (by kernel_rfl) (by kernel_rfl) (by kernel_rfl) (fun _ _ _ h => h) (Or.inl ⟨by rfl, ?yd1_1⟩) S_1.out ?rd1_1
        case yd1_1 =>
          rintro w' hSw
          go_simp
          try with_reducible rfl
        try simp only [Act.put, List.setIfInBounds_toArray, List.set_cons_zero, List.set_cons_succ]
        refine wpAnyH_take (i := 1) (oi := ⟨some 27, _, _, _, _, _⟩) (v := ?vd1_2) rfl (by kernel_rfl) (by kernel_rfl) (by kernel_rfl) (fun _ _ _ h => h) (Or.inl ⟨by rfl, ?yd1_2⟩) S_1.out ?rd1_2
        case yd1_2 =>
          rintro w' hSw
          go_simp
          try with_reducible rfl
        try simp only [Act.put, List.setIfInBounds_toArray, List.set_cons_zero, List.set_cons_succ]
        refine wpAnyH_take (i := 2) (oi := ⟨some 28, _, _, _, _, _⟩) (v := ?vd1_3) rfl (by kernel_rfl) (by kernel_rfl) (by kernel_rfl) (fun _ _ _ h => h) (Or.inl ⟨by rfl, ?yd1_3⟩) S_1.out ?rd1_3
        case yd1_3 =>
          rintro w' hSw
          go_simp
          try with_reducible rfl
        try simp only [Act.put, List.setIfInBounds_toArray, List.set_cons_zero, List.set_cons_succ]
        refine wpAnyH_take (i := 3) (oi := ⟨some 29, _, _, _, _, _⟩) (v := ?vd1_4) rfl (by kernel_rfl) (by kernel_rfl) (by kernel_rfl) (fun _ _ _ h => h) (Or.inl ⟨by rfl, ?yd1_4⟩) S_1.out ?rd1_4
        case yd1_4 =>
          rintro w' hSw
          obtain ⟨q0, q1, q2, q3⟩ := HXI.out w' (B_.out.trans (hSw.mono B_.out.size))
          go_simp
          try with_reducible rfl
        try simp only [Act.put, List.setIfInBounds_toArray, List.set_cons_zero, List.set_cons_succ]
        refine wpAnyH_take (i := 4) (oi := ⟨some 30, _, _, _, _, _⟩) (v := ?vd1_5) rfl (by kernel_rfl) (by kernel_rfl) (by kernel_rfl) (fun _ _ _ h => h) (Or.inl ⟨by rfl, ?yd1_5⟩) S_1.out ?rd1_5
        case yd1_5 =>
          rintro w' hSw
          go_simp
          try with_reducible rfl
        try simp only [Act.put, List.setIfInBounds_toArray, List.set_cons_zero, List.set_cons_succ]
        refine wpAnyH_take (i := 5) (oi := ⟨some 31, _, _, _, _, _⟩) (v := ?vd1_6) rfl (by kernel_rfl) (by kernel_rfl) (by kernel_rfl) (fun _ _ _ h => h) (Or.inl ⟨by rfl, ?yd1_6⟩) S_1.out ?rd1_6
        case yd1_6 =>
          rintro w' hSw
          go_simp
          try with_reducible rfl
        try simp only [Act.put, List.setIfInBounds_toArray, List.set_cons_zero, List.set_cons_succ]
        refine wpAnyH_take (i := 6) (oi := ⟨some 32, _, _, _, _, _⟩) (v := ?vd1_7) rfl (by kernel_rfl) (by kernel_rfl) (by kernel_rfl) (fun _ _ _ h => h) (Or.inl ⟨by rfl, ?yd1_7⟩) S_1.out ?rd1_7
        case yd1_7 =>
          rintro w' hSw
          go_simp
          try with_reducible rfl
        try simp only [Act.put, List.setIfInBounds_toArray, List.set_cons_zero, List.set_cons_succ]
        refine wpAnyH_take (i := 7) (oi := ⟨some 33, _, _, _, _, _⟩) (v := ?vd1_8) rfl (by kernel_rfl) (by kernel_rfl) (by kernel_rfl) (fun _ _ _ h => h) (Or.inl ⟨by rfl, ?yd1_8⟩) S_1.out ?rd1_8
        case yd1_8 =>
          rintro w' hSw
          obtain ⟨q0, q1, q2, q3⟩ := HXK.out w' (B_.out.trans (hSw.mono B_.out.size))
          go_simp
          try with_reducible rfl
        try simp only [Act.put, List.setIfInBounds_toArray, List.set_cons_zero, List.set_cons_succ]
        refine wpAnyH_ready (rs := [8, 9]) (by kernel_rfl) (by simp) ?_
        refine (AllReadyH.cons rfl (fun K hK => ?_) (AllReadyH.cons rfl (fun K hK => ?_) AllReadyH.nil))
        · go_simp
          refine (HAP.out _).mono ?_
          rintro e Xd1_9 ⟨rfl, hb⟩
          have Sd1_9 := Lib.hid (S_1.out.trans (hb.mono S_1.out.size))
          clear hb S_1
          refine hK _ _ Sd1_9.out (fun _ => ?_)
          clear hK K
          try simp only [Act.put, List.setIfInBounds_toArray, List.set_cons_zero, List.set_cons_succ]
          refine wpAnyH_ready (rs := [9]) (by kernel_rfl) (by simp) ?_
          refine (AllReadyH.cons rfl (fun K hK => ?_) AllReadyH.nil)
          rw [if_pos (by rfl)]
          go_simp
          have hr := Lib.hid (row_last Xd1_9 Xd1_9.heap.size 77 [.int .u64 0, .int .u64 0, .int .u64 0, .int .u64 0] rfl)
          have Sd1_10 := Lib.hid (Sd1_9.out.alloc Sd1_9.out.size (.cells #[.int .u64 0, .int .u64 0, .int .u64 0, .int .u64 0] 77))
          obtain ⟨gRFd1_10, hgRFd1_10⟩ : ∃ g, g = Xd1_9.heap.size := ⟨_, rfl⟩
          have ngRFd1_10 : wr.heap.size ≤ gRFd1_10 := by rw [hgRFd1_10]; exact Sd1_9.out.size
          rw [← hgRFd1_10] at hr ⊢
          have RFnd1_10 := hr
          clear hr hgRFd1_10 Sd1_9 
          generalize Xd1_9.alloc (.cells #[.int .u64 0, .int .u64 0, .int .u64 0, .int .u64 0] 77) = Xd1_10 at Sd1_10 RFnd1_10 ⊢
          refine hK _ _ Sd1_10.out (fun _ => ?_)
          clear hK K
          try simp only [Act.put, List.setIfInBounds_toArray, List.set_cons_zero, List.set_cons_succ]
          refine wpAnyH_ready (rs := [10]) (by kernel_rfl) (by simp) ?_
          refine (AllReadyH.cons rfl (fun K hK => ?_) AllReadyH.nil)
          have f0 := RFnd1_10.out.frozen 0
          have k0 := RFnd1_10.out.cell 0
          have f1 := RFnd1_10.out.frozen 1
          have k1 := RFnd1_10.out.cell 1
          have f2 := RFnd1_10.out.frozen 2
          have k2 := RFnd1_10.out.cell 2
          have f3 := RFnd1_10.out.frozen 3
          have k3 := RFnd1_10.out.cell 3
          simp only [List.getElem?_cons_zero, List.getElem?_cons_succ] at k0 k1 k2 k3
          rw [if_pos (by rfl)]
          go_simp
          clear f0 k0 f1 k1 f2 k2 f3 k3
          have RFsd1_11 : Hid (Row ((((Xd1_10.setCell ⟨gRFd1_10, 0, none⟩ (.int .u64 (fah : Int))).setCell ⟨gRFd1_10, 1, none⟩ (.int .u64 (fal : Int))).setCell ⟨gRFd1_10, 2, none⟩ (.int .u64 (fmh : Int))).setCell ⟨gRFd1_10, 3, none⟩ (.int .u64 (fml : Int))) gRFd1_10 77 [.int .u64 (fah : Int), .int .u64 (fal : Int), .int .u64 (fmh : Int), .int .u64 (fml : Int)]) := Lib.hid ((((RFnd1_10.out.store 0 (.int .u64 (fah : Int))).store 1 (.int .u64 (fal : Int))).store 2 (.int .u64 (fmh : Int))).store 3 (.int .u64 (fml : Int)))
          have Sd1_11 := Lib.hid ((((Sd1_10.out.setCell (p := ⟨gRFd1_10, 0, none⟩) (by dsimp only; omega) (.int .u64 (fah : Int))).setCell (p := ⟨gRFd1_10, 1, none⟩) (by dsimp only; omega) (.int .u64 (fal : Int))).setCell (p := ⟨gRFd1_10, 2, none⟩) (by dsimp only; omega) (.int .u64 (fmh : Int))).setCell (p := ⟨gRFd1_10, 3, none⟩) (by dsimp only; omega) (.int .u64 (fml : Int)))
          clear Sd1_10 RFnd1_10
          generalize ((((Xd1_10.setCell ⟨gRFd1_10, 0, none⟩ (.int .u64 (fah : Int))).setCell ⟨gRFd1_10, 1, none⟩ (.int .u64 (fal : Int))).setCell ⟨gRFd1_10, 2, none⟩ (.int .u64 (fmh : Int))).setCell ⟨gRFd1_10, 3, none⟩ (.int .u64 (fml : Int))) = Xd1_11 at Sd1_11 RFsd1_11 ⊢
          refine hK _ _ Sd1_11.out (fun _ => ?_)
          clear hK K
          try simp only [Act.put, List.setIfInBounds_toArray, List.set_cons_zero, List.set_cons_succ]
          refine wpAnyH_done (by kernel_rfl) ?_ _
          go_wp2_with fail
          go_meet
          exact ⟨gRFd1_10, rfl, RFsd1_11.out, ngRFd1_10, Sd1_11.out⟩
        · rw [if_pos (by rfl)]
          go_simp
          have hr := Lib.hid (row_last D1 D1.heap.size 77 [.int .u64 0, .int .u64 0, .int .u64 0, .int .u64 0] rfl)
          have Sd1_12 := Lib.hid (S_1.out.alloc S_1.out.size (.cells #[.int .u64 0, .int .u64 0, .int .u64 0, .int .u64 0] 77))
          obtain ⟨gRFd1_12, hgRFd1_12⟩ : ∃ g, g = D1.heap.size := ⟨_, rfl⟩
          have ngRFd1_12 : wr.heap.size ≤ gRFd1_12 := by rw [hgRFd1_12]; exact S_1.out.size
          rw [← hgRFd1_12] at hr ⊢
          have RFnd1_12 := hr
          clear hr hgRFd1_12 S_1 
          generalize D1.alloc (.cells #[.int .u64 0, .int .u64 0, .int .u64 0, .int .u64 0] 77) = Xd1_12 at Sd1_12 RFnd1_12 ⊢
          refine hK _ _ Sd1_12.out (fun _ => ?_)
          clear hK K
          try simp only [Act.put, List.setIfInBounds_toArray, List.set_cons_zero, List.set_cons_succ]
          refine wpAnyH_ready (rs := [8]) (by kernel_rfl) (by simp) ?_
          refine (AllReadyH.cons rfl (fun K hK => ?_) AllReadyH.nil)
          go_simp
          refine (HAP.out _).mono ?_
          rintro e Xd1_13 ⟨rfl, hb⟩
          have Sd1_13 := Lib.hid (Sd1_12.out.trans (hb.mono Sd1_12.out.size))
          have RFcd1_13 := Lib.hid (RFnd1_12.out.below hb RFnd1_12.out.lt)
          clear hb Sd1_12 RFnd1_12
          refine hK _ _ Sd1_13.out (fun _ => ?_)
          clear hK K
          try simp only [Act.put, List.setIfInBounds_toArray, List.set_cons_zero, List.set_cons_succ]
          refine wpAnyH_ready (rs := [10]) (by kernel_rfl) (by simp) ?_
          refine (AllReadyH.cons rfl (fun K hK => ?_) AllReadyH.nil)
          have f0 := RFcd1_13.out.frozen 0
          have k0 := RFcd1_13.out.cell 0
          have f1 := RFcd1_13.out.frozen 1
          have k1 := RFcd1_13.out.cell 1
          have f2 := RFcd1_13.out.frozen 2
          have k2 := RFcd1_13.out.cell 2
          have f3 := RFcd1_13.out.frozen 3
          have k3 := RFcd1_13.out.cell 3
          simp only [List.getElem?_cons_zero, List.getElem?_cons_succ] at k0 k1 k2 k3
          rw [if_pos (by rfl)]
          go_simp
          clear f0 k0 f1 k1 f2 k2 f3 k3
          have RFsd1_14 : Hid (Row ((((Xd1_13.setCell ⟨gRFd1_12, 0, none⟩ (.int .u64 (fah : Int))).setCell ⟨gRFd1_12, 1, none⟩ (.int .u64 (fal : Int))).setCell ⟨gRFd1_12, 2, none⟩ (.int .u64 (fmh : Int))).setCell ⟨gRFd1_12, 3, none⟩ (.int .u64 (fml : Int))) gRFd1_12 77 [.int .u64 (fah : Int), .int .u64 (fal : Int), .int .u64 (fmh : Int), .int .u64 (fml : Int)]) := Lib.hid ((((RFcd1_13.out.store 0 (.int .u64 (fah : Int))).store 1 (.int .u64 (fal : Int))).store 2 (.int .u64 (fmh : Int))).store 3 (.int .u64 (fml : Int)))
          have Sd1_14 := Lib.hid ((((Sd1_13.out.setCell (p := ⟨gRFd1_12, 0, none⟩) (by dsimp only; omega) (.int .u64 (fah : Int))).setCell (p := ⟨gRFd1_12, 1, none⟩) (by dsimp only; omega) (.int .u64 (fal : Int))).setCell (p := ⟨gRFd1_12, 2, none⟩) (by dsimp only; omega) (.int .u64 (fmh : Int))).setCell (p := ⟨gRFd1_12, 3, none⟩) (by dsimp only; omega) (.int .u64 (fml : Int)))
          clear Sd1_13 RFcd1_13
          generalize ((((Xd1_13.setCell ⟨gRFd1_12, 0, none⟩ (.int .u64 (fah : Int))).setCell ⟨gRFd1_12, 1, none⟩ (.int .u64 (fal : Int))).setCell ⟨gRFd1_12, 2, none⟩ (.int .u64 (fmh : Int))).setCell ⟨gRFd1_12, 3, none⟩ (.int .u64 (fml : Int))) = Xd1_14 at Sd1_14 RFsd1_14 ⊢
          refine hK _ _ Sd1_14.out (fun _ => ?_)
          clear hK K
          try simp only [Act.put, List.setIfInBounds_toArray, List.set_cons_zero, List.set_cons_succ]
          refine wpAnyH_done (by kernel_rfl) ?_ _
          go_wp2_with fail
          go_meet
          exact ⟨gRFd1_12, rfl, RFsd1_14.out, ngRFd1_12, Sd1_14.out⟩
      case rest =>
        rename World => Wc1
        obtain ⟨gRF_1, rfl, hrow, hge, hb⟩ := hcut
        have RF_1 := Lib.hid hrow
        clear hrow
        have hd1_0 : g < gRF_1 := Nat.lt_of_lt_of_le RB_.out.lt hge
        have RB_3 := Lib.hid (RB_.out.below hb RB_.out.lt)
        have B_3 := Lib.hid (B_.out.trans (hb.mono B_.out.size))
        clear hb RB_ B_
        have c4_0 := RF_1.out.cell 0
        have c4_1 := RF_1.out.cell 1
        have c4_2 := RF_1.out.cell 2
        have c4_3 := RF_1.out.cell 3
        simp only [List.getElem?_cons_zero, List.getElem?_cons_succ] at c4_0 c4_1 c4_2 c4_3
        go_wp2_with fail
        clear c4_0 c4_1 c4_2 c4_3
        have HZ1 : Hid (1 ≤ 0 → fa = a) := Lib.hid (fun h => by omega)
        have HZ2 : Hid (2 ≤ 0 → fm = m) := Lib.hid (fun h => by omega)
        go_loopw [4, 5, 36] (fun t4 t5 t wz => ∃ z : Nat, z ≤ 2 ∧ t = .int .i64 (z : Int) ∧ t4 = .int .i64 (l : Int) ∧ t5 = .int .i64 (r : Int) ∧ Hid (Row wz gRF_1 77 [.int .u64 (fah : Int), .int .u64 (fal : Int), .int .u64 (fmh : Int), .int .u64 (fml : Int)]) ∧ Hid (Row wz g 77 [.int .u64 (bh : Int), .int .u64 (bl : Int), .int .u64 (nh : Int), .int .u64 (nl : Int)]) ∧ Hid (Below w.heap.size w wz) ∧ Hid (1 ≤ z → fa = a) ∧ Hid (2 ≤ z → fm = m)) (fun _ _ t _ => 2 - (intOf t).toNat)
        case atStart => exact ⟨0, by omega, rfl, rfl, rfl, RF_1, RB_3, B_3, HZ1, HZ2⟩
        case round =>
          clear HZ1 HZ2 RF_1 RB_3 B_3
          obtain ⟨z, hz, rfl, rfl, rfl, RF_, RB_, B_, HZ1, HZ2⟩ := hrel
          have hz3 : z = 0 ∨ z = 1 ∨ z = 2 := by omega
          rcases hz3 with rfl | rfl | rfl
          · have hix := (idx2 (.int .u64 (fah : Int)) (.int .u64 (fal : Int)) (.int .u64 (fmh : Int)) (.int .u64 (fml : Int)) wr).1
            go_upto_region 13 with fail
            clear hix
            have hltz0_1_0 : g < wr.heap.size := RB_.out.lt
            have hltz0_1_1 : gRF_1 < wr.heap.size := RF_.out.lt
            have RB_z0_1 := Lib.hid (RB_.out.alloc (.cells #[.int .u64 (fah : Int), .int .u64 (fal : Int)] 33))
            have RF_z0_1 := Lib.hid (RF_.out.alloc (.cells #[.int .u64 (fah : Int), .int .u64 (fal : Int)] 33))
            have RX_z0_1 := Lib.hid (row_last wr (wr.heap.size) 33 [.int .u64 (fah : Int), .int .u64 (fal : Int)] (by simp))
            have B_z0_1 := Lib.hid (B_.out.alloc B_.out.size (.cells #[.int .u64 (fah : Int), .int .u64 (fal : Int)] 33))
            clear RB_ RF_ B_
            generalize (wr.alloc (.cells #[.int .u64 (fah : Int), .int .u64 (fal : Int)] 33)) = Vz0_1 at RB_z0_1 RF_z0_1 RX_z0_1 B_z0_1 ⊢
            go_wp2_with fail
            refine wp_region_held_drew (S := fun w' => Row w' (wr.heap.size) 33 [.int .u64 (fah : Int), .int .u64 (fal : Int)] ∧ Row w' (g) 77 [.int .u64 (bh : Int), .int .u64 (bl : Int), .int .u64 (nh : Int), .int .u64 (nl : Int)]) (by kernel_rfl) ⟨RX_z0_1.out.drew, RB_z0_1.out.drew⟩ (fun hHeld => ?_)
            clear hHeld
            have RB_z0_2 := Lib.hid RB_z0_1.out.drew
            have RF_z0_2 := Lib.hid RF_z0_1.out.drew
            have RX_z0_2 := Lib.hid RX_z0_1.out.drew
            have B_z0_2 := Lib.hid B_z0_1.out.drew
            clear RB_z0_1 RF_z0_1 RX_z0_1 B_z0_1
            generalize Vz0_1.drew = Dz0_2 at RB_z0_2 RF_z0_2 RX_z0_2 B_z0_2 ⊢
            refine wpAnyH_take (i := 0) (oi := ⟨some 40, _, _, _, _, _⟩) (v := ?vz0_rz0_2_1) rfl (by kernel_rfl) (by kernel_rfl) (by kernel_rfl) (fun _ _ _ h => h) (Or.inl ⟨by rfl, ?yz0_rz0_2_1⟩) ⟨RX_z0_2.out, RB_z0_2.out⟩ ?rz0_rz0_2_1
            case yz0_rz0_2_1 =>
              rintro w' hSw
              have k0 := (show Row w' _ _ _ from hSw.1).cell 0
              have k1 := (show Row w' _ _ _ from hSw.1).cell 1
              simp only [List.getElem?_cons_zero, List.getElem?_cons_succ] at k0 k1
              go_simp
              try with_reducible rfl
            try simp only [Act.put, List.setIfInBounds_toArray, List.set_cons_zero, List.set_cons_succ]
            refine wpAnyH_take (i := 1) (oi := ⟨some 41, _, _, _, _, _⟩) (v := ?vz0_rz0_2_2) rfl (by kernel_rfl) (by kernel_rfl) (by kernel_rfl) (fun _ _ _ h => h) (Or.inl ⟨by rfl, ?yz0_rz0_2_2⟩) ⟨RX_z0_2.out, RB_z0_2.out⟩ ?rz0_rz0_2_2
            case yz0_rz0_2_2 =>
              rintro w' hSw
              go_simp
              try with_reducible rfl
            try simp only [Act.put, List.setIfInBounds_toArray, List.set_cons_zero, List.set_cons_succ]
            refine wpAnyH_take (i := 2) (oi := ⟨some 42, _, _, _, _, _⟩) (v := ?vz0_rz0_2_3) rfl (by kernel_rfl) (by kernel_rfl) (by kernel_rfl) (fun _ _ _ h => h) (Or.inl ⟨by rfl, ?yz0_rz0_2_3⟩) ⟨RX_z0_2.out, RB_z0_2.out⟩ ?rz0_rz0_2_3
            case yz0_rz0_2_3 =>
              rintro w' hSw
              go_simp
              try with_reducible rfl
            try simp only [Act.put, List.setIfInBounds_toArray, List.set_cons_zero, List.set_cons_succ]
            refine wpAnyH_take (i := 3) (oi := ⟨some 43, _, _, _, _, _⟩) (v := ?vz0_rz0_2_4) rfl (by kernel_rfl) (by kernel_rfl) (by kernel_rfl) (fun _ _ _ h => h) (Or.inl ⟨by rfl, ?yz0_rz0_2_4⟩) ⟨RX_z0_2.out, RB_z0_2.out⟩ ?rz0_rz0_2_4
            case yz0_rz0_2_4 =>
              rintro w' hSw
              have k0 := (show Row w' _ _ _ from hSw.2).cell 0
              have k1 := (show Row w' _ _ _ from hSw.2).cell 1
              have k2 := (show Row w' _ _ _ from hSw.2).cell 2
              have k3 := (show Row w' _ _ _ from hSw.2).cell 3
              simp only [List.getElem?_cons_zero, List.getElem?_cons_succ] at k0 k1 k2 k3
              go_simp
              try with_reducible rfl
            try simp only [Act.put, List.setIfInBounds_toArray, List.set_cons_zero, List.set_cons_succ]
            refine wpAnyH_ready (rs := [4]) (by kernel_rfl) (by simp) ?_
            refine (AllReadyH.cons rfl (fun K hK => ?_) AllReadyH.nil)
            go_simp
            refine (HC1.out _).mono ?_
            rintro e Xz0_rz0_2_5 ⟨rfl, hb⟩
            have RB_z0_rz0_2_5_3 := Lib.hid (RB_z0_2.out.below hb RB_z0_2.out.lt)
            have RF_z0_rz0_2_5_3 := Lib.hid (RF_z0_2.out.below hb RF_z0_2.out.lt)
            have RX_z0_rz0_2_5_3 := Lib.hid (RX_z0_2.out.below hb RX_z0_2.out.lt)
            have B_z0_rz0_2_5_3 := Lib.hid (B_z0_2.out.trans (hb.mono B_z0_2.out.size))
            clear hb RB_z0_2 RF_z0_2 RX_z0_2 B_z0_2
            refine hK _ _ ⟨RX_z0_rz0_2_5_3.out, RB_z0_rz0_2_5_3.out⟩ (fun _ => ?_)
            clear hK K
            try simp only [Act.put, List.setIfInBounds_toArray, List.set_cons_zero, List.set_cons_succ]
            refine wpAnyH_done (by kernel_rfl) ?_ _
            have h3 := cmp_three fa a
            rw [HS1.out] at h3
            rcases h3 with rfl | rfl | rfl
            · have HBT : Hid (better fa fm a m = true) := Lib.hid (by have e1 := cmp_one HS1.out; simp [better]; omega)
              go_wp2_with fail
              refine wp_region_held_drew (S := fun w' => Row w' (gRF_1) 77 [.int .u64 (fah : Int), .int .u64 (fal : Int), .int .u64 (fmh : Int), .int .u64 (fml : Int)]) (by kernel_rfl) RF_z0_rz0_2_5_3.out.drew (fun hHeld => ?_)
              clear hHeld
              have RB_w0_4 := Lib.hid RB_z0_rz0_2_5_3.out.drew
              have RF_w0_4 := Lib.hid RF_z0_rz0_2_5_3.out.drew
              have RX_w0_4 := Lib.hid RX_z0_rz0_2_5_3.out.drew
              have B_w0_4 := Lib.hid B_z0_rz0_2_5_3.out.drew
              clear RB_z0_rz0_2_5_3 RF_z0_rz0_2_5_3 RX_z0_rz0_2_5_3 B_z0_rz0_2_5_3
              generalize Xz0_rz0_2_5.drew = Dw0_4 at RB_w0_4 RF_w0_4 RX_w0_4 B_w0_4 ⊢
              refine wpAnyH_take (i := 0) (oi := ⟨some 47, _, _, _, _, _⟩) (v := ?vw0_rw0_4_1) rfl (by kernel_rfl) (by kernel_rfl) (by kernel_rfl) (fun _ _ _ h => h) (Or.inl ⟨by rfl, ?yw0_rw0_4_1⟩) RF_w0_4.out ?rw0_rw0_4_1
              case yw0_rw0_4_1 =>
                rintro w' hSw
                go_simp
                try with_reducible rfl
              try simp only [Act.put, List.setIfInBounds_toArray, List.set_cons_zero, List.set_cons_succ]
              refine wpAnyH_take (i := 1) (oi := ⟨some 48, _, _, _, _, _⟩) (v := ?vw0_rw0_4_2) rfl (by kernel_rfl) (by kernel_rfl) (by kernel_rfl) (fun _ _ _ h => h) (Or.inl ⟨by rfl, ?yw0_rw0_4_2⟩) RF_w0_4.out ?rw0_rw0_4_2
              case yw0_rw0_4_2 =>
                rintro w' hSw
                go_simp
                try with_reducible rfl
              try simp only [Act.put, List.setIfInBounds_toArray, List.set_cons_zero, List.set_cons_succ]
              refine wpAnyH_take (i := 2) (oi := ⟨some 49, _, _, _, _, _⟩) (v := ?vw0_rw0_4_3) rfl (by kernel_rfl) (by kernel_rfl) (by kernel_rfl) (fun _ _ _ h => h) (Or.inl ⟨by rfl, ?yw0_rw0_4_3⟩) RF_w0_4.out ?rw0_rw0_4_3
              case yw0_rw0_4_3 =>
                rintro w' hSw
                have k0 := (show Row w' _ _ _ from hSw).cell 0
                have k1 := (show Row w' _ _ _ from hSw).cell 1
                have k2 := (show Row w' _ _ _ from hSw).cell 2
                have k3 := (show Row w' _ _ _ from hSw).cell 3
                simp only [List.getElem?_cons_zero, List.getElem?_cons_succ] at k0 k1 k2 k3
                go_simp
                try with_reducible rfl
              try simp only [Act.put, List.setIfInBounds_toArray, List.set_cons_zero, List.set_cons_succ]
              refine wpAnyH_take (i := 3) (oi := ⟨some 4, _, _, _, _, _⟩) (v := ?vw0_rw0_4_4) rfl (by kernel_rfl) (by kernel_rfl) (by kernel_rfl) (fun _ _ _ h => h) (Or.inl ⟨by rfl, ?yw0_rw0_4_4⟩) RF_w0_4.out ?rw0_rw0_4_4
              case yw0_rw0_4_4 =>
                rintro w' hSw
                go_simp
                try with_reducible rfl
              try simp only [Act.put, List.setIfInBounds_toArray, List.set_cons_zero, List.set_cons_succ]
              refine wpAnyH_take (i := 4) (oi := ⟨some 5, _, _, _, _, _⟩) (v := ?vw0_rw0_4_5) rfl (by kernel_rfl) (by kernel_rfl) (by kernel_rfl) (fun _ _ _ h => h) (Or.inl ⟨by rfl, ?yw0_rw0_4_5⟩) RF_w0_4.out ?rw0_rw0_4_5
              case yw0_rw0_4_5 =>
                rintro w' hSw
                go_simp
                try with_reducible rfl
              try simp only [Act.put, List.setIfInBounds_toArray, List.set_cons_zero, List.set_cons_succ]
              refine wpAnyH_ready (rs := [5]) (by kernel_rfl) (by simp) ?_
              refine (AllReadyH.cons rfl (fun K hK => ?_) AllReadyH.nil)
              have f0 := RB_w0_4.out.frozen 0
              have k0 := RB_w0_4.out.cell 0
              have f1 := RB_w0_4.out.frozen 1
              have k1 := RB_w0_4.out.cell 1
              have f2 := RB_w0_4.out.frozen 2
              have k2 := RB_w0_4.out.cell 2
              have f3 := RB_w0_4.out.frozen 3
              have k3 := RB_w0_4.out.cell 3
              simp only [List.getElem?_cons_zero, List.getElem?_cons_succ] at k0 k1 k2 k3
              rw [if_pos (by rfl)]
              go_simp
              clear f0 k0 f1 k1 f2 k2 f3 k3
              have RB_sw0_rw0_4_6 : Hid (Row ((((Dw0_4.setCell ⟨g, 0, none⟩ (.int .u64 (fah : Int))).setCell ⟨g, 1, none⟩ (.int .u64 (fal : Int))).setCell ⟨g, 2, none⟩ (.int .u64 (fmh : Int))).setCell ⟨g, 3, none⟩ (.int .u64 (fml : Int))) (g) 77 [.int .u64 (fah : Int), .int .u64 (fal : Int), .int .u64 (fmh : Int), .int .u64 (fml : Int)]) := Lib.hid ((((RB_w0_4.out.store 0 (.int .u64 (fah : Int))).store 1 (.int .u64 (fal : Int))).store 2 (.int .u64 (fmh : Int))).store 3 (.int .u64 (fml : Int)))
              have RF_sw0_rw0_4_6 := Lib.hid ((((RF_w0_4.out.far (p := ⟨g, 0, none⟩) (by dsimp only; omega) (.int .u64 (fah : Int))).far (p := ⟨g, 1, none⟩) (by dsimp only; omega) (.int .u64 (fal : Int))).far (p := ⟨g, 2, none⟩) (by dsimp only; omega) (.int .u64 (fmh : Int))).far (p := ⟨g, 3, none⟩) (by dsimp only; omega) (.int .u64 (fml : Int)))
              have RX_sw0_rw0_4_6 := Lib.hid ((((RX_w0_4.out.far (p := ⟨g, 0, none⟩) (by dsimp only; omega) (.int .u64 (fah : Int))).far (p := ⟨g, 1, none⟩) (by dsimp only; omega) (.int .u64 (fal : Int))).far (p := ⟨g, 2, none⟩) (by dsimp only; omega) (.int .u64 (fmh : Int))).far (p := ⟨g, 3, none⟩) (by dsimp only; omega) (.int .u64 (fml : Int)))
              have B_sw0_rw0_4_6 := Lib.hid ((((B_w0_4.out.setCell (p := ⟨g, 0, none⟩) (by dsimp only; omega) (.int .u64 (fah : Int))).setCell (p := ⟨g, 1, none⟩) (by dsimp only; omega) (.int .u64 (fal : Int))).setCell (p := ⟨g, 2, none⟩) (by dsimp only; omega) (.int .u64 (fmh : Int))).setCell (p := ⟨g, 3, none⟩) (by dsimp only; omega) (.int .u64 (fml : Int)))
              clear RB_w0_4 RF_w0_4 RX_w0_4 B_w0_4
              generalize ((((Dw0_4.setCell ⟨g, 0, none⟩ (.int .u64 (fah : Int))).setCell ⟨g, 1, none⟩ (.int .u64 (fal : Int))).setCell ⟨g, 2, none⟩ (.int .u64 (fmh : Int))).setCell ⟨g, 3, none⟩ (.int .u64 (fml : Int))) = Xw0_rw0_4_6 at RB_sw0_rw0_4_6 RF_sw0_rw0_4_6 RX_sw0_rw0_4_6 B_sw0_rw0_4_6 ⊢
              refine hK _ _ RF_sw0_rw0_4_6.out (fun _ => ?_)
              clear hK K
              try simp only [Act.put, List.setIfInBounds_toArray, List.set_cons_zero, List.set_cons_succ]
              refine wpAnyH_done (by kernel_rfl) ?_ _
              have HE : Hid (rowS ks s0 i (j + 1) = ⟨i, k, fa, fm⟩) := Lib.hid (by rw [HST.out, HBT.out]; rfl)
              have HI : Hid (SI w Xw0_rw0_4_6 g n ⟨i, k, fa, fm⟩) := Lib.hid ⟨⟨fah, fal, fmh, fml, HF1.out, HF2.out, RB_sw0_rw0_4_6.out⟩, B_sw0_rw0_4_6.out, hgg, by have := HI1.out; show i < k ∧ k < n; omega⟩
              have HKK : Hid (k + 1 = i1 + (j + 1)) := Lib.hid (by have := HKJ.out; omega)
              go_wp2_with fail
              go_roundw
              case rel => exact ⟨k + 1, j + 1, i, k, fa, fm, by omega, by omega, by go_num, rfl, rfl, HKK, HE, HI⟩
              case measure => simp [intOf]; omega
            · have HBT : Hid (better fa fm a m = false) := Lib.hid (by have e1 := cmp_less HS1.out; simp [better]; omega)
              have HE : Hid (rowS ks s0 i (j + 1) = ⟨l, r, a, m⟩) := Lib.hid (by rw [HST.out, HBT.out]; rfl)
              have HI : Hid (SI w Xz0_rz0_2_5 g n ⟨l, r, a, m⟩) := Lib.hid ⟨⟨bh, bl, nh, nl, HW1.out, HW2.out, RB_z0_rz0_2_5_3.out⟩, B_z0_rz0_2_5_3.out, hgg, HLR.out⟩
              have HKK : Hid (k + 1 = i1 + (j + 1)) := Lib.hid (by have := HKJ.out; omega)
              go_wp2_with fail
              go_roundw
              case rel => exact ⟨k + 1, j + 1, l, r, a, m, by omega, by omega, by go_num, rfl, rfl, HKK, HE, HI⟩
              case measure => simp [intOf]; omega
            · have HZ3 : Hid (1 ≤ 1 → fa = a) := Lib.hid (fun _ => cmp_same HS1.out)
              have HZ4 : Hid (2 ≤ 1 → fm = m) := Lib.hid (fun h => by omega)
              go_wp2_with fail
              go_roundw
              case rel => exact ⟨1, by omega, by go_num, rfl, rfl, RF_z0_rz0_2_5_3, RB_z0_rz0_2_5_3, B_z0_rz0_2_5_3, HZ3, HZ4⟩
              case measure => simp [intOf]
          · have hix := (idx2 (.int .u64 (fah : Int)) (.int .u64 (fal : Int)) (.int .u64 (fmh : Int)) (.int .u64 (fml : Int)) wr).2
            go_upto_region 13 with fail
            clear hix
            have hltz1_1_0 : g < wr.heap.size := RB_.out.lt
            have hltz1_1_1 : gRF_1 < wr.heap.size := RF_.out.lt
            have RB_z1_1 := Lib.hid (RB_.out.alloc (.cells #[.int .u64 (fmh : Int), .int .u64 (fml : Int)] 33))
            have RF_z1_1 := Lib.hid (RF_.out.alloc (.cells #[.int .u64 (fmh : Int), .int .u64 (fml : Int)] 33))
            have RX_z1_1 := Lib.hid (row_last wr (wr.heap.size) 33 [.int .u64 (fmh : Int), .int .u64 (fml : Int)] (by simp))
            have B_z1_1 := Lib.hid (B_.out.alloc B_.out.size (.cells #[.int .u64 (fmh : Int), .int .u64 (fml : Int)] 33))
            clear RB_ RF_ B_
            generalize (wr.alloc (.cells #[.int .u64 (fmh : Int), .int .u64 (fml : Int)] 33)) = Vz1_1 at RB_z1_1 RF_z1_1 RX_z1_1 B_z1_1 ⊢
            go_wp2_with fail
            refine wp_region_held_drew (S := fun w' => Row w' (wr.heap.size) 33 [.int .u64 (fmh : Int), .int .u64 (fml : Int)] ∧ Row w' (g) 77 [.int .u64 (bh : Int), .int .u64 (bl : Int), .int .u64 (nh : Int), .int .u64 (nl : Int)]) (by kernel_rfl) ⟨RX_z1_1.out.drew, RB_z1_1.out.drew⟩ (fun hHeld => ?_)
            clear hHeld
            have RB_z1_2 := Lib.hid RB_z1_1.out.drew
            have RF_z1_2 := Lib.hid RF_z1_1.out.drew
            have RX_z1_2 := Lib.hid RX_z1_1.out.drew
            have B_z1_2 := Lib.hid B_z1_1.out.drew
            clear RB_z1_1 RF_z1_1 RX_z1_1 B_z1_1
            generalize Vz1_1.drew = Dz1_2 at RB_z1_2 RF_z1_2 RX_z1_2 B_z1_2 ⊢
            refine wpAnyH_take (i := 0) (oi := ⟨some 40, _, _, _, _, _⟩) (v := ?vz1_rz1_2_1) rfl (by kernel_rfl) (by kernel_rfl) (by kernel_rfl) (fun _ _ _ h => h) (Or.inl ⟨by rfl, ?yz1_rz1_2_1⟩) ⟨RX_z1_2.out, RB_z1_2.out⟩ ?rz1_rz1_2_1
            case yz1_rz1_2_1 =>
              rintro w' hSw
              have k0 := (show Row w' _ _ _ from hSw.1).cell 0
              have k1 := (show Row w' _ _ _ from hSw.1).cell 1
              simp only [List.getElem?_cons_zero, List.getElem?_cons_succ] at k0 k1
              go_simp
              try with_reducible rfl
            try simp only [Act.put, List.setIfInBounds_toArray, List.set_cons_zero, List.set_cons_succ]
            refine wpAnyH_take (i := 1) (oi := ⟨some 41, _, _, _, _, _⟩) (v := ?vz1_rz1_2_2) rfl (by kernel_rfl) (by kernel_rfl) (by kernel_rfl) (fun _ _ _ h => h) (Or.inl ⟨by rfl, ?yz1_rz1_2_2⟩) ⟨RX_z1_2.out, RB_z1_2.out⟩ ?rz1_rz1_2_2
            case yz1_rz1_2_2 =>
              rintro w' hSw
              go_simp
              try with_reducible rfl
            try simp only [Act.put, List.setIfInBounds_toArray, List.set_cons_zero, List.set_cons_succ]
            refine wpAnyH_take (i := 2) (oi := ⟨some 42, _, _, _, _, _⟩) (v := ?vz1_rz1_2_3) rfl (by kernel_rfl) (by kernel_rfl) (by kernel_rfl) (fun _ _ _ h => h) (Or.inl ⟨by rfl, ?yz1_rz1_2_3⟩) ⟨RX_z1_2.out, RB_z1_2.out⟩ ?rz1_rz1_2_3
            case yz1_rz1_2_3 =>
              rintro w' hSw
              go_simp
              try with_reducible rfl
            try simp only [Act.put, List.setIfInBounds_toArray, List.set_cons_zero, List.set_cons_succ]
            refine wpAnyH_take (i := 3) (oi := ⟨some 43, _, _, _, _, _⟩) (v := ?vz1_rz1_2_4) rfl (by kernel_rfl) (by kernel_rfl) (by kernel_rfl) (fun _ _ _ h => h) (Or.inl ⟨by rfl, ?yz1_rz1_2_4⟩) ⟨RX_z1_2.out, RB_z1_2.out⟩ ?rz1_rz1_2_4
            case yz1_rz1_2_4 =>
              rintro w' hSw
              have k0 := (show Row w' _ _ _ from hSw.2).cell 0
              have k1 := (show Row w' _ _ _ from hSw.2).cell 1
              have k2 := (show Row w' _ _ _ from hSw.2).cell 2
              have k3 := (show Row w' _ _ _ from hSw.2).cell 3
              simp only [List.getElem?_cons_zero, List.getElem?_cons_succ] at k0 k1 k2 k3
              go_simp
              try with_reducible rfl
            try simp only [Act.put, List.setIfInBounds_toArray, List.set_cons_zero, List.set_cons_succ]
            refine wpAnyH_ready (rs := [4]) (by kernel_rfl) (by simp) ?_
            refine (AllReadyH.cons rfl (fun K hK => ?_) AllReadyH.nil)
            go_simp
            refine (HC2.out _).mono ?_
            rintro e Xz1_rz1_2_5 ⟨rfl, hb⟩
            have RB_z1_rz1_2_5_3 := Lib.hid (RB_z1_2.out.below hb RB_z1_2.out.lt)
            have RF_z1_rz1_2_5_3 := Lib.hid (RF_z1_2.out.below hb RF_z1_2.out.lt)
            have RX_z1_rz1_2_5_3 := Lib.hid (RX_z1_2.out.below hb RX_z1_2.out.lt)
            have B_z1_rz1_2_5_3 := Lib.hid (B_z1_2.out.trans (hb.mono B_z1_2.out.size))
            clear hb RB_z1_2 RF_z1_2 RX_z1_2 B_z1_2
            refine hK _ _ ⟨RX_z1_rz1_2_5_3.out, RB_z1_rz1_2_5_3.out⟩ (fun _ => ?_)
            clear hK K
            try simp only [Act.put, List.setIfInBounds_toArray, List.set_cons_zero, List.set_cons_succ]
            refine wpAnyH_done (by kernel_rfl) ?_ _
            have h3 := cmp_three fm m
            rw [HS2.out] at h3
            rcases h3 with rfl | rfl | rfl
            · have HBT : Hid (better fa fm a m = true) := Lib.hid (by have e0 := HZ1.out (by omega); have e1 := cmp_one HS2.out; simp [better]; omega)
              go_wp2_with fail
              refine wp_region_held_drew (S := fun w' => Row w' (gRF_1) 77 [.int .u64 (fah : Int), .int .u64 (fal : Int), .int .u64 (fmh : Int), .int .u64 (fml : Int)]) (by kernel_rfl) RF_z1_rz1_2_5_3.out.drew (fun hHeld => ?_)
              clear hHeld
              have RB_w1_4 := Lib.hid RB_z1_rz1_2_5_3.out.drew
              have RF_w1_4 := Lib.hid RF_z1_rz1_2_5_3.out.drew
              have RX_w1_4 := Lib.hid RX_z1_rz1_2_5_3.out.drew
              have B_w1_4 := Lib.hid B_z1_rz1_2_5_3.out.drew
              clear RB_z1_rz1_2_5_3 RF_z1_rz1_2_5_3 RX_z1_rz1_2_5_3 B_z1_rz1_2_5_3
              generalize Xz1_rz1_2_5.drew = Dw1_4 at RB_w1_4 RF_w1_4 RX_w1_4 B_w1_4 ⊢
              refine wpAnyH_take (i := 0) (oi := ⟨some 47, _, _, _, _, _⟩) (v := ?vw1_rw1_4_1) rfl (by kernel_rfl) (by kernel_rfl) (by kernel_rfl) (fun _ _ _ h => h) (Or.inl ⟨by rfl, ?yw1_rw1_4_1⟩) RF_w1_4.out ?rw1_rw1_4_1
              case yw1_rw1_4_1 =>
                rintro w' hSw
                go_simp
                try with_reducible rfl
              try simp only [Act.put, List.setIfInBounds_toArray, List.set_cons_zero, List.set_cons_succ]
              refine wpAnyH_take (i := 1) (oi := ⟨some 48, _, _, _, _, _⟩) (v := ?vw1_rw1_4_2) rfl (by kernel_rfl) (by kernel_rfl) (by kernel_rfl) (fun _ _ _ h => h) (Or.inl ⟨by rfl, ?yw1_rw1_4_2⟩) RF_w1_4.out ?rw1_rw1_4_2
              case yw1_rw1_4_2 =>
                rintro w' hSw
                go_simp
                try with_reducible rfl
              try simp only [Act.put, List.setIfInBounds_toArray, List.set_cons_zero, List.set_cons_succ]
              refine wpAnyH_take (i := 2) (oi := ⟨some 49, _, _, _, _, _⟩) (v := ?vw1_rw1_4_3) rfl (by kernel_rfl) (by kernel_rfl) (by kernel_rfl) (fun _ _ _ h => h) (Or.inl ⟨by rfl, ?yw1_rw1_4_3⟩) RF_w1_4.out ?rw1_rw1_4_3
              case yw1_rw1_4_3 =>
                rintro w' hSw
                have k0 := (show Row w' _ _ _ from hSw).cell 0
                have k1 := (show Row w' _ _ _ from hSw).cell 1
                have k2 := (show Row w' _ _ _ from hSw).cell 2
                have k3 := (show Row w' _ _ _ from hSw).cell 3
                simp only [List.getElem?_cons_zero, List.getElem?_cons_succ] at k0 k1 k2 k3
                go_simp
                try with_reducible rfl
              try simp only [Act.put, List.setIfInBounds_toArray, List.set_cons_zero, List.set_cons_succ]
              refine wpAnyH_take (i := 3) (oi := ⟨some 4, _, _, _, _, _⟩) (v := ?vw1_rw1_4_4) rfl (by kernel_rfl) (by kernel_rfl) (by kernel_rfl) (fun _ _ _ h => h) (Or.inl ⟨by rfl, ?yw1_rw1_4_4⟩) RF_w1_4.out ?rw1_rw1_4_4
              case yw1_rw1_4_4 =>
                rintro w' hSw
                go_simp
                try with_reducible rfl
              try simp only [Act.put, List.setIfInBounds_toArray, List.set_cons_zero, List.set_cons_succ]
              refine wpAnyH_take (i := 4) (oi := ⟨some 5, _, _, _, _, _⟩) (v := ?vw1_rw1_4_5) rfl (by kernel_rfl) (by kernel_rfl) (by kernel_rfl) (fun _ _ _ h => h) (Or.inl ⟨by rfl, ?yw1_rw1_4_5⟩) RF_w1_4.out ?rw1_rw1_4_5
              case yw1_rw1_4_5 =>
                rintro w' hSw
                go_simp
                try with_reducible rfl
              try simp only [Act.put, List.setIfInBounds_toArray, List.set_cons_zero, List.set_cons_succ]
              refine wpAnyH_ready (rs := [5]) (by kernel_rfl) (by simp) ?_
              refine (AllReadyH.cons rfl (fun K hK => ?_) AllReadyH.nil)
              have f0 := RB_w1_4.out.frozen 0
              have k0 := RB_w1_4.out.cell 0
              have f1 := RB_w1_4.out.frozen 1
              have k1 := RB_w1_4.out.cell 1
              have f2 := RB_w1_4.out.frozen 2
              have k2 := RB_w1_4.out.cell 2
              have f3 := RB_w1_4.out.frozen 3
              have k3 := RB_w1_4.out.cell 3
              simp only [List.getElem?_cons_zero, List.getElem?_cons_succ] at k0 k1 k2 k3
              rw [if_pos (by rfl)]
              go_simp
              clear f0 k0 f1 k1 f2 k2 f3 k3
              have RB_sw1_rw1_4_6 : Hid (Row ((((Dw1_4.setCell ⟨g, 0, none⟩ (.int .u64 (fah : Int))).setCell ⟨g, 1, none⟩ (.int .u64 (fal : Int))).setCell ⟨g, 2, none⟩ (.int .u64 (fmh : Int))).setCell ⟨g, 3, none⟩ (.int .u64 (fml : Int))) (g) 77 [.int .u64 (fah : Int), .int .u64 (fal : Int), .int .u64 (fmh : Int), .int .u64 (fml : Int)]) := Lib.hid ((((RB_w1_4.out.store 0 (.int .u64 (fah : Int))).store 1 (.int .u64 (fal : Int))).store 2 (.int .u64 (fmh : Int))).store 3 (.int .u64 (fml : Int)))
              have RF_sw1_rw1_4_6 := Lib.hid ((((RF_w1_4.out.far (p := ⟨g, 0, none⟩) (by dsimp only; omega) (.int .u64 (fah : Int))).far (p := ⟨g, 1, none⟩) (by dsimp only; omega) (.int .u64 (fal : Int))).far (p := ⟨g, 2, none⟩) (by dsimp only; omega) (.int .u64 (fmh : Int))).far (p := ⟨g, 3, none⟩) (by dsimp only; omega) (.int .u64 (fml : Int)))
              have RX_sw1_rw1_4_6 := Lib.hid ((((RX_w1_4.out.far (p := ⟨g, 0, none⟩) (by dsimp only; omega) (.int .u64 (fah : Int))).far (p := ⟨g, 1, none⟩) (by dsimp only; omega) (.int .u64 (fal : Int))).far (p := ⟨g, 2, none⟩) (by dsimp only; omega) (.int .u64 (fmh : Int))).far (p := ⟨g, 3, none⟩) (by dsimp only; omega) (.int .u64 (fml : Int)))
              have B_sw1_rw1_4_6 := Lib.hid ((((B_w1_4.out.setCell (p := ⟨g, 0, none⟩) (by dsimp only; omega) (.int .u64 (fah : Int))).setCell (p := ⟨g, 1, none⟩) (by dsimp only; omega) (.int .u64 (fal : Int))).setCell (p := ⟨g, 2, none⟩) (by dsimp only; omega) (.int .u64 (fmh : Int))).setCell (p := ⟨g, 3, none⟩) (by dsimp only; omega) (.int .u64 (fml : Int)))
              clear RB_w1_4 RF_w1_4 RX_w1_4 B_w1_4
              generalize ((((Dw1_4.setCell ⟨g, 0, none⟩ (.int .u64 (fah : Int))).setCell ⟨g, 1, none⟩ (.int .u64 (fal : Int))).setCell ⟨g, 2, none⟩ (.int .u64 (fmh : Int))).setCell ⟨g, 3, none⟩ (.int .u64 (fml : Int))) = Xw1_rw1_4_6 at RB_sw1_rw1_4_6 RF_sw1_rw1_4_6 RX_sw1_rw1_4_6 B_sw1_rw1_4_6 ⊢
              refine hK _ _ RF_sw1_rw1_4_6.out (fun _ => ?_)
              clear hK K
              try simp only [Act.put, List.setIfInBounds_toArray, List.set_cons_zero, List.set_cons_succ]
              refine wpAnyH_done (by kernel_rfl) ?_ _
              have HE : Hid (rowS ks s0 i (j + 1) = ⟨i, k, fa, fm⟩) := Lib.hid (by rw [HST.out, HBT.out]; rfl)
              have HI : Hid (SI w Xw1_rw1_4_6 g n ⟨i, k, fa, fm⟩) := Lib.hid ⟨⟨fah, fal, fmh, fml, HF1.out, HF2.out, RB_sw1_rw1_4_6.out⟩, B_sw1_rw1_4_6.out, hgg, by have := HI1.out; show i < k ∧ k < n; omega⟩
              have HKK : Hid (k + 1 = i1 + (j + 1)) := Lib.hid (by have := HKJ.out; omega)
              go_wp2_with fail
              go_roundw
              case rel => exact ⟨k + 1, j + 1, i, k, fa, fm, by omega, by omega, by go_num, rfl, rfl, HKK, HE, HI⟩
              case measure => simp [intOf]; omega
            · have HBT : Hid (better fa fm a m = false) := Lib.hid (by have e0 := HZ1.out (by omega); have e1 := cmp_less HS2.out; simp [better]; omega)
              have HE : Hid (rowS ks s0 i (j + 1) = ⟨l, r, a, m⟩) := Lib.hid (by rw [HST.out, HBT.out]; rfl)
              have HI : Hid (SI w Xz1_rz1_2_5 g n ⟨l, r, a, m⟩) := Lib.hid ⟨⟨bh, bl, nh, nl, HW1.out, HW2.out, RB_z1_rz1_2_5_3.out⟩, B_z1_rz1_2_5_3.out, hgg, HLR.out⟩
              have HKK : Hid (k + 1 = i1 + (j + 1)) := Lib.hid (by have := HKJ.out; omega)
              go_wp2_with fail
              go_roundw
              case rel => exact ⟨k + 1, j + 1, l, r, a, m, by omega, by omega, by go_num, rfl, rfl, HKK, HE, HI⟩
              case measure => simp [intOf]; omega
            · have HZ3 : Hid (1 ≤ 2 → fa = a) := Lib.hid (fun _ => HZ1.out (by omega))
              have HZ4 : Hid (2 ≤ 2 → fm = m) := Lib.hid (fun _ => cmp_same HS2.out)
              go_wp2_with fail
              go_roundw
              case rel => exact ⟨2, by omega, by go_num, rfl, rfl, RF_z1_rz1_2_5_3, RB_z1_rz1_2_5_3, B_z1_rz1_2_5_3, HZ3, HZ4⟩
              case measure => simp [intOf]
          · have HBT : Hid (better fa fm a m = false) := Lib.hid (by have e0 := HZ1.out (by omega); have e1 := HZ2.out (by omega); simp [better]; omega)
            have HE : Hid (rowS ks s0 i (j + 1) = ⟨l, r, a, m⟩) := Lib.hid (by rw [HST.out, HBT.out]; rfl)
            have HI : Hid (SI w wr g n ⟨l, r, a, m⟩) := Lib.hid ⟨⟨bh, bl, nh, nl, HW1.out, HW2.out, RB_.out⟩, B_.out, hgg, HLR.out⟩
            have HKK : Hid (k + 1 = i1 + (j + 1)) := Lib.hid (by have := HKJ.out; omega)
            go_wp2_with fail
            go_roundw
            case rel => exact ⟨k + 1, j + 1, l, r, a, m, by omega, by omega, by go_num, rfl, rfl, HKK, HE, HI⟩
            case measure => simp [intOf]; omega
end Go.Proofs.Ytbmfijcckdkmdaa.Ky
