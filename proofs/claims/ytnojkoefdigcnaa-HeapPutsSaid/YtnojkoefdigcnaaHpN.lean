/-
  Heap: Next.
-/
import Derived.Test.YtnojkoefdigcnaaHp6
import Derived.LoopTactic
import Derived.Deep.RegionHeld
import Derived.Deep.Cut
import Derived.WalkLawsBesides
namespace Go.Proofs.Ytnojkoefdigcnaa.Hp
set_option maxRecDepth 100000
open Go.RowKit Go.Proofs.Ytnojkoefdigcnaa.Dsk Go.Proofs.Ytnojkoefdigcnaa.Pg Go.Proofs.Ytnojkoefdigcnaa.Rec Go.Proofs.Ytnojkoefdigcnaa.Wd Go.Proofs.Ytnojkoefdigcnaa.Wi Go.Proofs.Ytnojkoefdigcnaa.Ky Go.Proofs.Ytnojkoefdigcnaa.Oct Go.Proofs.Ytnojkoefdigcnaa.Rec Go.Proofs.Ytnojkoefdigcnaa.Lift

set_option maxHeartbeats 4000000 in
theorem next1_any (x1 : Int) (x2 r a b : Nat) (x0 z1 y0 y1 v : Int) (w : World) : Calls Try.prog 46 #[.agg #[.int .i64 x1, .int .i64 (x2 : Int), .int .u32 (r : Int), .int .u64 (a : Int), .int .u64 (b : Int), .int .i64 x0, .int .i64 z1, .int .i64 y0, .int .i64 y1, .int .i64 v]] w fun e w' => e = .returned (.int .u32 (r : Int)) ∧ Below w.heap.size w w' := by
  go_enter Try.func46, Try.ntmps46
  go_upto_region 1 with fail
  have RB_1 := Lib.hid (row_last w (w.heap.size) 64 [.int .i64 x1, .int .i64 (x2 : Int), .int .u32 (r : Int), .int .u64 (a : Int), .int .u64 (b : Int), .int .i64 x0, .int .i64 z1, .int .i64 y0, .int .i64 y1, .int .i64 v] (by simp))
  have B_1 := Lib.hid ((Below.refl w.heap.size w).alloc (Nat.le_refl _) (.cells #[.int .i64 x1, .int .i64 (x2 : Int), .int .u32 (r : Int), .int .u64 (a : Int), .int .u64 (b : Int), .int .i64 x0, .int .i64 z1, .int .i64 y0, .int .i64 y1, .int .i64 v] 64))
  generalize (w.alloc (.cells #[.int .i64 x1, .int .i64 (x2 : Int), .int .u32 (r : Int), .int .u64 (a : Int), .int .u64 (b : Int), .int .i64 x0, .int .i64 z1, .int .i64 y0, .int .i64 y1, .int .i64 v] 64)) = V1 at RB_1 B_1 ⊢
  have c2_0 := RB_1.out.cell 0
  have c2_1 := RB_1.out.cell 1
  have c2_2 := RB_1.out.cell 2
  have c2_3 := RB_1.out.cell 3
  have c2_4 := RB_1.out.cell 4
  have c2_5 := RB_1.out.cell 5
  have c2_6 := RB_1.out.cell 6
  have c2_7 := RB_1.out.cell 7
  have c2_8 := RB_1.out.cell 8
  have c2_9 := RB_1.out.cell 9
  simp only [List.getElem?_cons_zero, List.getElem?_cons_succ] at c2_0 c2_1 c2_2 c2_3 c2_4 c2_5 c2_6 c2_7 c2_8 c2_9
  go_wp2
  go_ret
  exact ⟨rfl, B_1.out⟩

theorem ehcells_at : ∀ (xs : List EH) (i j : Nat) (x : EH) (v : Value), xs[i]? = some x → x.cells[j]? = some v → (xs.flatMap EH.cells)[i * 10 + j]? = some v
  | [], i, j, x, v, h, _ => by simp at h
  | y :: xs, 0, j, x, v, h, hj => by
    obtain rfl : y = x := by simpa using h
    have hj6 : j < y.cells.length := (List.getElem?_eq_some_iff.1 hj).1
    rw [List.flatMap_cons, List.getElem?_append_left (by omega), Nat.zero_mul, Nat.zero_add]
    exact hj
  | y :: xs, i + 1, j, x, v, h, hj => by
    rw [List.flatMap_cons, List.getElem?_append_right (by rw [show y.cells.length = 10 from rfl]; omega), show (i + 1) * 10 + j - y.cells.length = i * 10 + j from by rw [show y.cells.length = 10 from rfl]; omega]
    exact ehcells_at xs i j x v (by simpa using h) hj
/-- the cells of items of one's own -/
theorem ownI_at {W : World} {base n c : Nat} {A : Option Addr} {L : List EH} (h : OwnI W base (.slice A n c) L) {i : Nat} {x : EH} (hx : L[i]? = some x) : ∃ g, A = some ⟨g, 0, none⟩ ∧ base ≤ g ∧ g < W.heap.size ∧ L.length = n ∧ ∀ j v, x.cells[j]? = some v → W.cell? ⟨g, i * 10 + j, none⟩ = some v := by
  have hp := (List.getElem?_eq_some_iff.1 hx).1
  rcases h.2 with ⟨hv, h0⟩ | ⟨g, cap, cur, hv, hb, hg, hn, hm, hs, ht⟩
  · omega
  · injection hv with e1 e2 e3
    refine ⟨g, e1, hb, (Array.getElem?_eq_some_iff.1 hg).1, e2.symm, fun j v hj => ?_⟩
    have h5 := ehcells_at L i j x v hx hj
    rw [cell_of_row W g _ cur _ (0, 0) hg]
    rw [← ht, List.getElem?_take] at h5
    split at h5
    · simpa using h5
    · cases h5
def topM (L : List EH) : Nat := L.foldl (fun m x => max m x.t.r) 0
theorem top_snoc {L : List EH} {k : Nat} {x : EH} (h : L[k]? = some x) : topM (L.take (k + 1)) = max (topM (L.take k)) x.t.r := by
  rw [List.take_succ_eq_append_getElem (List.getElem?_eq_some_iff.1 h).1, (List.getElem?_eq_some_iff.1 h).2]
  simp [topM]

set_option maxHeartbeats 4000000 in
theorem greatest_any (L : List EH) (A : Option Addr) (n c base : Nat) (w : World) (hn : L.length = n) (hm : n ≤ 100000) (hb0 : base ≤ w.heap.size) (hO : OwnI w base (.slice A n c) L) :
    Calls Try.prog 45 #[.slice A n c, .func (.func 46) #[] #[]] w fun e w' => e = .returned (.int .u32 ((topM L : Nat) : Int)) ∧ Below w.heap.size w w' := by
  have HN := Lib.hid hn
  have HO := Lib.hid hO
  clear hn hO
  go_enter Try.func45, Try.ntmps45
  go_wp2_with fail
  have HI0 : Hid (Below w.heap.size w w) := Lib.hid (Below.refl _ _)
  have HT0 : Hid (topM (L.take 0) = 0) := Lib.hid rfl
  go_loopw [5, 10] (fun t i wr => ∃ (k m : Nat), k ≤ n ∧ i = .int .i64 (k : Int) ∧ t = .int .u32 (m : Int) ∧ Hid (topM (L.take k) = m) ∧ Hid (Below w.heap.size w wr)) (fun _ i _ => n - (intOf i).toNat)
  case atStart => exact ⟨0, 0, by omega, rfl, rfl, HT0, HI0⟩
  case round =>
    obtain ⟨k, m, hk, rfl, rfl, HT, HI⟩ := hrel
    clear HT0 HI0
    by_cases hlt : k < n
    case neg =>
      have h1 : ¬ (k : Int) < (n : Int) := by omega
      have HE : Hid (m = topM L) := Lib.hid (by rw [← HT.out, List.take_of_length_le (by rw [HN.out]; omega)])
      clear HT
      go_wp2
      go_ret
      exact ⟨by rw [← HE.out]; rfl, HI.out⟩
    have h1 : (k : Int) < (n : Int) := by omega
    obtain ⟨x, hx⟩ : ∃ x, L[k]? = some x := ⟨_, List.getElem?_eq_getElem (by rw [HN.out]; exact hlt)⟩
    obtain ⟨g, rfl, -, hg, -, hc⟩ := ownI_at HO.out hx
    have HS := Lib.hid (top_snoc hx)
    obtain ⟨x1, x2, ⟨r, a, b, x0, z1, y0, y1, v⟩, xe⟩ := x
    have hc := fun j u hj => (HI.out.cell (p := ⟨g, k * 10 + j, none⟩) hg).trans (hc j u hj)
    have c0 : wr.cell? ⟨g, k * 10, none⟩ = some (.int .i64 x1) := hc 0 _ rfl
    have c1 : wr.cell? ⟨g, k * 10 + 1, none⟩ = some (.int .i64 (x2 : Int)) := hc 1 _ rfl
    have c2 : wr.cell? ⟨g, k * 10 + 2, none⟩ = some (.int .u32 (r : Int)) := hc 2 _ rfl
    have c3 : wr.cell? ⟨g, k * 10 + 3, none⟩ = some (.int .u64 (a : Int)) := hc 3 _ rfl
    have c4 : wr.cell? ⟨g, k * 10 + 4, none⟩ = some (.int .u64 (b : Int)) := hc 4 _ rfl
    have c5 : wr.cell? ⟨g, k * 10 + 5, none⟩ = some (.int .i64 x0) := hc 5 _ rfl
    have c6 : wr.cell? ⟨g, k * 10 + 6, none⟩ = some (.int .i64 z1) := hc 6 _ rfl
    have c7 : wr.cell? ⟨g, k * 10 + 7, none⟩ = some (.int .i64 y0) := hc 7 _ rfl
    have c8 : wr.cell? ⟨g, k * 10 + 8, none⟩ = some (.int .i64 y1) := hc 8 _ rfl
    have c9 : wr.cell? ⟨g, k * 10 + 9, none⟩ = some (.int .i64 v) := hc 9 _ rfl
    dsimp only at HS
    obtain ⟨m2, hm2⟩ : ∃ m2, m2 = max m r := ⟨_, rfl⟩
    have hmax : (if (m : Int) < (r : Int) then (r : Int) else (m : Int)) = (m2 : Int) := by split <;> omega
    have hmax2 : (if m < r then (r : Int) else (m : Int)) = (m2 : Int) := by split <;> omega
    have HTN : Hid (topM (L.take (k + 1)) = m2) := Lib.hid (by rw [HS.out, HT.out, hm2])
    clear hx hc HT HS hm2 hg
    go_upto_region 5 with fail
    clear c0 c1 c2 c3 c4 c5 c6 c7 c8 c9
    have RX_g1 := Lib.hid (row_last wr (wr.heap.size) 64 [.int .i64 x1, .int .i64 (x2 : Int), .int .u32 (r : Int), .int .u64 (a : Int), .int .u64 (b : Int), .int .i64 x0, .int .i64 z1, .int .i64 y0, .int .i64 y1, .int .i64 v] (by simp))
    have B_g1 := Lib.hid (HI.out.alloc HI.out.size (.cells #[.int .i64 x1, .int .i64 (x2 : Int), .int .u32 (r : Int), .int .u64 (a : Int), .int .u64 (b : Int), .int .i64 x0, .int .i64 z1, .int .i64 y0, .int .i64 y1, .int .i64 v] 64))
    clear HI
    generalize (wr.alloc (.cells #[.int .i64 x1, .int .i64 (x2 : Int), .int .u32 (r : Int), .int .u64 (a : Int), .int .u64 (b : Int), .int .i64 x0, .int .i64 z1, .int .i64 y0, .int .i64 y1, .int .i64 v] 64)) = Vg1 at RX_g1 B_g1 ⊢
    have cg2_0 := RX_g1.out.cell 0
    have cg2_1 := RX_g1.out.cell 1
    have cg2_2 := RX_g1.out.cell 2
    have cg2_3 := RX_g1.out.cell 3
    have cg2_4 := RX_g1.out.cell 4
    have cg2_5 := RX_g1.out.cell 5
    have cg2_6 := RX_g1.out.cell 6
    have cg2_7 := RX_g1.out.cell 7
    have cg2_8 := RX_g1.out.cell 8
    have cg2_9 := RX_g1.out.cell 9
    simp only [List.getElem?_cons_zero, List.getElem?_cons_succ] at cg2_0 cg2_1 cg2_2 cg2_3 cg2_4 cg2_5 cg2_6 cg2_7 cg2_8 cg2_9
    go_wp2_with fail
    clear cg2_0 cg2_1 cg2_2 cg2_3 cg2_4 cg2_5 cg2_6 cg2_7 cg2_8 cg2_9
    refine (next1_any x1 x2 r a b x0 z1 y0 y1 v _).mono ?_
    rintro e W1 ⟨rfl, hb⟩
    have RX_g3 := Lib.hid (RX_g1.out.below hb RX_g1.out.lt)
    have B_g3 := Lib.hid (B_g1.out.trans (hb.mono B_g1.out.size))
    clear hb RX_g1 B_g1
    go_wp2_with fail
    go_roundw
    case rel => exact ⟨k + 1, m2, by omega, by go_num, rfl, HTN, B_g3⟩
    case measure => simp [intOf]; omega

/-- what Next answers -/
def nextV (l : List PM) : Int × Int := if itE l = 0 then (if topM (itL l) = 4294967295 then (0, 6) else ((topM (itL l) : Int) + 1, 0)) else (0, itE l)
theorem top_lt : ∀ (L : List EH), (∀ x ∈ L, x.t.r ≤ 4294967295) → topM L ≤ 4294967295 := by
  intro L h
  have : ∀ (L : List EH) (m : Nat), m ≤ 4294967295 → (∀ x ∈ L, x.t.r ≤ 4294967295) → L.foldl (fun m x => max m x.t.r) m ≤ 4294967295 := by
    intro L
    induction L with
    | nil => intro m hm _; exact hm
    | cons x L ih => intro m hm h; exact ih _ (by have := h x (by simp); show max m x.t.r ≤ _; omega) (fun y hy => h y (by simp [hy]))
  exact this L 0 (by omega) h
theorem decM_r {l : List UInt8} {t : Tu} (h : decM l = some t) : t.r ≤ 4294967295 := by
  obtain ⟨r, a, b, x0, x1, y0, y1, v⟩ := t
  obtain ⟨_, _, h3⟩ := decM_some.1 h
  have := fld_lt l 0 4
  rw [h3.r] at this
  show r ≤ _
  omega
theorem allE_r {l : List PM} {x : EH} (hx : x ∈ allE l) : x.t.r ≤ 4294967295 := by
  obtain ⟨p, _, h⟩ := List.mem_flatMap.1 hx
  have : ∀ k, ∀ x ∈ pageE p k, x.t.r ≤ 4294967295 := by
    intro k
    induction k with
    | zero => intro x h; cases h
    | succ k ih =>
      intro x h
      rcases List.mem_append.1 h with h | h
      · exact ih x h
      · unfold elE at h
        split at h
        · cases h
        · split at h <;> rename_i hd <;> (simp only [List.mem_cons, List.not_mem_nil, or_false] at h; subst h)
          · exact decM_r hd
          · show 0 ≤ _; omega
  exact this 4 x h
theorem itL_r {l : List PM} {x : EH} (hx : x ∈ itL l) : x.t.r ≤ 4294967295 := by
  unfold itL at hx
  split at hx
  · exact allE_r hx
  · cases hx
theorem itL_len (l : List PM) : (itL l).length ≤ 4 * l.length := by
  unfold itL
  split
  · exact allE_len l
  · simp
set_option maxHeartbeats 4000000 in
theorem next_any (l : List PX) (A : Option Addr) (n c : Nat) (w : World) (hn : l.length = n) (hm : n ≤ 10000) (hP : Pgs w w.heap.size A l) (hsl : ∀ x ∈ l, ∀ k, k < 4 → x.s.n k ≤ 140737488355328) :
    Calls Try.prog 21 #[.slice A n c] w fun e w' => e = .returned (.tuple #[.int .u32 (nextV (l.map pmOf)).1, .int .i64 (nextV (l.map pmOf)).2]) ∧ Below w.heap.size w w' := by
  have HIT := Lib.hid (items_any l A n c w hn hm hP hsl)
  have HLN : Hid ((l.map pmOf).length = n) := Lib.hid (by rw [List.length_map, hn])
  clear hn hP hsl
  generalize l.map pmOf = ms at HIT HLN ⊢
  have hlen := itL_len ms
  rw [HLN.out] at hlen
  have HTL := Lib.hid (top_lt (itL ms) (fun x hx => itL_r hx))
  have HNV : Hid (nextV ms = if itE ms = 0 then (if topM (itL ms) = 4294967295 then (0, 6) else ((topM (itL ms) : Int) + 1, 0)) else (0, itE ms)) := Lib.hid rfl
  obtain ⟨⟨v1, v2⟩, hv⟩ : ∃ V, V = nextV ms := ⟨_, rfl⟩
  rw [← hv] at HNV ⊢
  clear hv
  dsimp only
  unfold ItR at HIT
  generalize itL ms = L at *
  obtain ⟨E, hE⟩ : ∃ E, E = itE ms := ⟨_, rfl⟩
  rw [← hE] at HIT HNV
  clear hE
  go_enter Try.func21, Try.ntmps21
  go_wp2_with fail
  refine HIT.out.mono ?_
  rintro e w1 ⟨A1, c1, rfl, ho, hb⟩
  have HB1 := Lib.hid hb
  by_cases he : E = 0
  case neg =>
    have he2 : (E != 0) = true := by simp [he]
    obtain ⟨rfl, rfl⟩ : v1 = 0 ∧ v2 = E := by have := HNV.out; rw [if_neg he] at this; simpa using this
    clear ho hb HNV HIT he
    generalize L.length = nl at *
    go_wp2
    exact bodyPost_ret (v := .tuple #[.int .u32 0, .int .i64 v2]) (by simp [results, Try.results21, go_sem]) rfl ⟨rfl, HB1.out⟩
  subst he
  have HNV2 := Lib.hid HNV.out
  rw [if_pos rfl] at HNV2
  have HG := Lib.hid (greatest_any L A1 L.length c1 w.heap.size w1 rfl (by omega) hb.size ho)
  clear ho hb HNV HIT hlen
  obtain ⟨m, hm2⟩ : ∃ m, m = topM L := ⟨_, rfl⟩
  rw [← hm2] at HG HNV2 HTL
  clear hm2
  generalize L.length = nl at *
  go_wp2_with fail
  refine HG.out.mono ?_
  rintro e w2 ⟨rfl, hb⟩
  have HB2 := Lib.hid (HB1.out.trans (hb.mono HB1.out.size))
  clear hb HB1 HG
  by_cases hx : m = 4294967295
  · have hxi : ((m : Int) == 4294967295) = true := by rw [hx]; rfl
    obtain ⟨rfl, rfl⟩ : v1 = 0 ∧ v2 = 6 := by have := HNV2.out; rw [if_pos hx] at this; simpa using this
    clear hx HNV2 HTL
    go_wp2
    exact bodyPost_ret (v := .tuple #[.int .u32 0, .int .i64 6]) (by simp [results, Try.results21, go_sem]) rfl ⟨rfl, HB2.out⟩
  · have hxi : ((m : Int) == 4294967295) = false := by simp; omega
    obtain ⟨rfl, rfl⟩ : v1 = (m : Int) + 1 ∧ v2 = 0 := by have := HNV2.out; rw [if_neg hx] at this; simpa using this
    have hwr : ((m : Int) + 1) % 4294967296 = (m : Int) + 1 := by have := HTL.out; omega
    have hwr2 : IntKind.u32.wrap ((m : Int) + 1) = (m : Int) + 1 := by have := HTL.out; simp [IntKind.wrap, IntKind.signed, IntKind.bits]; omega
    clear hx HNV2 HTL
    go_wp2
    exact bodyPost_ret (v := .tuple #[.int .u32 ((m : Int) + 1), .int .i64 0]) (by simp [results, Try.results21, go_sem]) rfl ⟨rfl, HB2.out⟩
end Go.Proofs.Ytnojkoefdigcnaa.Hp
