/-
  Heap: Versions.
-/
import Derived.Test.YtnojkoefdigcnaaHpN
import Derived.Lib.SliceRun
import Derived.LoopTactic
import Derived.Deep.RegionHeld
import Derived.Deep.Cut
import Derived.WalkLawsBesides
namespace Go.Proofs.Ytnojkoefdigcnaa.Hp
set_option maxRecDepth 100000
open Go.RowKit Go.Lib Go.Proofs.Ytnojkoefdigcnaa.Dsk Go.Proofs.Ytnojkoefdigcnaa.Pg Go.Proofs.Ytnojkoefdigcnaa.Rec Go.Proofs.Ytnojkoefdigcnaa.Wd Go.Proofs.Ytnojkoefdigcnaa.Wi Go.Proofs.Ytnojkoefdigcnaa.Ky Go.Proofs.Ytnojkoefdigcnaa.Oct Go.Proofs.Ytnojkoefdigcnaa.Rec Go.Proofs.Ytnojkoefdigcnaa.Lift

def otherB (row : Nat) (x : EH) : Bool := decide (x.t.r ≠ row)
theorem grown_below1 {w w' : World} {r : Option Nat} (hb : Below w.heap.size w w') : w.grownBy w' r := ⟨hb.os, hb.tape, hb.output, hb.size, fun k hk _ => hb.block k hk⟩
set_option maxHeartbeats 4000000 in
theorem vers1_any (pb row : Nat) (x1 : Int) (x2 r a b : Nat) (x0 z1 y0 y1 v : Int) (w : World) (hP : Row w pb 25 [.int .u32 (row : Int)]) : Calls Try.prog 48 #[.agg #[.int .i64 x1, .int .i64 (x2 : Int), .int .u32 (r : Int), .int .u64 (a : Int), .int .u64 (b : Int), .int .i64 x0, .int .i64 z1, .int .i64 y0, .int .i64 y1, .int .i64 v], .pointer (some ⟨pb, 0, none⟩)] w fun e w' => e = .returned (.bool (decide (r ≠ row))) ∧ Below w.heap.size w w' := by
  have HP0 := Lib.hid hP
  clear hP
  by_cases h : r = row
  · have hb : ((r : Int) != (row : Int)) = false := by simp [h]
    have hb2 : (r : Int) = (row : Int) := by rw [h]
    rw [decide_eq_false (by simpa using h)]
    clear h hb2
    go_enter Try.func48, Try.ntmps48
    go_upto_region 1 with fail
    have P_q1 := Lib.hid (HP0.out.below ((Below.refl w.heap.size w).alloc (Nat.le_refl _) (.cells #[.int .i64 x1, .int .i64 (x2 : Int), .int .u32 (r : Int), .int .u64 (a : Int), .int .u64 (b : Int), .int .i64 x0, .int .i64 z1, .int .i64 y0, .int .i64 y1, .int .i64 v] 64)) HP0.out.lt)
    have RB_q1 := Lib.hid (row_last w (w.heap.size) 64 [.int .i64 x1, .int .i64 (x2 : Int), .int .u32 (r : Int), .int .u64 (a : Int), .int .u64 (b : Int), .int .i64 x0, .int .i64 z1, .int .i64 y0, .int .i64 y1, .int .i64 v] (by simp))
    have B_q1 := Lib.hid ((Below.refl w.heap.size w).alloc (Nat.le_refl _) (.cells #[.int .i64 x1, .int .i64 (x2 : Int), .int .u32 (r : Int), .int .u64 (a : Int), .int .u64 (b : Int), .int .i64 x0, .int .i64 z1, .int .i64 y0, .int .i64 y1, .int .i64 v] 64))
    clear HP0
    generalize (w.alloc (.cells #[.int .i64 x1, .int .i64 (x2 : Int), .int .u32 (r : Int), .int .u64 (a : Int), .int .u64 (b : Int), .int .i64 x0, .int .i64 z1, .int .i64 y0, .int .i64 y1, .int .i64 v] 64)) = Vq1 at RB_q1 P_q1 B_q1 ⊢
    have cq2_0 := RB_q1.out.cell 0
    have cq2_1 := RB_q1.out.cell 1
    have cq2_2 := RB_q1.out.cell 2
    have cq2_3 := RB_q1.out.cell 3
    have cq2_4 := RB_q1.out.cell 4
    have cq2_5 := RB_q1.out.cell 5
    have cq2_6 := RB_q1.out.cell 6
    have cq2_7 := RB_q1.out.cell 7
    have cq2_8 := RB_q1.out.cell 8
    have cq2_9 := RB_q1.out.cell 9
    simp only [List.getElem?_cons_zero, List.getElem?_cons_succ] at cq2_0 cq2_1 cq2_2 cq2_3 cq2_4 cq2_5 cq2_6 cq2_7 cq2_8 cq2_9
    have p0 := P_q1.out.cell 0
    simp only [List.getElem?_cons_zero] at p0
    go_wp2
    go_ret
    exact ⟨rfl, B_q1.out⟩
  · have hb : ((r : Int) != (row : Int)) = true := by simp; omega
    rw [decide_eq_true h]
    clear h
    go_enter Try.func48, Try.ntmps48
    go_upto_region 1 with fail
    have P_n1 := Lib.hid (HP0.out.below ((Below.refl w.heap.size w).alloc (Nat.le_refl _) (.cells #[.int .i64 x1, .int .i64 (x2 : Int), .int .u32 (r : Int), .int .u64 (a : Int), .int .u64 (b : Int), .int .i64 x0, .int .i64 z1, .int .i64 y0, .int .i64 y1, .int .i64 v] 64)) HP0.out.lt)
    have RB_n1 := Lib.hid (row_last w (w.heap.size) 64 [.int .i64 x1, .int .i64 (x2 : Int), .int .u32 (r : Int), .int .u64 (a : Int), .int .u64 (b : Int), .int .i64 x0, .int .i64 z1, .int .i64 y0, .int .i64 y1, .int .i64 v] (by simp))
    have B_n1 := Lib.hid ((Below.refl w.heap.size w).alloc (Nat.le_refl _) (.cells #[.int .i64 x1, .int .i64 (x2 : Int), .int .u32 (r : Int), .int .u64 (a : Int), .int .u64 (b : Int), .int .i64 x0, .int .i64 z1, .int .i64 y0, .int .i64 y1, .int .i64 v] 64))
    clear HP0
    generalize (w.alloc (.cells #[.int .i64 x1, .int .i64 (x2 : Int), .int .u32 (r : Int), .int .u64 (a : Int), .int .u64 (b : Int), .int .i64 x0, .int .i64 z1, .int .i64 y0, .int .i64 y1, .int .i64 v] 64)) = Vn1 at RB_n1 P_n1 B_n1 ⊢
    have cn2_0 := RB_n1.out.cell 0
    have cn2_1 := RB_n1.out.cell 1
    have cn2_2 := RB_n1.out.cell 2
    have cn2_3 := RB_n1.out.cell 3
    have cn2_4 := RB_n1.out.cell 4
    have cn2_5 := RB_n1.out.cell 5
    have cn2_6 := RB_n1.out.cell 6
    have cn2_7 := RB_n1.out.cell 7
    have cn2_8 := RB_n1.out.cell 8
    have cn2_9 := RB_n1.out.cell 9
    simp only [List.getElem?_cons_zero, List.getElem?_cons_succ] at cn2_0 cn2_1 cn2_2 cn2_3 cn2_4 cn2_5 cn2_6 cn2_7 cn2_8 cn2_9
    have p0 := P_n1.out.cell 0
    simp only [List.getElem?_cons_zero] at p0
    go_wp2
    go_ret
    exact ⟨rfl, B_n1.out⟩

/-- the first of some that is of another row -/
def firstO (row : Nat) (L : List EH) : Int := match L.findIdx? (otherB row) with | some i => (i : Int) | none => -1

set_option maxHeartbeats 4000000 in
theorem index_any (pb row : Nat) (L : List EH) (A : Option Addr) (n c base : Nat) (w : World) (hn : L.length = n) (hm : n ≤ 100000) (hO : OwnI w base (.slice A n c) L) (hP : Row w pb 25 [.int .u32 (row : Int)]) :
    Calls Try.prog 57 #[.slice A n c, .func (.func 48) #[] #[.pointer (some ⟨pb, 0, none⟩)]] w fun e w' => (∃ i, e = .returned (.int .i64 i) ∧ ((i = -1 ∧ ∀ x ∈ L, otherB row x = false) ∨ ∃ j : Nat, i = (j : Int) ∧ j < L.length ∧ (∀ x ∈ L.take j, otherB row x = false) ∧ ∃ x, L[j]? = some x ∧ otherB row x = true)) ∧ Below w.heap.size w w' := by
  have HN := Lib.hid hn
  have HO := Lib.hid hO
  have HP := Lib.hid hP
  clear hn hO hP
  go_enter Try.func57, Try.ntmps57
  go_wp2_with fail
  have HI0 : Hid (Below w.heap.size w w) := Lib.hid (Below.refl _ _)
  have HT0 : Hid (∀ x ∈ L.take 0, otherB row x = false) := Lib.hid (by simp)
  go_loopw [8] (fun i wr => ∃ (k : Nat), k ≤ n ∧ i = .int .i64 (k : Int) ∧ Hid (∀ x ∈ L.take k, otherB row x = false) ∧ Hid (Below w.heap.size w wr)) (fun i _ => n - (intOf i).toNat)
  case atStart => exact ⟨0, by omega, rfl, HT0, HI0⟩
  case round =>
    obtain ⟨k, hk, rfl, HT, HI⟩ := hrel
    clear HT0 HI0
    by_cases hlt : k < n
    case neg =>
      have h1 : ¬ (k : Int) < (n : Int) := by omega
      have HE : Hid (∀ x ∈ L, otherB row x = false) := Lib.hid (by have := HT.out; rwa [List.take_of_length_le (by rw [HN.out]; omega)] at this)
      clear HT
      go_wp2
      go_ret
      exact ⟨⟨-1, rfl, .inl ⟨rfl, HE.out⟩⟩, HI.out⟩
    have h1 : (k : Int) < (n : Int) := by omega
    obtain ⟨x, hx⟩ : ∃ x, L[k]? = some x := ⟨_, List.getElem?_eq_getElem (by rw [HN.out]; exact hlt)⟩
    obtain ⟨g, rfl, -, hg, -, hc⟩ := ownI_at HO.out hx
    have HX := Lib.hid hx
    have HTS : Hid (otherB row x = false → ∀ y ∈ L.take (k + 1), otherB row y = false) := Lib.hid (fun h y hy => by
      rw [List.take_succ_eq_append_getElem (by rw [HN.out]; exact hlt), (List.getElem?_eq_some_iff.1 hx).2] at hy
      rcases List.mem_append.1 hy with hy | hy
      · exact HT.out y hy
      · obtain rfl : y = x := by simpa using hy
        exact h)
    have HOB : Hid (otherB row x = decide (x.t.r ≠ row)) := Lib.hid rfl
    have HCL : Hid (k < L.length) := Lib.hid (by rw [HN.out]; exact hlt)
    obtain ⟨x1, x2, ⟨r, a, b, x0, z1, y0, y1, v⟩, xe⟩ := x
    have hc := fun j u hj => (HI.out.cell (p := ⟨g, k * 10 + j, none⟩) hg).trans (hc j u hj)
    have c0 : wr.cell? ⟨g, k * 10, none⟩ = some (.int .i64 x1) := hc 0 _ rfl
    have c1 : wr.cell? ⟨g, k * 10 + 1, none⟩ = some (.int .i64 (x2 : Int)) := hc 1 _ rfl
    have c2 : wr.cell? ⟨g, k * 10 + 2, none⟩ = some (.int .u32 (r : Int)) := hc 2 _ rfl
    have c3 : wr.cell? ⟨g, k * 10 + 3, none⟩ = some (.int .u64 (a : Int)) := hc 3 _ rfl
    have c4 : wr.cell? ⟨g, k * 10 + 4, none⟩ = some (.int .u64 (b : Int)) := hc 4 _ rfl
    have c5 : wr.cell? ⟨g, k * 10 + 5, none⟩ = some (.int .i64 x0) := hc 5 _ rfl
    have c6 : wr.cell? ⟨g, k * 10 + 6, none⟩ = some (.int .i64 z1) := hc 6 _ rfl
    have c7 : wr.cell? ⟨g, k * 10 + 7, none⟩ = some (.int .i64 y0) := hc 7 _ rfl
    have c8 : wr.cell? ⟨g, k * 10 + 8, none⟩ = some (.int .i64 y1) := hc 8 _ rfl
    have c9 : wr.cell? ⟨g, k * 10 + 9, none⟩ = some (.int .i64 v) := hc 9 _ rfl
    dsimp only at HOB
    have HV := Lib.hid (vers1_any pb row x1 x2 r a b x0 z1 y0 y1 v wr (HP.out.below HI.out HP.out.lt))
    clear hx hc hg
    generalize hd : decide (r ≠ row) = q at HV HOB
    clear hd
    go_wp2_with fail
    clear c0 c1 c2 c3 c4 c5 c6 c7 c8 c9
    refine HV.out.mono ?_
    rintro e w1 ⟨rfl, hb⟩
    have HB1 := Lib.hid (HI.out.trans (hb.mono HI.out.size))
    clear hb HI HV
    cases q
    · have HTN := Lib.hid (HTS.out HOB.out)
      go_wp2_with fail
      go_roundw
      case rel => exact ⟨k + 1, by omega, by go_num, HTN, HB1⟩
      case measure => simp [intOf]; omega
    · go_wp2
      go_ret
      exact ⟨⟨(k : Int), rfl, .inr ⟨k, rfl, HCL.out, HT.out, _, HX.out, HOB.out⟩⟩, HB1.out⟩

theorem flat_set : ∀ (M : List EH) (i : Nat) (x : EH), i < M.length → ∀ l, l = x.cells → (M.set i x).flatMap EH.cells = (M.flatMap EH.cells).take (i * 10) ++ l ++ (M.flatMap EH.cells).drop (i * 10 + 10)
  | [], i, x, h, l, _ => by simp at h
  | y :: M, 0, x, h, l, hl => by
    subst hl
    simp only [List.set_cons_zero, List.flatMap_cons, Nat.zero_mul, List.take_zero, List.nil_append, Nat.zero_add]
    rw [show 10 = y.cells.length from rfl, List.drop_left]
  | y :: M, i + 1, x, h, l, hl => by
    have ih := flat_set M i x (by simpa using h) l hl
    simp only [List.set_cons_succ, List.flatMap_cons]
    rw [ih, show (i + 1) * 10 = y.cells.length + i * 10 from by rw [show y.cells.length = 10 from rfl]; omega, List.take_length_add_append, show y.cells.length + i * 10 + 10 = y.cells.length + (i * 10 + 10) from by omega, List.drop_length_add_append]
    simp [List.append_assoc]
theorem set10 (xs : List Value) (o : Nat) (h : o + 10 ≤ xs.length) (c0 c1 c2 c3 c4 c5 c6 c7 c8 c9 : Value) :
    (((((((((xs.set o c0).set (o + 1) c1).set (o + 2) c2).set (o + 3) c3).set (o + 4) c4).set (o + 5) c5).set (o + 6) c6).set (o + 7) c7).set (o + 8) c8).set (o + 9) c9 = xs.take o ++ [c0, c1, c2, c3, c4, c5, c6, c7, c8, c9] ++ xs.drop (o + 10) := by
  apply List.ext_getElem?
  intro i
  simp only [List.getElem?_set, List.length_set]
  by_cases h1 : i < o
  · rw [List.append_assoc, List.getElem?_append_left (by rw [List.length_take]; omega), List.getElem?_take, if_pos h1]
    simp [show ¬ o = i by omega, show ¬ o + 1 = i by omega, show ¬ o + 2 = i by omega, show ¬ o + 3 = i by omega, show ¬ o + 4 = i by omega, show ¬ o + 5 = i by omega, show ¬ o + 6 = i by omega, show ¬ o + 7 = i by omega, show ¬ o + 8 = i by omega, show ¬ o + 9 = i by omega]
  · by_cases h2 : i < o + 10
    · rw [List.append_assoc, List.getElem?_append_right (by rw [List.length_take]; omega), List.length_take, Nat.min_eq_left (by omega)]
      obtain ⟨j, rfl, hj⟩ : ∃ j, i = o + j ∧ j < 10 := ⟨i - o, by omega, by omega⟩
      rw [show o + j - o = j by omega, List.getElem?_append_left (by simpa using hj)]
      have : j = 0 ∨ j = 1 ∨ j = 2 ∨ j = 3 ∨ j = 4 ∨ j = 5 ∨ j = 6 ∨ j = 7 ∨ j = 8 ∨ j = 9 := by omega
      rcases this with rfl | rfl | rfl | rfl | rfl | rfl | rfl | rfl | rfl | rfl <;> simp <;> omega
    · rw [List.getElem?_append_right (by simp [List.length_take]; omega), List.getElem?_drop]
      simp [List.length_take, show ¬ o = i by omega, show ¬ o + 1 = i by omega, show ¬ o + 2 = i by omega, show ¬ o + 3 = i by omega, show ¬ o + 4 = i by omega, show ¬ o + 5 = i by omega, show ¬ o + 6 = i by omega, show ¬ o + 7 = i by omega, show ¬ o + 8 = i by omega, show ¬ o + 9 = i by omega, Nat.min_eq_left (show o ≤ xs.length by omega)]
      congr 1
      omega
/-- an item is stored into a row of one's own -/
theorem ownI_store {W : World} {base n c g i : Nat} {M : List EH} (h : OwnI W base (.slice (some ⟨g, 0, none⟩) n c) M) (hn : M.length = n) (hi : i < n) (x : EH) (c0 c1 c2 c3 c4 c5 c6 c7 c8 c9 : Value) (hx : x.cells = [c0, c1, c2, c3, c4, c5, c6, c7, c8, c9]) :
    OwnI ((((((((((W.setCell ⟨g, i * 10, none⟩ c0).setCell ⟨g, i * 10 + 1, none⟩ c1).setCell ⟨g, i * 10 + 2, none⟩ c2).setCell ⟨g, i * 10 + 3, none⟩ c3).setCell ⟨g, i * 10 + 4, none⟩ c4).setCell ⟨g, i * 10 + 5, none⟩ c5).setCell ⟨g, i * 10 + 6, none⟩ c6).setCell ⟨g, i * 10 + 7, none⟩ c7).setCell ⟨g, i * 10 + 8, none⟩ c8).setCell ⟨g, i * 10 + 9, none⟩ c9) base (.slice (some ⟨g, 0, none⟩) n c) (M.set i x) ∧
    W.grownBy ((((((((((W.setCell ⟨g, i * 10, none⟩ c0).setCell ⟨g, i * 10 + 1, none⟩ c1).setCell ⟨g, i * 10 + 2, none⟩ c2).setCell ⟨g, i * 10 + 3, none⟩ c3).setCell ⟨g, i * 10 + 4, none⟩ c4).setCell ⟨g, i * 10 + 5, none⟩ c5).setCell ⟨g, i * 10 + 6, none⟩ c6).setCell ⟨g, i * 10 + 7, none⟩ c7).setCell ⟨g, i * 10 + 8, none⟩ c8).setCell ⟨g, i * 10 + 9, none⟩ c9) (some g) := by
  have hl := cells_len M
  unfold OwnI at h
  rw [hn] at h
  obtain ⟨h0, g0⟩ := World.ownsRow.stored h (i * 10) c0
  obtain ⟨h1, g1⟩ := World.ownsRow.stored h0 (i * 10 + 1) c1
  obtain ⟨h2, g2⟩ := World.ownsRow.stored h1 (i * 10 + 2) c2
  obtain ⟨h3, g3⟩ := World.ownsRow.stored h2 (i * 10 + 3) c3
  obtain ⟨h4, g4⟩ := World.ownsRow.stored h3 (i * 10 + 4) c4
  obtain ⟨h5, g5⟩ := World.ownsRow.stored h4 (i * 10 + 5) c5
  obtain ⟨h6, g6⟩ := World.ownsRow.stored h5 (i * 10 + 6) c6
  obtain ⟨h7, g7⟩ := World.ownsRow.stored h6 (i * 10 + 7) c7
  obtain ⟨h8, g8⟩ := World.ownsRow.stored h7 (i * 10 + 8) c8
  obtain ⟨h9, g9⟩ := World.ownsRow.stored h8 (i * 10 + 9) c9
  refine ⟨?_, g0.trans (g1.trans (g2.trans (g3.trans (g4.trans (g5.trans (g6.trans (g7.trans (g8.trans g9))))))))⟩
  unfold OwnI
  rw [List.length_set, hn, flat_set M i x (by omega) _ hx.symm, ← set10 _ _ (by rw [hl, hn]; omega)]
  exact h9
theorem ownI_frozen {W : World} {base n c g : Nat} {M : List EH} (h : OwnI W base (.slice (some ⟨g, 0, none⟩) n c) M) (k : Nat) : W.frozen? ⟨g, k, none⟩ = false := by
  rcases h.2 with ⟨hv, _⟩ | ⟨g', cap, cur, hv, _, hg, _⟩
  · cases hv
  · injection hv with e1
    have e2 := Option.some.inj e1
    have : Row W g 64 cur.toList := by
      have e3 : g = g' := congrArg Addr.block e2
      rw [e3]
      show _ = _
      simpa using hg
    exact this.frozen k
theorem wp_clear {P : Program} {w w' : World} {o : Oper} {a : Act} {K : Act → World → Prop} {Q : Exit → Act → World → Prop} (x : Operand) (t : TypeId) (ho : o.op = .call { callee := .builtin .clear, args := #[x], argTypes := #[t] }) (v u : Value)
    (hx : a.eval x = v) (hr : (Builtin.clear_ #[t] o.type #[v]).run P w = .ok u w') (h : K (a.put o.dst u) w') : o.wp P a w K Q := by
  unfold Oper.wp execOp
  simp only [ho, resolve, invoke, builtin, Sem.run_bind, Sem.run_pure, Result.andThen_ok, List.map_toArray, List.map_cons, List.map_nil, hx, hr]
  exact h
theorem wpList_clear {P : Program} {ops : Array Oper} {rest : List Oper} {w w' : World} {o : Oper} {a : Act} {Q : Exit → Act → World → Prop} (hgd : Region.wanted o (yielded ops a.tmps) = true) (x : Operand) (t : TypeId) (ho : o.op = .call { callee := .builtin .clear, args := #[x], argTypes := #[t] }) (v u : Value)
    (hx : a.eval x = v) (hr : (Builtin.clear_ #[t] o.type #[v]).run P w = .ok u w') (h : wpList P ops Q rest (a.put o.dst u) w') : wpList P ops Q (o :: rest) a w :=
  wpList_wanted hgd fun _ hK => wp_clear x t ho v u hx hr (hK _ _ h)
theorem run_clear_own {W : World} {base n c g i m cc : Nat} {ty : TypeId} {M : List EH} (h : OwnI W base (.slice (some ⟨g, 0, none⟩) n c) M) (hn : M.length = n) (him : i + m = n) (hm : 0 < m) :
    ∃ W', (Builtin.clear_ #[55] ty #[.slice (some ⟨g, i * 10, none⟩) m cc]).run Try.prog W = .ok (.tuple #[]) W' ∧ W.grownBy W' (some g) ∧ OwnI W' base (.slice (some ⟨g, 0, none⟩) i c) (M.take i) := by
  obtain ⟨ie, hie, hz, hz1, hz2⟩ := info_parts3 info_st
  have hv : ∀ w, (zeroValue 64).run Try.prog w = .ok (.agg (EH.cells ⟨0, 0, zT, 0⟩).toArray) w := fun w => by
    simp [zeroValue, typeInfo, hie, hz]
  have hl := cells_len M
  rcases h.2 with ⟨hv', _⟩ | ⟨g', cap, cur, hv', hb, hg, h1, h2, h3, h4⟩
  · cases hv'
  injection hv' with e1 e2 e3
  have e4 : g = g' := congrArg Addr.block (Option.some.inj e1)
  subst e4 e3
  have hrow : Row W g 64 cur.toList := by show _ = _; simpa using hg
  have hcl : cur.toList.length = c * 10 := by simpa using h3
  obtain ⟨Z, hZ⟩ : ∃ Z, Z = (Builtin.zeroCells (EH.cells ⟨0, 0, zT, 0⟩).toArray m).toList := ⟨_, rfl⟩
  have hZl : Z.length = m * 10 := by rw [hZ]; simp [Builtin.zeroCells, EH.cells, Tu.cells]
  have hZ1 : ∀ v ∈ Z, v.oneCell' = true := fun v hv => by
    rw [hZ] at hv
    exact ehcells_one ⟨0, 0, zT, 0⟩ v (by simpa using Wd.mem_zero hv)
  have hst := run_storeCells_cells (P := Try.prog) g (i * 10) Z 0 W (fun j hj => by rw [hrow.cell, List.getElem?_eq_getElem (by omega)]; rfl) (fun j hj => hrow.frozen _) hZ1
  simp only [Nat.add_zero] at hst
  refine ⟨W.setCells g (i * 10) Z, ?_, grown_setCells g Z (i * 10) W, ?_⟩
  · obtain ⟨m', rfl⟩ : ∃ k, m = k + 1 := ⟨m - 1, by omega⟩
    simp [Builtin.clear_, run_underlying Try.underlying55, hv, ← hZ, hst, Value.cells]
  · have hr2 := Row.setCells Z (i * 10) cur.toList W hrow (by rw [hZl, hcl]; omega)
    have hil : (M.take i).length = i := by rw [List.length_take]; omega
    refine ⟨by rw [cells_len], .inr ⟨g, c, (splice cur.toList (i * 10) Z).toArray, by rw [hil], hb, hr2, by rw [hil]; omega, h2, ?_, ?_⟩⟩
    · have := congrArg List.length (show (splice cur.toList (i * 10) Z) = cur.toList.take (i * 10) ++ (Z ++ cur.toList.drop (i * 10 + Z.length)) from rfl)
      rw [List.size_toArray, this]
      simp only [List.length_append, List.length_take, List.length_drop, hcl, hZl]
      omega
    · rw [hil]
      show ((splice cur.toList (i * 10) Z)).take (i * 10) = _
      have e5 : (splice cur.toList (i * 10) Z) = cur.toList.take (i * 10) ++ (Z ++ cur.toList.drop (i * 10 + Z.length)) := rfl
      rw [e5, List.take_append_of_le_length (by rw [List.length_take, hcl]; omega), List.take_take, Nat.min_self]
      have h6 := congrArg (List.take (i * 10)) h4
      rw [List.take_take, Nat.min_eq_left (by rw [hn]; omega)] at h6
      rw [h6]
      have h7 : M.flatMap EH.cells = (M.take i).flatMap EH.cells ++ (M.drop i).flatMap EH.cells := by rw [← List.flatMap_append, List.take_append_drop]
      rw [h7]
      have h8 := cells_len (M.take i)
      rw [hil] at h8
      rw [← h8, List.take_left]

theorem take_set_succ (M : List EH) (i : Nat) (x : EH) (h : i < M.length) : (M.set i x).take (i + 1) = M.take i ++ [x] := by
  rw [List.take_succ_eq_append_getElem (by rw [List.length_set]; exact h)]
  simp [List.take_set]
  rw [List.set_eq_of_length_le (by rw [List.length_take]; omega)]
theorem drop_set_lt (M : List EH) (i k : Nat) (x : EH) (h : i < k) : (M.set i x).drop k = M.drop k := by
  apply List.ext_getElem?
  intro m
  simp only [List.getElem?_drop, List.getElem?_set]
  rw [if_neg (by omega)]
/-- what DeleteFunc's rounds hold -/
structure MI (w : World) (base g n c pb row : Nat) (L : List EH) (i j : Nat) (M : List EH) (W : World) : Prop where
  own : OwnI W base (.slice (some ⟨g, 0, none⟩) n c) M
  len : M.length = n
  tak : M.take i = (L.take j).filter (fun x => !otherB row x)
  dro : M.drop j = L.drop j
  gr : w.grownBy W (some g)
  pr : Row W pb 25 [.int .u32 (row : Int)]
theorem filt_snoc {row : Nat} {L : List EH} {j : Nat} {x : EH} (h : L[j]? = some x) : (L.take (j + 1)).filter (fun x => !otherB row x) = (L.take j).filter (fun x => !otherB row x) ++ (if otherB row x then [] else [x]) := by
  rw [List.take_succ_eq_append_getElem (List.getElem?_eq_some_iff.1 h).1, (List.getElem?_eq_some_iff.1 h).2, List.filter_append]
  congr 1
  cases hb : otherB row x <;> simp [hb]
theorem MI.at_j {w : World} {base g n c pb row : Nat} {L : List EH} {i j : Nat} {M : List EH} {W : World} (h : MI w base g n c pb row L i j M W) {x : EH} (hx : M[j]? = some x) : L[j]? = some x := by
  have h1 := congrArg (fun l => l[0]?) h.dro
  simp only [List.getElem?_drop, Nat.add_zero] at h1
  rw [← h1]; exact hx

set_option maxHeartbeats 8000000 in
theorem delete_any (pb row : Nat) (L : List EH) (A : Option Addr) (n c base : Nat) (w : World) (hn : L.length = n) (hm : n ≤ 100000) (hO : OwnI w base (.slice A n c) L) (hP : Row w pb 25 [.int .u32 (row : Int)]) :
    Calls Try.prog 49 #[.slice A n c, .func (.func 48) #[] #[.pointer (some ⟨pb, 0, none⟩)]] w fun e w' => (∃ m, e = .returned (.slice A m c) ∧ Hid (m = (L.filter (fun x => !otherB row x)).length) ∧ OwnI w' base (.slice A m c) (L.filter (fun x => !otherB row x))) ∧ w.grownBy w' (Value.slice A n c).ownBlock := by
  have HN := Lib.hid hn
  have HO := Lib.hid hO
  have HP := Lib.hid hP
  have HX := Lib.hid (index_any pb row L A n c base w hn hm hO hP)
  clear hn hO hP
  go_enter Try.func49, Try.ntmps49
  go_wp2_with fail
  refine HX.out.mono ?_
  rintro e w1 ⟨⟨i, rfl, hi⟩, hb⟩
  rcases hi with ⟨rfl, hall⟩ | ⟨j0, rfl, hj, htk, x, hx, hxo⟩
  · have HR : Hid (w.grownBy w1 (Value.slice A n c).ownBlock ∧ OwnI w1 base (.slice A n c) (L.filter (fun x => !otherB row x)) ∧ (L.filter (fun x => !otherB row x)).length = n) := Lib.hid (by
      have hf : L.filter (fun x => !otherB row x) = L := List.filter_eq_self.2 (fun x hx => by simp [hall x hx])
      rw [hf]
      exact ⟨grown_below1 hb, ownS_below HO.out hb, HN.out⟩)
    clear hall hb HX
    go_wp2
    go_ret
    exact ⟨⟨n, rfl, Lib.hid HR.out.2.2.symm, HR.out.2.1⟩, HR.out.1⟩
  obtain ⟨g, rfl, -, hg, -, -⟩ := ownI_at HO.out hx
  have HM : Hid (MI w base g n c pb row L j0 (j0 + 1) L w1) := Lib.hid ⟨ownS_below HO.out hb, HN.out, by
    rw [filt_snoc hx, hxo, List.filter_eq_self.2 (fun x hx => by simp [htk x hx])]
    simp, rfl, grown_below1 hb, HP.out.below hb HP.out.lt⟩
  have HJ : Hid (j0 + 1 ≤ n) := Lib.hid (by have := HN.out; omega)
  have hj01 : j0 < n := HJ.out
  have hne : ((j0 : Int) == -1) = false := by simp <;> omega
  clear hb hj htk hx hxo hg HX HO HP
  go_wp2_with fail
  clear hne
  go_loopw [5, 6] (fun ti tj wr => ∃ (i j : Nat) (M : List EH), i < j ∧ j ≤ n ∧ ti = .int .i64 (i : Int) ∧ tj = .int .i64 (j : Int) ∧ Hid (MI w base g n c pb row L i j M wr)) (fun _ tj _ => n - (intOf tj).toNat)
  case atStart => exact ⟨j0, j0 + 1, L, by omega, HJ.out, rfl, by go_num, HM⟩
  case round =>
    obtain ⟨i, j, M, hij, hj, rfl, rfl, HI⟩ := hrel
    clear HM HJ
    by_cases hlt : j < n
    case neg =>
      have h1 : ¬ (j : Int) < (n : Int) := by omega
      obtain rfl : j = n := by omega
      have hnc : j ≤ c := by
        have := HI.out.own
        rcases this.2 with ⟨hv, _⟩ | ⟨g', cap, cur, hv, _, _, q1, _⟩
        · cases hv
        · injection hv with e1 e2 e3
          have := HI.out.len
          omega
      have hin : (i : Int) ≤ (c : Int) := by omega
      have hin2 : (i : Int) ≤ (j : Int) := by omega
      obtain ⟨W2, hrun, hgr, hown⟩ := run_clear_own (ty := 0) (i := i) (m := j - i) (cc := c - i) HI.out.own HI.out.len (by omega) (by omega)
      have HCL : Hid (∀ ty, ∃ W', (Builtin.clear_ #[55] ty #[.slice (some ⟨g, i * 10, none⟩) (j - i) (c - i)]).run Try.prog wr = .ok (.tuple #[]) W' ∧ wr.grownBy W' (some g) ∧ OwnI W' base (.slice (some ⟨g, 0, none⟩) i c) (M.take i)) := Lib.hid (fun ty => run_clear_own HI.out.own HI.out.len (by omega) (by omega))
      have HTK : Hid (M.take i = L.filter (fun x => !otherB row x)) := Lib.hid (by rw [HI.out.tak, List.take_of_length_le (by rw [HN.out]; omega)])
      have HTL : Hid (i = (L.filter (fun x => !otherB row x)).length) := Lib.hid (by rw [← HTK.out, List.length_take, HI.out.len]; omega)
      have HGR := Lib.hid HI.out.gr
      have hci : ¬ (c : Int) = (i : Int) := by omega
      have hcin : ¬ c = i := by omega
      clear hrun hgr hown
      obtain ⟨W2, hrun, hgr, hown⟩ := HCL.out 0
      clear HCL
      go_upto_region 12 with (at_builtin; refine wpList_clear (o := ⟨none, _, _, _, _, _⟩) rfl (.tmp 38) 55 rfl (.slice (some ⟨g, i * 10, none⟩) (j - i) (c - i)) (.tuple #[]) rfl hrun ?_)
      have HF : Hid (w.grownBy W2 (some g) ∧ OwnI W2 base (.slice (some ⟨g, 0, none⟩) i c) (L.filter (fun x => !otherB row x))) := Lib.hid ⟨HGR.out.trans hgr, by rw [← HTK.out]; exact hown⟩
      clear hrun hgr hown HI HGR
      go_wp2
      go_ret
      exact ⟨⟨i, rfl, HTL, HF.out.2⟩, HF.out.1⟩
    have h1 : (j : Int) < (n : Int) := by omega
    obtain ⟨x, hx⟩ : ∃ x, M[j]? = some x := ⟨_, List.getElem?_eq_getElem (by rw [HI.out.len]; exact hlt)⟩
    have hxL := HI.out.at_j hx
    have HFS := Lib.hid (filt_snoc (row := row) hxL)
    obtain ⟨g', hg', -, -, -, hc⟩ := ownI_at HI.out.own hx
    obtain rfl : g = g' := congrArg Addr.block (Option.some.inj hg')
    have HXM := Lib.hid hx
    have HWA : Hid (Below wr.heap.size wr (wr.alloc (.cells x.cells.toArray 64))) := Lib.hid ((Below.refl _ _).alloc (Nat.le_refl _) _)
    have HOB : Hid (otherB row x = decide (x.t.r ≠ row)) := Lib.hid rfl
    have HRX : Hid (Row (wr.alloc (.cells x.cells.toArray 64)) wr.heap.size 64 x.cells) := Lib.hid (Row.new _ _ _)
    have HGL : Hid (g < wr.heap.size) := Lib.hid (ownS_type HI.out.own rfl).2.2
    clear hg' hxL hx
    obtain ⟨x1, x2, ⟨r, a, b, x0, z1, y0, y1, v⟩, xe⟩ := x
    have c0 : wr.cell? ⟨g, j * 10, none⟩ = some (.int .i64 x1) := hc 0 _ rfl
    have c1 : wr.cell? ⟨g, j * 10 + 1, none⟩ = some (.int .i64 (x2 : Int)) := hc 1 _ rfl
    have c2 : wr.cell? ⟨g, j * 10 + 2, none⟩ = some (.int .u32 (r : Int)) := hc 2 _ rfl
    have c3 : wr.cell? ⟨g, j * 10 + 3, none⟩ = some (.int .u64 (a : Int)) := hc 3 _ rfl
    have c4 : wr.cell? ⟨g, j * 10 + 4, none⟩ = some (.int .u64 (b : Int)) := hc 4 _ rfl
    have c5 : wr.cell? ⟨g, j * 10 + 5, none⟩ = some (.int .i64 x0) := hc 5 _ rfl
    have c6 : wr.cell? ⟨g, j * 10 + 6, none⟩ = some (.int .i64 z1) := hc 6 _ rfl
    have c7 : wr.cell? ⟨g, j * 10 + 7, none⟩ = some (.int .i64 y0) := hc 7 _ rfl
    have c8 : wr.cell? ⟨g, j * 10 + 8, none⟩ = some (.int .i64 y1) := hc 8 _ rfl
    have c9 : wr.cell? ⟨g, j * 10 + 9, none⟩ = some (.int .i64 v) := hc 9 _ rfl
    clear hc
    dsimp only at HOB
    unfold EH.cells Tu.cells at HWA HRX
    dsimp only at HWA HRX
    go_upto_region 8 with fail
    clear c0 c1 c2 c3 c4 c5 c6 c7 c8 c9
    obtain ⟨gb, hgb⟩ : ∃ gb, gb = wr.heap.size := ⟨_, rfl⟩
    have HGB : Hid (g < gb) := Lib.hid (by rw [hgb]; exact HGL.out)
    rw [← hgb] at HRX ⊢
    generalize wr.alloc (.cells #[.int .i64 x1, .int .i64 (x2 : Int), .int .u32 (r : Int), .int .u64 (a : Int), .int .u64 (b : Int), .int .i64 x0, .int .i64 z1, .int .i64 y0, .int .i64 y1, .int .i64 v] 64) = wa at HWA HRX ⊢
    clear hgb
    have q0 := HRX.out.cell 0
    have q1 := HRX.out.cell 1
    have q2 := HRX.out.cell 2
    have q3 := HRX.out.cell 3
    have q4 := HRX.out.cell 4
    have q5 := HRX.out.cell 5
    have q6 := HRX.out.cell 6
    have q7 := HRX.out.cell 7
    have q8 := HRX.out.cell 8
    have q9 := HRX.out.cell 9
    simp only [List.getElem?_cons_zero, List.getElem?_cons_succ] at q0 q1 q2 q3 q4 q5 q6 q7 q8 q9
    have HV := Lib.hid (vers1_any pb row x1 x2 r a b x0 z1 y0 y1 v wa (HI.out.pr.below HWA.out HI.out.pr.lt))
    generalize hd : decide (r ≠ row) = q at HV HOB
    clear hd
    go_wp2_with fail
    clear q0 q1 q2 q3 q4 q5 q6 q7 q8 q9
    refine HV.out.mono ?_
    rintro e w2 ⟨rfl, hb⟩
    have hb2 := HWA.out.trans (hb.mono HWA.out.size)
    have HI2 : Hid (MI w base g n c pb row L i j M w2) := Lib.hid ⟨ownS_below HI.out.own hb2, HI.out.len, HI.out.tak, HI.out.dro, grown_below HI.out.gr hb2, HI.out.pr.below hb2 HI.out.pr.lt⟩
    have HRX2 := Lib.hid (HRX.out.below hb HRX.out.lt)
    clear hb hb2 HWA HRX HV HI HGL
    cases q
    · have hxi : i < n := by omega
      obtain ⟨yi, hyi⟩ : ∃ y, M[i]? = some y := ⟨_, List.getElem?_eq_getElem (by rw [HI2.out.len]; exact hxi)⟩
      obtain ⟨g', hg', -, -, -, hc⟩ := ownI_at HI2.out.own hyi
      obtain rfl : g = g' := congrArg Addr.block (Option.some.inj hg')
      obtain ⟨i1, i2, ⟨ir, ia, ib, ix0, iz1, iy0, iy1, iv⟩, ie⟩ := yi
      have c0 : w2.cell? ⟨g, i * 10, none⟩ = some (.int .i64 i1) := hc 0 _ rfl
      have c1 : w2.cell? ⟨g, i * 10 + 1, none⟩ = some (.int .i64 (i2 : Int)) := hc 1 _ rfl
      have c2 : w2.cell? ⟨g, i * 10 + 2, none⟩ = some (.int .u32 (ir : Int)) := hc 2 _ rfl
      have c3 : w2.cell? ⟨g, i * 10 + 3, none⟩ = some (.int .u64 (ia : Int)) := hc 3 _ rfl
      have c4 : w2.cell? ⟨g, i * 10 + 4, none⟩ = some (.int .u64 (ib : Int)) := hc 4 _ rfl
      have c5 : w2.cell? ⟨g, i * 10 + 5, none⟩ = some (.int .i64 ix0) := hc 5 _ rfl
      have c6 : w2.cell? ⟨g, i * 10 + 6, none⟩ = some (.int .i64 iz1) := hc 6 _ rfl
      have c7 : w2.cell? ⟨g, i * 10 + 7, none⟩ = some (.int .i64 iy0) := hc 7 _ rfl
      have c8 : w2.cell? ⟨g, i * 10 + 8, none⟩ = some (.int .i64 iy1) := hc 8 _ rfl
      have c9 : w2.cell? ⟨g, i * 10 + 9, none⟩ = some (.int .i64 iv) := hc 9 _ rfl
      have f0 := ownI_frozen HI2.out.own (i * 10)
      have f1 := ownI_frozen HI2.out.own (i * 10 + 1)
      have f2 := ownI_frozen HI2.out.own (i * 10 + 2)
      have f3 := ownI_frozen HI2.out.own (i * 10 + 3)
      have f4 := ownI_frozen HI2.out.own (i * 10 + 4)
      have f5 := ownI_frozen HI2.out.own (i * 10 + 5)
      have f6 := ownI_frozen HI2.out.own (i * 10 + 6)
      have f7 := ownI_frozen HI2.out.own (i * 10 + 7)
      have f8 := ownI_frozen HI2.out.own (i * 10 + 8)
      have f9 := ownI_frozen HI2.out.own (i * 10 + 9)
      have hfull := ownI_store HI2.out.own HI2.out.len hxi ⟨x1, x2, ⟨r, a, b, x0, z1, y0, y1, v⟩, xe⟩ _ _ _ _ _ _ _ _ _ _ rfl
      have HST := Lib.hid hfull
      clear hfull hc hyi hg'
      have q0 := HRX2.out.cell 0
      have q1 := HRX2.out.cell 1
      have q2 := HRX2.out.cell 2
      have q3 := HRX2.out.cell 3
      have q4 := HRX2.out.cell 4
      have q5 := HRX2.out.cell 5
      have q6 := HRX2.out.cell 6
      have q7 := HRX2.out.cell 7
      have q8 := HRX2.out.cell 8
      have q9 := HRX2.out.cell 9
      simp only [List.getElem?_cons_zero, List.getElem?_cons_succ] at q0 q1 q2 q3 q4 q5 q6 q7 q8 q9
      have hgg : g ≠ gb := by have := HGB.out; omega
      go_upto_region 10 with fail
      clear c0 f0 q0 c1 f1 q1 c2 f2 q2 c3 f3 q3 c4 f4 q4 c5 f5 q5 c6 f6 q6 c7 f7 q7 c8 f8 q8 c9 f9 q9
      generalize ((((((((((w2.setCell ⟨g, i * 10, none⟩ (.int .i64 x1)).setCell ⟨g, i * 10 + 1, none⟩ (.int .i64 (x2 : Int))).setCell ⟨g, i * 10 + 2, none⟩ (.int .u32 (r : Int))).setCell ⟨g, i * 10 + 3, none⟩ (.int .u64 (a : Int))).setCell ⟨g, i * 10 + 4, none⟩ (.int .u64 (b : Int))).setCell ⟨g, i * 10 + 5, none⟩ (.int .i64 x0)).setCell ⟨g, i * 10 + 6, none⟩ (.int .i64 z1)).setCell ⟨g, i * 10 + 7, none⟩ (.int .i64 y0)).setCell ⟨g, i * 10 + 8, none⟩ (.int .i64 y1)).setCell ⟨g, i * 10 + 9, none⟩ (.int .i64 v)) = w5 at HST ⊢
      have HI3 : Hid (MI w base g n c pb row L (i + 1) (j + 1) (M.set i ⟨x1, x2, ⟨r, a, b, x0, z1, y0, y1, v⟩, xe⟩) w5) := Lib.hid ⟨HST.out.1, by rw [List.length_set]; exact HI2.out.len, by rw [take_set_succ M i _ (by rw [HI2.out.len]; exact hxi), HI2.out.tak, HFS.out, HOB.out]; rfl, by rw [drop_set_lt M i (j + 1) _ (by omega), ← List.drop_drop, HI2.out.dro, List.drop_drop], HI2.out.gr.trans HST.out.2, HI2.out.pr.grown HST.out.2 (fun e => by
        have e2 := Option.some.inj e
        obtain ⟨⟨cs', h'⟩, -, -⟩ := ownS_type HI2.out.own (k := g) rfl
        rw [← e2] at h'
        exact absurd (rowS_type h' HI2.out.pr) (by decide))⟩
      clear HST HI2 HRX2 hgg hxi
      go_wp2_with fail
      go_roundw
      case rel => exact ⟨i + 1, j + 1, _, by omega, by omega, by go_num, by go_num, HI3⟩
      case measure => simp [intOf]; omega
    · have HI3 : Hid (MI w base g n c pb row L i (j + 1) M w2) := Lib.hid ⟨HI2.out.own, HI2.out.len, by rw [HI2.out.tak, HFS.out, HOB.out]; simp, by rw [← List.drop_drop, HI2.out.dro, List.drop_drop], HI2.out.gr, HI2.out.pr⟩
      clear HI2
      go_wp2_with fail
      go_roundw
      case rel => exact ⟨i, j + 1, M, by omega, by omega, rfl, by go_num, HI3⟩
      case measure => simp [intOf]; omega

/-- what Versions answers -/
def VerR (w : World) (l : List PM) (row : Nat) (e : Ending) (w' : World) : Prop := ∃ A m c, e = .returned (.tuple #[.slice A m c, .int .i64 (itE l)]) ∧ Hid (m = ((itL l).filter (fun x => !otherB row x)).length) ∧ OwnI w' w.heap.size (.slice A m c) ((itL l).filter (fun x => !otherB row x)) ∧ Below w.heap.size w w'
set_option maxHeartbeats 4000000 in
theorem versions_any (l : List PX) (A : Option Addr) (n c row : Nat) (w : World) (hn : l.length = n) (hm : n ≤ 10000) (hP : Pgs w w.heap.size A l) (hsl : ∀ x ∈ l, ∀ k, k < 4 → x.s.n k ≤ 140737488355328) :
    Calls Try.prog 23 #[.slice A n c, .int .u32 (row : Int)] w (VerR w (l.map pmOf) row) := by
  have HIT := Lib.hid (fun (W : World) (hb : Below w.heap.size w W) => items_any l A n c W hn hm ((hP.below hb).more hb.size) hsl)
  have HLN : Hid ((itL (l.map pmOf)).length ≤ 100000) := Lib.hid (by have := itL_len (l.map pmOf); rw [List.length_map, hn] at this; omega)
  clear hn hP hsl
  unfold VerR
  generalize l.map pmOf = ms at HIT HLN ⊢
  unfold ItR at HIT
  generalize itE ms = E at *
  generalize itL ms = L at *
  go_enter Try.func23, Try.ntmps23
  go_upto_region 1 with fail
  have HR : Hid (Row (w.alloc (.cells #[.int .u32 (row : Int)] 25)) w.heap.size 25 [.int .u32 (row : Int)]) := Lib.hid (Row.new w _ _)
  have HB : Hid (Below w.heap.size w (w.alloc (.cells #[.int .u32 (row : Int)] 25))) := Lib.hid ((Below.refl _ _).alloc (Nat.le_refl _) _)
  generalize w.alloc (.cells #[.int .u32 (row : Int)] 25) = w1 at HR HB ⊢
  go_wp2_with fail
  refine (HIT.out _ HB.out).mono ?_
  rintro e w2 ⟨A1, c1, rfl, ho, hb⟩
  have HR2 := Lib.hid (HR.out.below hb HR.out.lt)
  have HB2 := Lib.hid (HB.out.trans (hb.mono HB.out.size))
  have HO := Lib.hid (ownS_lower ho HB.out.size)
  have HDL := Lib.hid (delete_any w.heap.size row L A1 L.length c1 w.heap.size w2 rfl HLN.out HO.out HR2.out)
  clear ho hb HR HB HIT
  obtain ⟨nl, hnl⟩ : ∃ nl, nl = L.length := ⟨_, rfl⟩
  rw [← hnl] at HDL ⊢
  have HNL := Lib.hid hnl
  clear hnl
  go_wp2_with fail
  refine HDL.out.mono ?_
  rintro e w3 ⟨⟨m, rfl, hm2, hown⟩, hgr⟩
  have HF : Hid (OwnI w3 w.heap.size (.slice A1 m c1) (L.filter (fun x => !otherB row x)) ∧ Below w.heap.size w w3) := Lib.hid ⟨hown, HB2.out.grown hgr HB2.out.size (fun k hk => by
    have h1 := HO.out
    unfold OwnI at h1
    rw [← HNL.out] at h1
    exact (ownS_type h1 hk).2.1)⟩
  clear hown hgr HDL HO HB2 HR2
  go_wp2
  exact bodyPost_ret (v := .tuple #[.slice A1 m c1, .int .i64 E]) (by simp [results, Try.results23, go_sem]) rfl ⟨A1, m, c1, rfl, hm2, HF.out.1, HF.out.2⟩
end Go.Proofs.Ytnojkoefdigcnaa.Hp
