/-
  Keys: a side of a list that is parted, and what it takes.
-/
import Derived.Test.YtbmfijcckdkmdaaKy9
import Derived.Test.YtbmfijcckdkmdaaAppP
import Derived.Test.YtbmfijcckdkmdaaWi2
import Derived.LoopTactic
import Derived.Deep.RegionHeld
import Derived.Deep.Cut
import Derived.WalkLawsBesides
namespace Go.Proofs.Ytbmfijcckdkmdaa.Ky
set_option maxRecDepth 100000
open Go.RowKit Go.Proofs.Ytbmfijcckdkmdaa.Wd Go.Proofs.Ytbmfijcckdkmdaa.Wi Go.Proofs.Ytbmfijcckdkmdaa.Lift


/-- numbers as cells -/
def iv (l : List Nat) : List Value := l.map fun (x : Nat) => .int .i64 (x : Int)
theorem iv_len (l : List Nat) : (iv l).length = l.length := by simp [iv]
def unionK (x u : Kb) : Kb := ⟨minI x.x0 u.x0, maxI x.x1 u.x1, minI x.y0 u.y0, maxI x.y1 u.y1⟩
theorem unionK_ok {x u : Kb} (hx : x.ok = true) (hu : u.ok = true) : (unionK x u).ok = true := by
  obtain ⟨x0, x1, y0, y1⟩ := x
  obtain ⟨u0, u1, v0, v1⟩ := u
  simp only [Kb.ok, boxB, unionK, minI, maxI, Bool.and_eq_true, decide_eq_true_eq] at *
  refine ⟨?_, ?_⟩ <;> repeat' split
  all_goals omega
theorem unionK_num {x u : Kb} (hx : KOk x.x0 x.x1 x.y0 x.y1) (hu : KOk u.x0 u.x1 u.y0 u.y1) : KOk (unionK x u).x0 (unionK x u).x1 (unionK x u).y0 (unionK x u).y1 := union_ok hx hu
theorem Union_is {x u : Kb} (hx : x.ok = true) (hu : u.ok = true) (w : World) : Calls Try.prog 15 #[KV x.x0 x.x1 x.y0 x.y1, KV u.x0 u.x1 u.y0 u.y1] w fun e w' => e = .returned (KV (unionK x u).x0 (unionK x u).x1 (unionK x u).y0 (unionK x u).y1) ∧ Below w.heap.size w w' := by
  have h := Union_any x.x0 x.x1 x.y0 x.y1 u.x0 u.x1 u.y0 u.y1 w
  unfold unionV at h
  rw [show boxB x.x0 x.x1 x.y0 x.y1 = true from hx, show boxB u.x0 u.x1 u.y0 u.y1 = true from hu, Bool.and_self, if_pos rfl] at h
  exact h
/-- a side: its row, and its places in memory of its own -/
structure Side (w : World) (base g : Nat) (v : Value) (L : List Nat) (u : Kb) : Prop where
  row : Row w g 66 [v, .int .i64 u.x0, .int .i64 u.x1, .int .i64 u.y0, .int .i64 u.y1]
  own : w.ownsRow base 3 1 v L.length (iv L)
theorem own_ne {w : World} {base n g : Nat} {e t : TypeId} {v : Value} {xs cs : List Value} (h : w.ownsRow base e 1 v n xs) (hr : Row w g t cs) (ht : t ≠ e) : some g ≠ v.ownBlock := fun he => by
  rcases h.2 with ⟨rfl, _⟩ | ⟨g', cap, cur, rfl, _, hg, _⟩
  · cases he
  · have : g = g' := Option.some.inj he
    subst this
    unfold Row at hr
    rw [hr] at hg
    exact ht (by injection hg with h1; injection h1)
theorem own_kept {w w' : World} {base n : Nat} {e : TypeId} {v : Value} {xs : List Value} (h : w.ownsRow base e 1 v n xs) (hk : ∀ k, k < w.heap.size → v.ownBlock = some k → w'.heap[k]? = w.heap[k]?) : w'.ownsRow base e 1 v n xs := by
  refine ⟨h.1, ?_⟩
  rcases h.2 with hn | ⟨g, cap, cur, rfl, hb, hg, rest⟩
  · exact .inl hn
  · exact .inr ⟨g, cap, cur, rfl, hb, (hk g (Array.getElem?_eq_some_iff.1 hg).1 rfl).trans hg, rest⟩
theorem own_lt {w : World} {base n k : Nat} {e : TypeId} {v : Value} {xs : List Value} (h : w.ownsRow base e 1 v n xs) (hk : v.ownBlock = some k) : k < w.heap.size := by
  rcases h.2 with ⟨rfl, _⟩ | ⟨g, cap, cur, rfl, hb, hg, rest⟩
  · cases hk
  · cases hk; exact (Array.getElem?_eq_some_iff.1 hg).1
theorem own_base {w : World} {base n k : Nat} {e : TypeId} {v : Value} {xs : List Value} (h : w.ownsRow base e 1 v n xs) (hk : v.ownBlock = some k) : base ≤ k := by
  rcases h.2 with ⟨rfl, _⟩ | ⟨g, cap, cur, rfl, hb, hg, rest⟩
  · cases hk
  · cases hk; exact hb
theorem Side.below {w w' : World} {base g : Nat} {v : Value} {L : List Nat} {u : Kb} (h : Side w base g v L u) (hb : Below w.heap.size w w') : Side w' base g v L u :=
  ⟨h.row.below hb h.row.lt, own_kept h.own fun k hk _ => hb.block k hk⟩
/-- only a side has turned: its row, its places' block, and what is new -/
structure Touch (w w' : World) (g : Nat) (v v' : Value) : Prop where
  os : w'.os = w.os
  tape : w'.tape = w.tape
  output : w'.output = w.output
  size : w.heap.size ≤ w'.heap.size
  block : ∀ k, k < w.heap.size → k ≠ g → some k ≠ v.ownBlock → w'.heap[k]? = w.heap[k]?
  new : v'.ownBlock = v.ownBlock ∨ ∃ k, w.heap.size ≤ k ∧ v'.ownBlock = some k
theorem Side.touch {w w' : World} {base g g1 : Nat} {v v1 v1' : Value} {L : List Nat} {u : Kb} (h : Side w base g v L u) (ht : Touch w w' g1 v1 v1') (h1 : g ≠ g1) (h2 : some g ≠ v1.ownBlock) (h3 : some g1 ≠ v.ownBlock) (h4 : v.ownBlock = none ∨ v.ownBlock ≠ v1.ownBlock) : Side w' base g v L u :=
  ⟨(ht.block g h.row.lt h1 h2).trans h.row, own_kept h.own fun k hk he => ht.block k hk (fun e => h3 (by rw [he, e])) (fun e => by
    rcases h4 with h0 | h0
    · rw [h0] at he; cases he
    · exact h0 (by rw [he, e]))⟩
theorem Row.touch {w w' : World} {g1 g : Nat} {v1 v1' : Value} {t : TypeId} {cs : List Value} (h : Row w g t cs) (ht : Touch w w' g1 v1 v1') (h1 : g ≠ g1) (h2 : some g ≠ v1.ownBlock) : Row w' g t cs := (ht.block g h.lt h1 h2).trans h
theorem info_int : (Try.prog.info? 3).map (fun i => (i.zero, i.size, i.bytes)) = some (some (.int .i64 0), 1, 8) := by kernel_rfl

theorem own_below {w w' : World} {base n : Nat} {e : TypeId} {v : Value} {xs : List Value} (h : w.ownsRow base e 1 v n xs) (hb : Below w.heap.size w w') : w'.ownsRow base e 1 v n xs := own_kept h fun k hk _ => hb.block k hk
theorem own_drew {w : World} {base n : Nat} {e : TypeId} {v : Value} {xs : List Value} (h : w.ownsRow base e 1 v n xs) : w.drew.ownsRow base e 1 v n xs := own_kept h fun _ _ _ => rfl
theorem own_set {w : World} {base n g : Nat} {e : TypeId} {v : Value} {xs : List Value} (h : w.ownsRow base e 1 v n xs) (hne : some g ≠ v.ownBlock) (i : Nat) (u : Value) : (w.setCell ⟨g, i, none⟩ u).ownsRow base e 1 v n xs :=
  own_kept h fun k _ he => Below.heap_setCell w ⟨g, i, none⟩ u k (fun e => hne (by rw [he]; exact congrArg some e.symm))
/-- what is not a row g nor a block o is as it was -/
structure Tch (w W : World) (g : Nat) (o : Option Nat) : Prop where
  os : W.os = w.os
  tape : W.tape = w.tape
  output : W.output = w.output
  size : w.heap.size ≤ W.heap.size
  block : ∀ k, k < w.heap.size → k ≠ g → some k ≠ o → W.heap[k]? = w.heap[k]?
theorem Tch.below {w W W' : World} {g : Nat} {o : Option Nat} (h : Tch w W g o) (hb : Below W.heap.size W W') : Tch w W' g o :=
  ⟨hb.os.trans h.os, hb.tape.trans h.tape, hb.output.trans h.output, Nat.le_trans h.size hb.size, fun k hk h1 h2 => (hb.block k (Nat.lt_of_lt_of_le hk h.size)).trans (h.block k hk h1 h2)⟩
theorem Tch.drew {w W : World} {g : Nat} {o : Option Nat} (h : Tch w W g o) : Tch w W.drew g o := ⟨h.os, h.tape, h.output, h.size, h.block⟩
theorem Tch.set {w W : World} {g : Nat} {o : Option Nat} (h : Tch w W g o) (i : Nat) (u : Value) : Tch w (W.setCell ⟨g, i, none⟩ u) g o :=
  ⟨h.os, h.tape, h.output, by simp [World.setCell]; exact h.size, fun k hk h1 h2 => (Below.heap_setCell W ⟨g, i, none⟩ u k h1).trans (h.block k hk h1 h2)⟩
set_option maxHeartbeats 4000000 in
theorem take_any {g p base : Nat} {v : Value} {L : List Nat} {u b : Kb} (w : World) (hS : Side w base g v L u) (hu : u.ok = true) (hb : b.ok = true) (hL : L.length ≤ 1000) (hbase : base ≤ w.heap.size) :
    Calls Try.prog 49 #[.pointer (some ⟨g, 0, none⟩), .int .i64 (p : Int), KV b.x0 b.x1 b.y0 b.y1] w fun e w' => e = .returned (.tuple #[]) ∧ ∃ v', Side w' base g v' (L ++ [p]) (unionK u b) ∧ Touch w w' g v v' := by
  obtain ⟨ie, hie, hze, hse, hbe⟩ := info_parts info_int
  have HU := Lib.hid (fun w => Union_is hu hb w)
  have HSO := Lib.hid hS.own
  have HNE := Lib.hid (own_ne hS.own hS.row (by decide))
  have RG_ := Lib.hid hS.row
  have hgl := hS.row.lt
  generalize unionK u b = u2 at HU ⊢
  obtain ⟨u0, u1, v0, v1⟩ := u
  obtain ⟨x0, x1, y0, y1⟩ := b
  obtain ⟨m0, m1, m2, m3⟩ := u2
  dsimp only at HU RG_
  clear hS hu hb
  go_enter Try.func49, Try.ntmps49
  go_upto_region 1 with fail
  have hlt1_0 : g < w.heap.size := RG_.out.lt
  have RG_1 := Lib.hid (RG_.out.alloc (.cells #[.int .i64 x0, .int .i64 x1, .int .i64 y0, .int .i64 y1] 23))
  have RB_1 := Lib.hid (row_last w (w.heap.size) 23 [.int .i64 x0, .int .i64 x1, .int .i64 y0, .int .i64 y1] (by simp))
  have B_1 := Lib.hid ((Below.refl w.heap.size w).alloc (Nat.le_refl _) (.cells #[.int .i64 x0, .int .i64 x1, .int .i64 y0, .int .i64 y1] 23))
  clear RG_
  generalize (w.alloc (.cells #[.int .i64 x0, .int .i64 x1, .int .i64 y0, .int .i64 y1] 23)) = V1 at RG_1 RB_1 B_1 ⊢
  have HO1 := Lib.hid (own_kept HSO.out fun k hk _ => (B_1.out.block k hk))
  have hbV : base ≤ V1.heap.size := Nat.le_trans hbase B_1.out.size
  have HAT : Hid (AllP (fun _ => True) V1 v) := Lib.hid (fun g hg => by
    rcases HO1.out.2 with ⟨rfl, _⟩ | ⟨g', cap, cur, rfl, _, h3, _⟩
    · cases hg
    · cases hg; exact ⟨cur, _, h3, fun _ _ => trivial⟩)
  have c2_0 := RG_1.out.cell 0
  have c2_1 := RG_1.out.cell 1
  have c2_2 := RG_1.out.cell 2
  have c2_3 := RG_1.out.cell 3
  have c2_4 := RG_1.out.cell 4
  simp only [List.getElem?_cons_zero, List.getElem?_cons_succ] at c2_0 c2_1 c2_2 c2_3 c2_4
  have c3_0 := RB_1.out.cell 0
  have c3_1 := RB_1.out.cell 1
  have c3_2 := RB_1.out.cell 2
  have c3_3 := RB_1.out.cell 3
  simp only [List.getElem?_cons_zero, List.getElem?_cons_succ] at c3_0 c3_1 c3_2 c3_3
  go_wp2_with (at_builtin; (refine wpList_append_p (o := ⟨some 13, _, _, _, _, _⟩) (by rfl) (fun _ => True) (.tmp 10) (.tmp 12) 39 rfl base 3 ie (.int .i64 0) 1 8 Try.underlying39 hie hze hse hbe rfl (by omega) v L.length (iv L) ?hs ?hown ⟨V1.heap.size, 0, none⟩ 1 1 [.int .i64 (p : Int)] ?hx rfl ?hcell ?hone ?h63 ?hby ?hbs (by omega) ?h7 ?h8 ?h9 ?_))
  case hs => rfl
  case hx => rfl
  case hown => exact own_kept HO1.out fun k hk _ => (((Below.refl _ _).alloc (Nat.le_refl _) _ : Below V1.heap.size V1 _).block k hk)
  case hcell =>
    intro j u hj
    match j, hj with
    | 0, hj =>
      obtain rfl := Option.some.inj hj
      simp [Addr.add]
    | j + 1, hj => simp at hj
  case hone => intro u hu; simp at hu; subst hu; rfl
  case h63 => unfold maxLen; omega
  case hby => omega
  case hbs => simp; omega
  case h7 => intro _ _; trivial
  case h8 => intro _ _; trivial
  case h9 => exact HAT.out.below ((Below.refl _ _).alloc (Nat.le_refl _) _)
  intro v2 w2 ho hgr hnew _
  obtain ⟨g2, cp, rfl⟩ : ∃ g2 cp, v2 = .slice (some ⟨g2, 0, none⟩) (L.length + 1) cp := by
    rcases ho.2 with ⟨_, h⟩ | ⟨g', cap, cur, h, _⟩
    · omega
    · exact ⟨g', cap, h⟩
  have HW : Hid (Below V1.heap.size V1 (V1.alloc (.cells #[.int .i64 (p : Int)] 3))) := Lib.hid ((Below.refl _ _).alloc (Nat.le_refl _) _)
  have HNB := Lib.hid (own_ne HO1.out RB_1.out (by decide))
  have RG_3 := Lib.hid ((RG_1.out.below HW.out RG_1.out.lt).grown hgr HNE.out)
  have RB_3 := Lib.hid ((RB_1.out.below HW.out RB_1.out.lt).grown hgr HNB.out)
  have T_3 : Hid (Tch w w2 g v.ownBlock) := Lib.hid ⟨hgr.os.trans (HW.out.os.trans B_1.out.os), hgr.tape.trans (HW.out.tape.trans B_1.out.tape), hgr.output.trans (HW.out.output.trans B_1.out.output), Nat.le_trans B_1.out.size (Nat.le_trans HW.out.size hgr.size), fun k hk h1 h2 => by
    have h3 := B_1.out.size
    have h4 := HW.out.size
    exact (hgr.block k (by omega) h2).trans ((HW.out.block k (by omega)).trans (B_1.out.block k hk))⟩
  have HNV : Hid ((Value.slice (some ⟨g2, 0, none⟩) (L.length + 1) cp).ownBlock = v.ownBlock ∨ ∃ k, w.heap.size ≤ k ∧ (Value.slice (some ⟨g2, 0, none⟩) (L.length + 1) cp).ownBlock = some k) := Lib.hid (by
    have h3 := B_1.out.size
    rcases hnew with h | h
    · exact .inl h
    · exact .inr ⟨_, by omega, h⟩)
  have O_3 : Hid (w2.ownsRow base 3 1 (Value.slice (some ⟨g2, 0, none⟩) (L.length + 1) cp) (L.length + 1) (iv (L ++ [p]))) := Lib.hid (by
    have : iv (L ++ [p]) = iv L ++ [.int .i64 (p : Int)] := by simp [iv]
    rw [this]; exact ho)
  have HN2 := Lib.hid (own_ne O_3.out RG_3.out (by decide))
  clear ho hgr hnew HW HNB RG_1 RB_1 B_1 HO1 HAT HSO
  clear c2_0 c2_1 c2_2 c2_3 c2_4 c3_0 c3_1 c3_2 c3_3
  have c4_0 := RG_3.out.cell 0
  have c4_1 := RG_3.out.cell 1
  have c4_2 := RG_3.out.cell 2
  have c4_3 := RG_3.out.cell 3
  have c4_4 := RG_3.out.cell 4
  simp only [List.getElem?_cons_zero, List.getElem?_cons_succ] at c4_0 c4_1 c4_2 c4_3 c4_4
  have f4_0 := RG_3.out.frozen 0
  have f4_1 := RG_3.out.frozen 1
  have f4_2 := RG_3.out.frozen 2
  have f4_3 := RG_3.out.frozen 3
  have f4_4 := RG_3.out.frozen 4
  go_upto_region 2 with fail
  clear c4_0 c4_1 c4_2 c4_3 c4_4 f4_0 f4_1 f4_2 f4_3 f4_4
  have RG_4 : Hid (Row (w2.setCell ⟨g, 0, none⟩ (Value.slice (some ⟨g2, 0, none⟩) (L.length + 1) cp)) g 66 [(Value.slice (some ⟨g2, 0, none⟩) (L.length + 1) cp), .int .i64 u0, .int .i64 u1, .int .i64 v0, .int .i64 v1]) := Lib.hid (RG_3.out.store 0 (Value.slice (some ⟨g2, 0, none⟩) (L.length + 1) cp))
  have hgw : g ≠ w.heap.size := by omega
  have RB_4 := Lib.hid (RB_3.out.far (p := ⟨g, 0, none⟩) (fun e => hgw e.symm) (Value.slice (some ⟨g2, 0, none⟩) (L.length + 1) cp))
  have T_4 := Lib.hid (T_3.out.set 0 (Value.slice (some ⟨g2, 0, none⟩) (L.length + 1) cp))
  have O_4 := Lib.hid (own_set O_3.out HN2.out 0 (Value.slice (some ⟨g2, 0, none⟩) (L.length + 1) cp))
  clear RG_3 RB_3 T_3 O_3
  generalize w2.setCell ⟨g, 0, none⟩ (Value.slice (some ⟨g2, 0, none⟩) (L.length + 1) cp) = w3 at RG_4 RB_4 T_4 O_4 ⊢
  go_wp2_with fail
  refine wp_region_held_drew (S := fun w' => Row w' (w.heap.size) 23 [.int .i64 x0, .int .i64 x1, .int .i64 y0, .int .i64 y1]) (by kernel_rfl) RB_4.out.drew (fun hHeld => ?_)
  clear hHeld
  have RG_5 := Lib.hid RG_4.out.drew
  have RB_5 := Lib.hid RB_4.out.drew
  have T_5 := Lib.hid (T_4.out.drew)
  have O_5 := Lib.hid (own_drew O_4.out)
  clear RG_4 RB_4 T_4 O_4
  generalize w3.drew = D5 at RG_5 RB_5 T_5 O_5 ⊢
  refine wpAnyH_take (i := 0) (oi := ⟨some 16, _, _, _, _, _⟩) (v := ?vr5_1) rfl (by kernel_rfl) (by kernel_rfl) (by kernel_rfl) (fun _ _ _ h => h) (Or.inl ⟨by rfl, ?yr5_1⟩) RB_5.out ?rr5_1
  case yr5_1 =>
    rintro w' hSw
    go_simp
    try with_reducible rfl
  try simp only [Act.put, List.setIfInBounds_toArray, List.set_cons_zero, List.set_cons_succ]
  refine wpAnyH_take (i := 1) (oi := ⟨some 17, _, _, _, _, _⟩) (v := ?vr5_2) rfl (by kernel_rfl) (by kernel_rfl) (by kernel_rfl) (fun _ _ _ h => h) (Or.inl ⟨by rfl, ?yr5_2⟩) RB_5.out ?rr5_2
  case yr5_2 =>
    rintro w' hSw
    go_simp
    try with_reducible rfl
  try simp only [Act.put, List.setIfInBounds_toArray, List.set_cons_zero, List.set_cons_succ]
  refine wpAnyH_take (i := 2) (oi := ⟨some 18, _, _, _, _, _⟩) (v := ?vr5_3) rfl (by kernel_rfl) (by kernel_rfl) (by kernel_rfl) (fun _ _ _ h => h) (Or.inl ⟨by rfl, ?yr5_3⟩) RB_5.out ?rr5_3
  case yr5_3 =>
    rintro w' hSw
    go_simp
    try with_reducible rfl
  try simp only [Act.put, List.setIfInBounds_toArray, List.set_cons_zero, List.set_cons_succ]
  refine wpAnyH_take (i := 3) (oi := ⟨some 19, _, _, _, _, _⟩) (v := ?vr5_4) rfl (by kernel_rfl) (by kernel_rfl) (by kernel_rfl) (fun _ _ _ h => h) (Or.inl ⟨by rfl, ?yr5_4⟩) RB_5.out ?rr5_4
  case yr5_4 =>
    rintro w' hSw
    go_simp
    try with_reducible rfl
  try simp only [Act.put, List.setIfInBounds_toArray, List.set_cons_zero, List.set_cons_succ]
  refine wpAnyH_take (i := 5) (oi := ⟨some 21, _, _, _, _, _⟩) (v := ?vr5_5) rfl (by kernel_rfl) (by kernel_rfl) (by kernel_rfl) (fun _ _ _ h => h) (Or.inl ⟨by rfl, ?yr5_5⟩) RB_5.out ?rr5_5
  case yr5_5 =>
    rintro w' hSw
    have k0 := (show Row w' _ _ _ from hSw).cell 0
    have k1 := (show Row w' _ _ _ from hSw).cell 1
    have k2 := (show Row w' _ _ _ from hSw).cell 2
    have k3 := (show Row w' _ _ _ from hSw).cell 3
    simp only [List.getElem?_cons_zero, List.getElem?_cons_succ] at k0 k1 k2 k3
    go_simp
    try with_reducible rfl
  try simp only [Act.put, List.setIfInBounds_toArray, List.set_cons_zero, List.set_cons_succ]
  refine wpAnyH_ready (rs := [4]) (by kernel_rfl) (by simp) ?_
  refine (AllReadyH.cons rfl (fun K hK => ?_) AllReadyH.nil)
  have k0 := RG_5.out.cell 0
  have k1 := RG_5.out.cell 1
  have k2 := RG_5.out.cell 2
  have k3 := RG_5.out.cell 3
  have k4 := RG_5.out.cell 4
  simp only [List.getElem?_cons_zero, List.getElem?_cons_succ] at k0 k1 k2 k3 k4
  try rw [if_pos (by rfl)]
  go_simp
  clear k0 k1 k2 k3 k4
  refine hK _ _ RB_5.out (fun _ => ?_)
  clear hK K
  try simp only [Act.put, List.setIfInBounds_toArray, List.set_cons_zero, List.set_cons_succ]
  refine wpAnyH_ready (rs := [6]) (by kernel_rfl) (by simp) ?_
  refine (AllReadyH.cons rfl (fun K hK => ?_) AllReadyH.nil)
  go_simp
  refine (HU.out _).mono ?_
  rintro e Xr5_7 ⟨rfl, hb⟩
  have RG_r5_7_6 := Lib.hid (RG_5.out.below hb RG_5.out.lt)
  have RB_r5_7_6 := Lib.hid (RB_5.out.below hb RB_5.out.lt)
  have T_r5_7_6 := Lib.hid (T_5.out.below hb)
  have O_r5_7_6 := Lib.hid (own_below O_5.out hb)
  clear hb RG_5 RB_5 T_5 O_5
  refine hK _ _ RB_r5_7_6.out (fun _ => ?_)
  clear hK K
  try simp only [Act.put, List.setIfInBounds_toArray, List.set_cons_zero, List.set_cons_succ]
  refine wpAnyH_take (i := 7) (oi := ⟨some 23, _, _, _, _, _⟩) (v := ?vr5_8) rfl (by kernel_rfl) (by kernel_rfl) (by kernel_rfl) (fun _ _ _ h => h) (Or.inl ⟨by rfl, ?yr5_8⟩) RB_r5_7_6.out ?rr5_8
  case yr5_8 =>
    rintro w' hSw
    go_simp
    try with_reducible rfl
  try simp only [Act.put, List.setIfInBounds_toArray, List.set_cons_zero, List.set_cons_succ]
  refine wpAnyH_take (i := 8) (oi := ⟨some 24, _, _, _, _, _⟩) (v := ?vr5_9) rfl (by kernel_rfl) (by kernel_rfl) (by kernel_rfl) (fun _ _ _ h => h) (Or.inl ⟨by rfl, ?yr5_9⟩) RB_r5_7_6.out ?rr5_9
  case yr5_9 =>
    rintro w' hSw
    go_simp
    try with_reducible rfl
  try simp only [Act.put, List.setIfInBounds_toArray, List.set_cons_zero, List.set_cons_succ]
  refine wpAnyH_ready (rs := [9]) (by kernel_rfl) (by simp) ?_
  refine (AllReadyH.cons rfl (fun K hK => ?_) AllReadyH.nil)
  have f0 := RG_r5_7_6.out.frozen 0
  have k0 := RG_r5_7_6.out.cell 0
  have f1 := RG_r5_7_6.out.frozen 1
  have k1 := RG_r5_7_6.out.cell 1
  have f2 := RG_r5_7_6.out.frozen 2
  have k2 := RG_r5_7_6.out.cell 2
  have f3 := RG_r5_7_6.out.frozen 3
  have k3 := RG_r5_7_6.out.cell 3
  have f4 := RG_r5_7_6.out.frozen 4
  have k4 := RG_r5_7_6.out.cell 4
  simp only [List.getElem?_cons_zero, List.getElem?_cons_succ] at k0 k1 k2 k3 k4
  try rw [if_pos (by rfl)]
  go_simp
  clear f0 k0 f1 k1 f2 k2 f3 k3 f4 k4
  have RG_sr5_10 : Hid (Row ((((Xr5_7.setCell ⟨g, 1, none⟩ (.int .i64 m0)).setCell ⟨g, 2, none⟩ (.int .i64 m1)).setCell ⟨g, 3, none⟩ (.int .i64 m2)).setCell ⟨g, 4, none⟩ (.int .i64 m3)) (g) 66 [(Value.slice (some ⟨g2, 0, none⟩) (L.length + 1) cp), .int .i64 m0, .int .i64 m1, .int .i64 m2, .int .i64 m3]) := Lib.hid ((((RG_r5_7_6.out.store 1 (.int .i64 m0)).store 2 (.int .i64 m1)).store 3 (.int .i64 m2)).store 4 (.int .i64 m3))
  have RB_sr5_10 := Lib.hid ((((RB_r5_7_6.out.far (p := ⟨g, 1, none⟩) (by dsimp only; omega) (.int .i64 m0)).far (p := ⟨g, 2, none⟩) (by dsimp only; omega) (.int .i64 m1)).far (p := ⟨g, 3, none⟩) (by dsimp only; omega) (.int .i64 m2)).far (p := ⟨g, 4, none⟩) (by dsimp only; omega) (.int .i64 m3))
  have T_sr5_10 := Lib.hid (((((T_r5_7_6.out.set 1 (.int .i64 m0)).set 2 (.int .i64 m1)).set 3 (.int .i64 m2)).set 4 (.int .i64 m3)))
  have O_sr5_10 := Lib.hid ((own_set (own_set (own_set (own_set O_r5_7_6.out HN2.out 1 (.int .i64 m0)) HN2.out 2 (.int .i64 m1)) HN2.out 3 (.int .i64 m2)) HN2.out 4 (.int .i64 m3)))
  clear RG_r5_7_6 RB_r5_7_6 T_r5_7_6 O_r5_7_6
  generalize ((((Xr5_7.setCell ⟨g, 1, none⟩ (.int .i64 m0)).setCell ⟨g, 2, none⟩ (.int .i64 m1)).setCell ⟨g, 3, none⟩ (.int .i64 m2)).setCell ⟨g, 4, none⟩ (.int .i64 m3)) = Xr5_10 at RG_sr5_10 RB_sr5_10 T_sr5_10 O_sr5_10 ⊢
  refine hK _ _ RB_sr5_10.out (fun _ => ?_)
  clear hK K
  try simp only [Act.put, List.setIfInBounds_toArray, List.set_cons_zero, List.set_cons_succ]
  refine wpAnyH_done (by kernel_rfl) ?_ _
  go_wp2
  go_end0
  refine ⟨rfl, (Value.slice (some ⟨g2, 0, none⟩) (L.length + 1) cp), ⟨RG_sr5_10.out, ?_⟩, ?_⟩
  · rw [List.length_append]; exact O_sr5_10.out
  · exact ⟨T_sr5_10.out.os, T_sr5_10.out.tape, T_sr5_10.out.output, T_sr5_10.out.size, T_sr5_10.out.block, HNV.out⟩
end Go.Proofs.Ytbmfijcckdkmdaa.Ky
