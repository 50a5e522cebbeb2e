/-
  PageDecodes: which page any bytes and sectors are, or that they are none; for every row of them. No condition.
-/
import Derived.Test.YtnljhopikjkflaaPgZ
import Derived.Test.YtnljhopikjkflaaPgN
import Derived.Test.YtnljhopikjkflaaPgO
import Derived.Test.YtnljhopikjkflaaPgX
import Derived.Test.YtnljhopikjkflaaPgH
import Derived.Deep.Cut
import Derived.Deep.CutRange
import Derived.Great.BuildSlice
import Derived.Deep.SlicePairs
namespace Go.Proofs.Ytnljhopikjkflaa.PgDecodes
set_option maxRecDepth 100000
open Go.RowKit Go.Proofs.Ytnljhopikjkflaa.Wd Go.Proofs.Ytnljhopikjkflaa.Oct Go.Proofs.Ytnljhopikjkflaa.Dsk Go.Proofs.Ytnljhopikjkflaa.Rec Go.Proofs.Ytnljhopikjkflaa.Pg Go.ChangeShapes Go.WideShapes Go.ChangeAt

theorem own : ownKnob Try.prog.godebug = none := by kernel_rfl
theorem laidOut : laidOutB Try.prog = true := by kernel_rfl
theorem same_self (n : Int) (l : Nat) (f : Nat → List UInt8) : sameM n l f n l f = true := by simp [sameM, eq4]
/-- a row that came in: a number, bytes -/
structure RowX where
  num : Int
  A : Option Addr
  n : Nat
  c : Nat
  b : List UInt8
def RowX.cells (x : RowX) : List Value := [.int .i64 x.num, .slice x.A x.n x.c]
structure RowOk (W : World) (x : RowX) : Prop where
  sl : Sl W W.heap.size x.A x.n x.c x.b
  most : x.c ≤ 140737488351232
theorem cells_row : Try.prog.cellsOf 45 = 2 := by kernel_rfl
theorem row_fields : ∃ f0 f1 : Field, Try.prog.underlying 45 = some (.struct #[f0, f1]) ∧ (f0.type = 3 ∧ f1.type = 25) ∧ (f0.offset = 0 ∧ f1.offset = 1) :=
  ⟨_, _, Try.underlying45, ⟨rfl, rfl⟩, ⟨rfl, rfl⟩⟩
section
variable {H : Type} {enc : TypeId × Value → H} {W : World}
theorem open_row {fuel : Nat} {cs : List Value} {x : DataW H × List MemPlace} (h : DataW.trod enc Try.prog W 0 (fun _ => true) true fuel 45 cs = some x) (hw : (x.1.weights Try.prog 45).all (· ≤ reachBytes) = true) :
    ∃ o : RowX, cs = o.cells ∧ RowOk W o := by
  obtain ⟨f0, f1, hu, ⟨t0, t1⟩, ⟨o0, o1⟩⟩ := row_fields
  obtain ⟨xs, n, _, hx, hl, hlen, hf⟩ := DataW.trod_struct hu h
  rw [cells_row] at hl
  match xs, hlen, cs, hl with
  | [y0, y1], _, [v0, v1], _ =>
    have g0 := hf 0 f0 rfl
    have g1 := hf 1 f1 rfl
    simp [t0, t1, o0, o1, cells_int, cells_bs] at g0 g1
    obtain ⟨a0, e0, _, w0⟩ := DataW.trod_int Try.underlying3 g0
    obtain ⟨A1, n1, c1, l1, e1, s1, b1⟩ := open_bs g1 (by
      rw [List.all_eq_true] at hw ⊢
      intro z hz'
      refine hw z ?_
      rw [hx]
      have := DataW.weights_mem_each (P := Try.prog) (ts := (#[f0, f1] : Array Field).toList.map (·.type)) (ds := [y0.1, y1.1]) (j := 1) (t := 25) (d := y1.1) (by simp [t1]) rfl z hz'
      simp only [DataW.weights, hu]
      simpa using this)
    simp at e0 e1
    exact ⟨⟨a0, A1, n1, c1, l1⟩, by simp [RowX.cells, e0, e1], ⟨s1, b1⟩⟩
theorem open_rows {v : Value} {d : DataW H} {ps : List MemPlace} {base : Nat} (hval : Value.okWide Try.prog W .any base 43 v) (h : DataW.Trod enc Try.prog W 0 (fun _ => true) true 43 v d ps) (hw : (d.weights Try.prog 43).all (· ≤ reachBytes) = true) :
    ∃ A n c os, v = .slice A n c ∧ os.length = n ∧ n ≤ c ∧ (A = none → c = 0) ∧ c ≤ maxLen ∧ Lift.Many RowX.cells 2 W W.heap.size A os ∧ ∀ o ∈ os, RowOk W o :=
  Lift.open_many RowX.cells (RowOk W) 2 (by omega) (fun _ => rfl) Try.underlying43 cells_row (fun h1 h2 => open_row h1 h2) hval h hw
end

theorem wpList_buildOne {P : Program} {ops : Array Oper} {rest : List Oper} {o : Oper} {a : Act} {w : World} {Q : Exit → Act → World → Prop} (hgd : o.guard = none) (t e : TypeId) (x : Operand) (ho : o.op = .buildSlice t 1 #[(0, x)])
    (vs zs : List Value) (ie : TypeInfo) (hx : a.eval x = .agg vs.toArray) (hu : P.underlying t = some (.slice e)) (hie : P.info? e = some ie) (hz : ie.zero = some (.agg zs.toArray)) (hs : ie.size = zs.length) (hl : vs.length = zs.length) (hpos : 0 < zs.length) (hn : zs.length ≤ 1000)
    (h : wpList P ops Q rest (a.put o.dst (.slice (some ⟨w.heap.size, 0, none⟩) 1 1)) (w.alloc (.cells vs.toArray e))) : wpList P ops Q (o :: rest) a w :=
  wpList_plain hgd fun _ hK => wp_buildOne t e x ho vs zs ie hx hu hie hz hs hl hpos hn (hK _ _ h)
theorem decM_short (num : Int) (l : List UInt8) (k : Nat) (hk : k < 4) : ((decM num l).sl k).length ≤ 52 := by
  unfold decM
  split
  · split
    · split
      · simp [none_]
      · split
        · rename_i h
          exact (okM_iff.1 (good_parts h).1).2 k hk
        · simp [badP, none_]
    · simp [badP, none_]
  · simp [badP, none_]
theorem own_lo {lo hi base : Nat} {w w' : World} {v : Value} {l : List UInt8} (h : Pg.Own w base v l) (ho : Out lo hi w w') (hk : ∀ k, v.ownBlock = some k → k < lo) : Pg.Own w' base v l := by
  refine ⟨h.1, ?_⟩
  rcases h.2 with hn | ⟨g, cap, cur, rfl, hb2, hg, rest⟩
  · exact .inl hn
  · exact .inr ⟨g, cap, cur, rfl, hb2, (ho.block g (Array.getElem?_eq_some_iff.1 hg).1 (.inl (hk g rfl))).trans hg, rest⟩

theorem sec_of {W : World} {base k : Nat} {v : Value} {bb : List UInt8} (h : W.ownsRow base 55 64 v k (bv (bb.take (64 * k)))) (hk : 64 * k ≤ bb.length) : ∃ A c, v = .slice A k c ∧ SecAt W A k (bb.take (64 * k)) ∧ k ≤ c ∧ c ≤ maxLen ∧ (A = none → c = 0) := by
  have hlen : (bb.take (64 * k)).length = 64 * k := by rw [List.length_take]; omega
  rcases h.2 with ⟨rfl, rfl⟩ | ⟨g, cap, cur, rfl, hb, hg, hnc, hcm, hs, htk⟩
  · exact ⟨none, 0, rfl, ⟨hlen, fun h0 => by omega⟩, Nat.le_refl _, by decide, fun _ => rfl⟩
  · refine ⟨_, cap, rfl, ⟨hlen, fun _ => ⟨g, 0, rfl, (Array.getElem?_eq_some_iff.1 hg).1, fun j hj i u hu => ?_⟩⟩, hnc, hcm, by simp⟩
    have hi : i < 64 := by
      have := (List.getElem?_eq_some_iff.1 hu).1
      rw [bv_length, List.length_take] at this
      omega
    have hc := World.ownsRow.cellAt h (j * 64 + i) (by omega)
    rw [show 0 + j * 64 + i = j * 64 + i by omega, hc]
    simp only [bv, List.getElem?_map, List.getElem?_take, List.getElem?_drop] at hu ⊢
    rw [if_pos hi, if_pos (by omega)] at hu
    rw [if_pos (by omega), show j * 64 + i = 64 * j + i by omega]
    exact hu

set_option maxHeartbeats 16000000 in
theorem dec_walk (A : Option Addr) (n c : Nat) (os : List RowX) (w : World) (hl : os.length = n) (hnc : n ≤ c) (hc : c ≤ maxLen) (hos : Lift.Many RowX.cells 2 w w.heap.size A os) (hok : ∀ o ∈ os, RowOk w o) :
    Calls Try.prog 6 #[.slice A n c] w fun e w' => e = .returned (.bool true) ∧ Below w.heap.size w w' := by
  have mixed : Try.prog.follows .mixedOrders = true := by kernel_rfl
  obtain ⟨i0, hi0, hz0, hz1, hz2⟩ := info_parts info5
  obtain ⟨iB, hiB, hzB, hsB, hbB⟩ := info_parts info_blk
  unfold maxLen at hc
  have HL := Lib.hid hl
  have HOS := Lib.hid hos
  have HOK := Lib.hid hok
  clear hl hos hok
  go_enter Try.func6, Try.ntmps6
  go_wp2_with fail
  refine (wakes_any _).mono ?_
  rintro e w2 ⟨rfl, hb2⟩
  have HB2 := Lib.hid hb2
  clear hb2
  go_wp2_with fail
  go_loopw [19] (fun t19 wr => ∃ i : Nat, i ≤ n ∧ t19 = .int .i64 (i : Int) ∧ Hid (Below w.heap.size w wr)) (fun t19 _ => n - (intOf t19).toNat)
  case atStart => exact ⟨0, by omega, rfl, HB2⟩
  case round =>
    obtain ⟨i, hin, rfl, HE⟩ := hrel
    clear HB2
    by_cases hlt : i < n
    case neg =>
      have h1 : ¬ (i : Int) < (n : Int) := by omega
      go_wp2
      go_ret
      exact ⟨rfl, HE.out⟩
    obtain ⟨wo, hwo⟩ : ∃ wo : World, wo = wr := ⟨_, rfl⟩
    rw [← hwo] at HE ⊢
    clear hwo
    have h1 : (i : Int) < (n : Int) := by omega
    obtain ⟨x, hx⟩ : ∃ x, os[i]? = some x := ⟨_, List.getElem?_eq_getElem (by rw [HL.out]; exact hlt)⟩
    have HXO := Lib.hid (HOK.out x (List.mem_of_getElem? hx))
    obtain ⟨b, o, rfl, hblt, hcx⟩ := HOS.out (by rw [HL.out]; omega)
    have HC : Hid (wo.rangeAt b (o + i * 2) x.cells) := fun j v hj => (HE.out.cell (p := ⟨b, o + i * 2 + j, none⟩) hblt).trans (hcx i x hx j v hj)
    clear hx hcx
    obtain ⟨num, A1, n1, c1, l1⟩ := x
    unfold RowX.cells at HC
    dsimp only at HC
    have hx0 : wo.cell? ⟨b, o + i * 2, none⟩ = some (.int .i64 num) := HC.out 0 _ rfl
    have hx1 : wo.cell? ⟨b, o + i * 2 + 1, none⟩ = some (.slice A1 n1 c1) := HC.out 1 _ rfl
    have hi3 : 0 ≤ (i : Int) := by omega
    go_upto_region 6 with fail
    have RX6 : Hid (Row (wo.alloc (.cells #[.int .i64 num, .slice A1 n1 c1] 45)) wo.heap.size 45 [.int .i64 num, .slice A1 n1 c1]) := Row.new wo _ _
    have HB6 : Hid (Below w.heap.size w (wo.alloc (.cells #[.int .i64 num, .slice A1 n1 c1] 45))) := (show Below _ _ _ from HE.out.alloc HE.out.size _)
    generalize wo.alloc (.cells #[.int .i64 num, .slice A1 n1 c1] 45) = w6 at RX6 HB6 ⊢
    have HS1 : Hid (Sl w w.heap.size A1 n1 c1 l1) := HXO.out.sl
    have hn1c : n1 ≤ c1 := HXO.out.sl.cap
    have hc1m : c1 ≤ 140737488351232 := HXO.out.most
    have HWO : Hid (w.heap.size ≤ wo.heap.size) := HE.out.size
    clear HC hx0 hx1 HXO HE hi3
    generalize wo.heap.size = P4 at RX6 HWO ⊢
    by_cases h16 : i = 16
    · have h16b : ((i : Int) == 16) = true := by simp [h16]
      clear h16
      go_wp2
      go_ret
      exact ⟨rfl, HB6.out⟩
    have h16b : ((i : Int) == 16) = false := by simp; omega
    clear h16
    have hb0 : w6.cell? ⟨P4, 0, none⟩ = some (.int .i64 num) := RX6.out.cell 0
    have hb1 : w6.cell? ⟨P4, 1, none⟩ = some (.slice A1 n1 c1) := RX6.out.cell 1
    obtain ⟨m, hme⟩ : ∃ m : Nat, (if 300 < (n1 : Int) then (300 : Int) else (n1 : Int)) = (m : Int) := ⟨min 300 n1, by split <;> omega⟩
    have hm1 : m = min 300 n1 := by split at hme <;> omega
    have hm300 : m ≤ 300 := by omega
    have hmn : (m : Int) ≤ (n1 : Int) := by omega
    have hmc : (m : Int) ≤ (c1 : Int) := by omega
    have HSB : Hid (Sl w w.heap.size A1 m c1 (l1.take 300)) := Pg.Sl.pre HS1.out 300 _ hm1
    obtain ⟨bb, hbb⟩ : ∃ bb, bb = l1.take 300 := ⟨_, rfl⟩
    rw [← hbb] at HSB
    clear hbb hm1
    have HSZ6 := Lib.hid HB6.out.size
    have hb1a : (w6.alloc (.cells #[] 5)).cell? ⟨P4, 1, none⟩ = some (.slice A1 n1 c1) := (RX6.out.alloc _).cell 1
    go_upto_region 8 with (first
      | (at_builtin; (refine wpList_append_bs (o := ⟨some 34, _, _, _, _, _⟩) rfl (.tmp 26) (.tmp 33) 25 rfl w6.heap.size 5 i0 (.int .u8 0) Try.underlying25 hi0 hz0 hz1 hz2 rfl (.slice (some ⟨w6.heap.size, 0, none⟩) 0 0) 0 (bv []) rfl (Own.of_row (l := []) (Row.new w6 _ _) (Nat.le_refl _) rfl (Nat.zero_le _)) A1 m c1 bb rfl HSB.out.len w.heap.size ((HSB.out.bs.below HB6.out).alloc HSZ6.out _) HSB.out.nil (by omega) (by simp) ?_; intro v5 w7 hown7 hg7; have HG7 : Hid (Below w6.heap.size w6 w7) := Lib.hid (((Below.refl _ _).alloc (Nat.le_refl _) _).trans (below_own hg7 (fun k hk => by cases hk; exact Nat.le_refl _) (by simp))); have HV7 : Hid (Pg.Own w7 w6.heap.size v5 bb) := Lib.hid (show Pg.Own w7 w6.heap.size v5 bb from (by have hh := hown7; rw [show bv ([] : List UInt8) = [] from rfl, List.nil_append, Nat.zero_add] at hh; unfold Pg.Own; rw [HSB.out.len]; exact hh)); clear hown7 hg7)))
    have HB7 := Lib.hid (HB6.out.trans (HG7.out.mono HSZ6.out))
    have RX7 := Lib.hid (RX6.out.below HG7.out RX6.out.lt)
    obtain ⟨A5, n5, c5, rfl, hl5, hc5, hm5, hnil5, hbs5⟩ := HV7.out.open
    have HL5 := Lib.hid hl5
    have HC5 := Lib.hid hc5
    have HN5 := Lib.hid hnil5
    have HBS5 := Lib.hid hbs5
    have HBL : Hid (bb.length = m) := HSB.out.len
    obtain rfl : n5 = m := by rw [← hl5]; exact HBL.out
    have HZ7 : Hid (w6.heap.size ≤ w7.heap.size) := HG7.out.size
    clear hb0 hb1 hb1a hl5 hc5 hm5 hnil5 hbs5 RX6 HB6 HG7 HSB HS1
    go_upto_region 9 with (first
      | (at_builtin; (refine wpList_append_bs (o := ⟨some 37, _, _, _, _, _⟩) rfl (.tmp 35) (.tmp 36) 25 rfl w7.heap.size 5 i0 (.int .u8 0) Try.underlying25 hi0 hz0 hz1 hz2 rfl (.slice (some ⟨w7.heap.size, 0, none⟩) 0 0) 0 (bv []) rfl (Own.of_row (l := []) (Row.new w7 _ _) (Nat.le_refl _) rfl (Nat.zero_le _)) A5 n5 c5 bb rfl HL5.out w7.heap.size (HBS5.out.alloc (Nat.le_refl _) _) HN5.out (by omega) (by simp) ?_; intro v6 w8 hown8 hg8; have HG8 : Hid (Below w7.heap.size w7 w8) := Lib.hid (((Below.refl _ _).alloc (Nat.le_refl _) _).trans (below_own hg8 (fun k hk => by cases hk; exact Nat.le_refl _) (by simp))); have HV8 : Hid (Pg.Own w8 w7.heap.size v6 bb) := Lib.hid (show Pg.Own w8 w7.heap.size v6 bb from (by have hh := hown8; rw [show bv ([] : List UInt8) = [] from rfl, List.nil_append, Nat.zero_add] at hh; unfold Pg.Own; rw [HL5.out]; exact hh)); clear hown8 hg8)))
    have HB8 := Lib.hid (HB7.out.trans (HG8.out.mono HB7.out.size))
    have RX8 := Lib.hid (RX7.out.below HG8.out RX7.out.lt)
    have HVb := Lib.hid (HV7.out.below HG8.out)
    obtain ⟨A6, n6, c6, rfl, hl6, hc6, hm6, hnil6, hbs6⟩ := HV8.out.open
    have HL6 := Lib.hid hl6
    obtain rfl : n6 = n5 := by rw [← hl6]; exact HBL.out
    have hb0 : w8.cell? ⟨P4, 0, none⟩ = some (.int .i64 num) := RX8.out.cell 0
    have HDE := Lib.hid (decode_any num A6 n6 c6 bb w8 hl6 (by omega) hbs6 hnil6)
    obtain ⟨D, hD⟩ : ∃ D, D = decM num bb := ⟨_, rfl⟩
    rw [← hD] at HDE
    have HD := Lib.hid hD
    unfold DecP at HDE
    have HSZ8 : Hid (w7.heap.size ≤ w8.heap.size) := HG8.out.size
    clear hD hl6 hc6 hm6 hnil6 hbs6 HB7 RX7 HG8 HV7 HBS5 HN5 HL5
    go_wp2_with fail
    refine HDE.out.mono ?_
    rintro e w9 ⟨s9, rfl, hpo9, hb9⟩
    have HB9 := Lib.hid (HB8.out.trans (hb9.mono HB8.out.size))
    have RX9 := Lib.hid (RX8.out.below hb9 RX8.out.lt)
    have HVb9 := Lib.hid (HVb.out.below hb9)
    have HV9 := Lib.hid (HV8.out.below hb9)
    have HP9 := Lib.hid hpo9
    have HZ9 : Hid (w8.heap.size ≤ w9.heap.size) := hb9.size
    have HKB8 : Hid (∀ k, (Value.slice A5 n6 c5).ownBlock = some k → k < w8.heap.size) := (show ∀ k, _ → _ from fun k hk => (World.ownsRow.lt HVb.out k hk).2)
    have HKO8 : Hid (∀ k, (Value.slice A6 n6 c6).ownBlock = some k → k < w8.heap.size) := (show ∀ k, _ → _ from fun k hk => (World.ownsRow.lt HV8.out k hk).2)
    have HK48 : Hid (P4 < w8.heap.size) := RX8.out.lt
    have HM9a : Hid (∀ k, k < 4 → s9.n k ≤ 100000) := (show ∀ k, _ → _ from fun k hk => by rw [← HP9.out.at_.lens k hk, HD.out]; exact Nat.le_trans (decM_short num bb k hk) (by omega))
    clear hpo9 hb9 HDE hb0 RX8 HVb HV8
    unfold pcs
    go_upto_region 10 with fail
    have R7 : Hid (Row (w9.alloc (.cells #[.int .i64 D.num, .int .u64 (D.lsn : Int), .slice (s9.A 0) (s9.n 0) (s9.c 0), .slice (s9.A 1) (s9.n 1) (s9.c 1), .slice (s9.A 2) (s9.n 2) (s9.c 2), .slice (s9.A 3) (s9.n 3) (s9.c 3)] 48)) w9.heap.size 48 (pcs D.num D.lsn s9)) := Row.new w9 _ _
    have hbx : Below w9.heap.size w9 (w9.alloc (.cells #[.int .i64 D.num, .int .u64 (D.lsn : Int), .slice (s9.A 0) (s9.n 0) (s9.c 0), .slice (s9.A 1) (s9.n 1) (s9.c 1), .slice (s9.A 2) (s9.n 2) (s9.c 2), .slice (s9.A 3) (s9.n 3) (s9.c 3)] 48)) := (Below.refl _ _).alloc (Nat.le_refl _) _
    generalize w9.alloc (.cells #[.int .i64 D.num, .int .u64 (D.lsn : Int), .slice (s9.A 0) (s9.n 0) (s9.c 0), .slice (s9.A 1) (s9.n 1) (s9.c 1), .slice (s9.A 2) (s9.n 2) (s9.c 2), .slice (s9.A 3) (s9.n 3) (s9.c 3)] 48) = w10 at R7 hbx ⊢
    have HB10 := Lib.hid (HB9.out.trans (hbx.mono HB9.out.size))
    have RX10 := Lib.hid (RX9.out.below hbx RX9.out.lt)
    have HVb10 := Lib.hid (HVb9.out.below hbx)
    have HV10 := Lib.hid (HV9.out.below hbx)
    have HP10 := Lib.hid (HP9.out.below hbx)
    have HO10 := Lib.hid (HP9.out.os.out (Out.of (lo := w9.heap.size) (hi := w9.heap.size) hbx) (.inl (Nat.le_refl _)))
    have HZ10 : Hid (w9.heap.size < w10.heap.size) := R7.out.lt
    have HB10s : Hid (w.heap.size ≤ w10.heap.size) := HB10.out.size
    have HKb : Hid (∀ k, (Value.slice A5 n6 c5).ownBlock = some k → k < w8.heap.size) := HKB8.out
    have HKo : Hid (∀ k, (Value.slice A6 n6 c6).ownBlock = some k → k < w8.heap.size) := HKO8.out
    have HK4 : Hid (P4 < w8.heap.size) := HK48.out
    clear hbx HB9 RX9 HVb9 HV9 HP9 HKB8 HKO8 HK48
    have hb0 : w10.cell? ⟨P4, 0, none⟩ = some (.int .i64 num) := RX10.out.cell 0
    have HZ98 := HZ9.out
    obtain ⟨Az, nz, cz, hez, hlz, hcz, -, -, hbz⟩ := HVb10.out.open
    cases hez
    have HDE := Lib.hid (rdec_any num A5 n6 c5 bb w10 hlz (by omega) hcz hbz)
    rw [← HD.out] at HDE
    unfold DecP at HDE
    clear hlz hcz hbz
    go_wp2_with fail
    refine HDE.out.mono ?_
    rintro e w11 ⟨s11, rfl, hpo, hb11⟩
    have HP11 := Lib.hid hpo
    have HZ11 : Hid (w10.heap.size ≤ w11.heap.size) := hb11.size
    have HB11 := Lib.hid (HB10.out.trans (hb11.mono HB10.out.size))
    have RX11 := Lib.hid (RX10.out.below hb11 RX10.out.lt)
    have R711 := Lib.hid (R7.out.below hb11 R7.out.lt)
    have HVb11 := Lib.hid (HVb10.out.below hb11)
    have HV11 := Lib.hid (HV10.out.below hb11)
    have HPo11 := Lib.hid (HP10.out.below hb11)
    have HO11 := Lib.hid (HO10.out.out (Out.of (lo := w9.heap.size) (hi := w9.heap.size) hb11) (.inl (Nat.le_refl _)))
    clear hpo hb11 HDE hb0 HB10 RX10 R7 HVb10 HV10 HP10 HO10
    unfold pcs
    go_upto_region 11 with fail
    have R9 : Hid (Row (w11.alloc (.cells #[.int .i64 D.num, .int .u64 (D.lsn : Int), .slice (s11.A 0) (s11.n 0) (s11.c 0), .slice (s11.A 1) (s11.n 1) (s11.c 1), .slice (s11.A 2) (s11.n 2) (s11.c 2), .slice (s11.A 3) (s11.n 3) (s11.c 3)] 48)) w11.heap.size 48 (pcs D.num D.lsn s11)) := Row.new w11 _ _
    have hbx : Below w11.heap.size w11 (w11.alloc (.cells #[.int .i64 D.num, .int .u64 (D.lsn : Int), .slice (s11.A 0) (s11.n 0) (s11.c 0), .slice (s11.A 1) (s11.n 1) (s11.c 1), .slice (s11.A 2) (s11.n 2) (s11.c 2), .slice (s11.A 3) (s11.n 3) (s11.c 3)] 48)) := (Below.refl _ _).alloc (Nat.le_refl _) _
    generalize w11.alloc (.cells #[.int .i64 D.num, .int .u64 (D.lsn : Int), .slice (s11.A 0) (s11.n 0) (s11.c 0), .slice (s11.A 1) (s11.n 1) (s11.c 1), .slice (s11.A 2) (s11.n 2) (s11.c 2), .slice (s11.A 3) (s11.n 3) (s11.c 3)] 48) = w12 at R9 hbx ⊢
    have HB12 := Lib.hid (HB11.out.trans (hbx.mono HB11.out.size))
    have RX12 := Lib.hid (RX11.out.below hbx RX11.out.lt)
    have R712 := Lib.hid (R711.out.below hbx R711.out.lt)
    have HVb12 := Lib.hid (HVb11.out.below hbx)
    have HV12 := Lib.hid (HV11.out.below hbx)
    have HPo12 := Lib.hid (HPo11.out.below hbx)
    have HPw12 := Lib.hid (HP11.out.below hbx)
    have HO12 := Lib.hid (HO11.out.out (Out.of (lo := w9.heap.size) (hi := w9.heap.size) hbx) (.inl (Nat.le_refl _)))
    clear hbx HB11 RX11 R711 HVb11 HV11 HPo11 HP11 HO11
    have hc0 : w12.cell? ⟨w9.heap.size, 0, none⟩ = some (.int .i64 D.num) := R712.out.cell 0
    have hc1 : w12.cell? ⟨w9.heap.size, 1, none⟩ = some (.int .u64 (D.lsn : Int)) := R712.out.cell 1
    have hc2 : w12.cell? ⟨w9.heap.size, 2, none⟩ = some (.slice (s9.A 0) (s9.n 0) (s9.c 0)) := R712.out.cell 2
    have hc3 : w12.cell? ⟨w9.heap.size, 3, none⟩ = some (.slice (s9.A 1) (s9.n 1) (s9.c 1)) := R712.out.cell 3
    have hc4 : w12.cell? ⟨w9.heap.size, 4, none⟩ = some (.slice (s9.A 2) (s9.n 2) (s9.c 2)) := R712.out.cell 4
    have hc5 : w12.cell? ⟨w9.heap.size, 5, none⟩ = some (.slice (s9.A 3) (s9.n 3) (s9.c 3)) := R712.out.cell 5
    have hd0 : w12.cell? ⟨w11.heap.size, 0, none⟩ = some (.int .i64 D.num) := R9.out.cell 0
    have hd1 : w12.cell? ⟨w11.heap.size, 1, none⟩ = some (.int .u64 (D.lsn : Int)) := R9.out.cell 1
    have hd2 : w12.cell? ⟨w11.heap.size, 2, none⟩ = some (.slice (s11.A 0) (s11.n 0) (s11.c 0)) := R9.out.cell 2
    have hd3 : w12.cell? ⟨w11.heap.size, 3, none⟩ = some (.slice (s11.A 1) (s11.n 1) (s11.c 1)) := R9.out.cell 3
    have hd4 : w12.cell? ⟨w11.heap.size, 4, none⟩ = some (.slice (s11.A 2) (s11.n 2) (s11.c 2)) := R9.out.cell 4
    have hd5 : w12.cell? ⟨w11.heap.size, 5, none⟩ = some (.slice (s11.A 3) (s11.n 3) (s11.c 3)) := R9.out.cell 5
    have HEN := Lib.hid (rsame_any D.num D.lsn s9 D.sl D.num D.lsn s11 D.sl w12.heap.size w12 HPo12.out.at_ HPw12.out.at_ (Nat.le_refl _))
    rw [same_self] at HEN
    unfold pcs at HEN
    go_wp2_with fail
    refine HEN.out.mono ?_
    rintro e w13 ⟨rfl, hb⟩
    have HB13 := Lib.hid (HB12.out.trans (hb.mono HB12.out.size))
    have RX13 := Lib.hid (RX12.out.below hb RX12.out.lt)
    have R713 := Lib.hid (R712.out.below hb R712.out.lt)
    have R913 := Lib.hid (R9.out.below hb R9.out.lt)
    have HVb13 := Lib.hid (HVb12.out.below hb)
    have HV13 := Lib.hid (HV12.out.below hb)
    have HPw13 := Lib.hid (HPw12.out.below hb)
    have HO13 := Lib.hid (HO12.out.out (Out.of (lo := w9.heap.size) (hi := w9.heap.size) hb) (.inl (Nat.le_refl _)))
    have HM9 : Hid (∀ k, k < 4 → s9.n k ≤ 100000) := HM9a.out
    clear hb HEN hc0 hc1 hc2 hc3 hc4 hc5 hd0 hd1 hd2 hd3 hd4 hd5 HB12 RX12 R712 R9 HVb12 HV12 HPw12 HPo12 HO12
    have hc0 : w13.cell? ⟨w9.heap.size, 0, none⟩ = some (.int .i64 D.num) := R713.out.cell 0
    have hc1 : w13.cell? ⟨w9.heap.size, 1, none⟩ = some (.int .u64 (D.lsn : Int)) := R713.out.cell 1
    have hc2 : w13.cell? ⟨w9.heap.size, 2, none⟩ = some (.slice (s9.A 0) (s9.n 0) (s9.c 0)) := R713.out.cell 2
    have hc3 : w13.cell? ⟨w9.heap.size, 3, none⟩ = some (.slice (s9.A 1) (s9.n 1) (s9.c 1)) := R713.out.cell 3
    have hc4 : w13.cell? ⟨w9.heap.size, 4, none⟩ = some (.slice (s9.A 2) (s9.n 2) (s9.c 2)) := R713.out.cell 4
    have hc5 : w13.cell? ⟨w9.heap.size, 5, none⟩ = some (.slice (s9.A 3) (s9.n 3) (s9.c 3)) := R713.out.cell 5
    have HSP := Lib.hid (spoil_any D.num D.lsn s9 w8.heap.size w9.heap.size w13 HO13.out (by have := R713.out.lt; omega) HM9.out)
    unfold pcs at HSP
    go_wp2_with fail
    refine HSP.out.mono ?_
    rintro e w14 ⟨rfl, hout⟩
    have HOUT : Hid (Out w8.heap.size w9.heap.size w13 w14) := hout
    have HLO : Hid (w8.heap.size ≤ w13.heap.size) := (show _ ≤ _ from by have := R713.out.lt; omega)
    have HB14 := Lib.hid (HB13.out.trans ((HOUT.out.below HLO.out).mono HB8.out.size))
    have RX14 := Lib.hid (Pg.Row.out RX13.out HOUT.out (.inl HK4.out))
    have R914 := Lib.hid (Pg.Row.out R913.out HOUT.out (.inr (by have := HZ10.out; have := HZ11.out; omega)))
    have HVb14 := Lib.hid (own_lo HVb13.out HOUT.out HKb.out)
    have HV14 := Lib.hid (own_lo HV13.out HOUT.out HKo.out)
    have HPw14 := Lib.hid (HPw13.out.out HOUT.out (by have := HZ10.out; omega))
    have HZ14 : Hid (w11.heap.size < w14.heap.size) := R914.out.lt
    clear hout HSP hc0 hc1 hc2 hc3 hc4 hc5 HO13 HB13 RX13 R713 R913 HVb13 HV13 HPw13 HOUT HLO
    obtain ⟨Az, nz, cz, hez, hlz, -, -, -, hbz⟩ := HVb14.out.open
    cases hez
    obtain ⟨Ay, ny, cy, hey, hly, -, -, -, hby⟩ := HV14.out.open
    cases hey
    have HEQ := Lib.hid ((bytesEq_any A6 A5 n6 c6 n6 c5 bb bb w14.heap.size w14.heap.size w14 hly hlz hby hbz).mono (fun e w' h => (⟨by rw [h.1]; simp, h.2⟩ : e = .returned (.bool true) ∧ w14 = w')))
    clear hlz hbz hly hby HV14
    go_wp2_with fail
    refine HEQ.out.mono ?_
    rintro e w15 ⟨rfl, rfl⟩
    clear HEQ
    go_wp2_with fail
    have HS0 : Hid (w14.ownsRow w14.heap.size 55 64 (.slice none 0 0) 0 (bv (bb.take (64 * 0))) ∧ Below w14.heap.size w14 w14) := ⟨World.ownsRow_nil _ _ _ _, Below.refl _ _⟩
    go_loopw [11, 12] (fun t11 t12 wr => ∃ (k : Nat) (v : Value), 64 * k ≤ n6 ∧ t11 = v ∧ t12 = .int .i64 (k : Int) ∧ Hid (wr.ownsRow w14.heap.size 55 64 v k (bv (bb.take (64 * k))) ∧ Below w14.heap.size w14 wr)) (fun _ t _ => 10 - (intOf t).toNat)
    case atStart => exact ⟨0, _, by omega, rfl, rfl, HS0⟩
    case round =>
      obtain ⟨k, v, hk6, rfl, rfl, HI⟩ := hrel
      clear HS0
      obtain ⟨wk, hwk⟩ : ∃ wk : World, wk = wr := ⟨_, rfl⟩
      rw [← hwk] at HI ⊢
      clear hwk
      have hk4 : k ≤ 4 := by omega
      obtain ⟨q, hq⟩ : ∃ q, q = 64 * k := ⟨_, rfl⟩
      obtain ⟨r, hr⟩ : ∃ r, r = q + 64 := ⟨_, rfl⟩
      have h64 : 64 * (k : Int) = (q : Int) := by omega
      have hwq : IntKind.i64.wrap (q : Int) = (q : Int) := by simp [IntKind.wrap, IntKind.signed, IntKind.bits]; omega
      have hqr : (q : Int) + 64 = (r : Int) := by omega
      have hwr : IntKind.i64.wrap (r : Int) = (r : Int) := by simp [IntKind.wrap, IntKind.signed, IntKind.bits]; omega
      by_cases hrn : r ≤ n6
      · have hri : (r : Int) ≤ (n6 : Int) := by omega
        have hrc : (r : Int) ≤ (c5 : Int) := by have := HC5.out; omega
        have hqri : (q : Int) ≤ (r : Int) := by omega
        have hrq : r - q = 64 := by omega
        have hcq : ¬ c5 = q := by have := HC5.out; omega
        have hrp : 0 < n6 := by omega
        have HOB : Hid (Pg.Own wk w6.heap.size (.slice A5 n6 c5) bb) := (show Pg.Own _ _ _ _ from HVb14.out.below HI.out.2)
        obtain ⟨gb, rfl⟩ : ∃ gb, A5 = some ⟨gb, 0, none⟩ := by
          rcases HOB.out.2 with ⟨h0, hn0⟩ | ⟨g', cap', cur, hv, -⟩
          · have := HBL.out; omega
          · cases hv; exact ⟨g', rfl⟩
        obtain ⟨ch, hch⟩ : ∃ ch, ch = bv ((bb.drop q).take 64) := ⟨_, rfl⟩
        have hpl : ch.length = 64 := by rw [hch, bv_length, List.length_take, List.length_drop, HBL.out]; omega
        have HRG : Hid (wk.rangeAt gb q ch) := (show World.rangeAt _ _ _ _ from by
          have h0 := HOB.out
          rw [hch]
          have hl6 := HBL.out
          subst hl6
          exact own_part h0 q 64)
        have HSZ : Hid ((Try.prog.info? 55).map (·.size) = some ch.length) := (show _ = _ by rw [hpl]; exact size58)
        have HNX : Hid (bv (bb.take (64 * (k + 1))) = bv (bb.take (64 * k)) ++ ch) := (show _ = _ by rw [hch, hq, show 64 * (k + 1) = 64 * k + 64 by omega, List.take_add, bv_append])
        have H1C : Hid (∀ u ∈ ch, u.oneCell' = true) := (show ∀ u ∈ ch, _ by rw [hch]; exact bv_one)
        have HPL := Lib.hid hpl
        have HQ := Lib.hid hq
        have HRR := Lib.hid hr
        have HWS : Hid (w14.heap.size ≤ wk.heap.size) := HI.out.2.size
        have OW3 := Lib.hid (World.ownsRow.alloc HI.out.1 (.cells ch.toArray 55))
        have RN3 := Lib.hid (Row.new wk 55 ch)
        have HB3 : Hid (Below w14.heap.size w14 (wk.alloc (.cells ch.toArray 55))) := (show Below _ _ _ from HI.out.2.alloc HWS.out _)
        have HS64 : Hid (iB.size = (bv (List.replicate 64 0)).length) := (show _ = _ by rw [hsB, bv_length, List.length_replicate])
        have HL64 : Hid (ch.length = (bv (List.replicate 64 0)).length) := (show _ = _ by rw [hpl, bv_length, List.length_replicate])
        have HP64 : Hid (0 < (bv (List.replicate 64 0)).length) := (show _ < _ by rw [bv_length, List.length_replicate]; omega)
        have HT64 : Hid ((bv (List.replicate 64 0)).length ≤ 1000) := (show _ ≤ _ by rw [bv_length, List.length_replicate]; omega)
        clear hch hq hr hpl
        have harr := fun W => run_arrayAt (P := Try.prog) W 55 5 64 (some ⟨gb, q, none⟩) 64 (c5 - q) Try.underlying55 (by omega)
        go_upto_region 19 with (first
          | (with_reducible refine wpList_load_mid (op := ⟨some 84, _, _, _, _, _⟩) rfl 55 (.tmp 83) rfl gb q ?_ ch _ HRG.out Try.underlying55 rfl HSZ.out ?_)
          | (with_reducible refine wpList_buildOne (o := ⟨some 85, _, _, _, _, _⟩) rfl 53 55 (.tmp 84) rfl ch (bv (List.replicate 64 0)) iB ?_ Try.underlying53 hiB hzB HS64.out HL64.out HP64.out HT64.out ?_)
          | (at_builtin; (refine wpList_append_own _ rfl (.tmp 75) (.tmp 85) 53 rfl w14.heap.size 55 iB _ 64 64 Try.underlying53 hiB hzB hsB hbB rfl (by decide) _ k (bv (bb.take (64 * k))) rfl OW3.out ⟨wk.heap.size, 0, none⟩ 1 1 ch rfl HPL.out (fun j u hu => by rw [Addr.add_lit, Nat.zero_add, RN3.out.cell]; exact hu) H1C.out (by unfold maxLen; omega) (by omega) HB3.out.size ?_; intro v2 w5 hown5 hg5 _)))
        all_goals try (first | rfl | (simp [Act.eval, go_sem]; done))
        have HN : Hid (w5.ownsRow w14.heap.size 55 64 v2 (k + 1) (bv (bb.take (64 * (k + 1)))) ∧ Below w14.heap.size w14 w5) := ⟨by rw [HNX.out]; exact hown5, HB3.out.grown hg5 HB3.out.size (fun k hk => (World.ownsRow.lt OW3.out k hk).1)⟩
        have hkn : 64 * (k + 1) ≤ n6 := by have := HQ.out; have := HRR.out; omega
        clear hown5 hg5 OW3 RN3 HB3 HRG HOB harr HI
        go_wp2
        go_roundw
        case rel => exact ⟨k + 1, v2, hkn, rfl, by go_num, HN⟩
        case measure => simp [intOf]; omega
      · have hri : ¬ (r : Int) ≤ (n6 : Int) := by omega
        obtain ⟨A7, c7, rfl, hsec, hk7, hc7, hn7⟩ := sec_of HI.out.1 (by rw [HBL.out]; exact hk6)
        have HB_k := Lib.hid (HB14.out.trans (HI.out.2.mono HB14.out.size))
        have RX_k := Lib.hid (RX14.out.below HI.out.2 RX14.out.lt)
        have R9_k := Lib.hid (R914.out.below HI.out.2 R914.out.lt)
        have HVb_k := Lib.hid (HVb14.out.below HI.out.2)
        have HW_k : Hid (w14.heap.size ≤ wk.heap.size) := HI.out.2.size
        have hb0 : wk.cell? ⟨P4, 0, none⟩ = some (.int .i64 num) := RX_k.out.cell 0
        obtain ⟨D2, hD2⟩ : ∃ D, D = decM num (bb.take (64 * k)) := ⟨_, rfl⟩
        have HOF := Lib.hid (of_any num A7 k c7 (bb.take (64 * k)) wk hsec hk7 (by omega) hn7)
        rw [show min k 5 = k by omega, List.take_take, Nat.min_self, ← hD2] at HOF
        have HD2 := Lib.hid hD2
        unfold DecP at HOF
        have HKQ : Hid (64 * k ≤ n6 ∧ n6 < 64 * k + 64) := (show _ ∧ _ by omega)
        have hkc7 : (k : Int) ≤ (c7 : Int) := by omega
        clear hD2 hsec hn7 hq hr HB14 RX14 R914 HVb14 HPw14 HI hrn
        go_wp2_with fail
        refine HOF.out.mono ?_
        rintro e w15 ⟨s15, rfl, hpo, hb⟩
        have HB15 := Lib.hid (HB_k.out.trans (hb.mono HB_k.out.size))
        have RX15 := Lib.hid (RX_k.out.below hb RX_k.out.lt)
        have R915 := Lib.hid (R9_k.out.below hb R9_k.out.lt)
        have HVb15 := Lib.hid (HVb_k.out.below hb)
        have HP15 := Lib.hid hpo
        have HW15 : Hid (wk.heap.size ≤ w15.heap.size) := hb.size
        clear hb hpo HOF hb0 HB_k RX_k R9_k HVb_k
        unfold pcs
        go_upto_region 23 with fail
        have R6 : Hid (Row (w15.alloc (.cells #[.int .i64 D2.num, .int .u64 (D2.lsn : Int), .slice (s15.A 0) (s15.n 0) (s15.c 0), .slice (s15.A 1) (s15.n 1) (s15.c 1), .slice (s15.A 2) (s15.n 2) (s15.c 2), .slice (s15.A 3) (s15.n 3) (s15.c 3)] 48)) w15.heap.size 48 (pcs D2.num D2.lsn s15)) := Row.new w15 _ _
        have hbx : Below w15.heap.size w15 (w15.alloc (.cells #[.int .i64 D2.num, .int .u64 (D2.lsn : Int), .slice (s15.A 0) (s15.n 0) (s15.c 0), .slice (s15.A 1) (s15.n 1) (s15.c 1), .slice (s15.A 2) (s15.n 2) (s15.c 2), .slice (s15.A 3) (s15.n 3) (s15.c 3)] 48)) := (Below.refl _ _).alloc (Nat.le_refl _) _
        generalize w15.alloc (.cells #[.int .i64 D2.num, .int .u64 (D2.lsn : Int), .slice (s15.A 0) (s15.n 0) (s15.c 0), .slice (s15.A 1) (s15.n 1) (s15.c 1), .slice (s15.A 2) (s15.n 2) (s15.c 2), .slice (s15.A 3) (s15.n 3) (s15.c 3)] 48) = w16 at R6 hbx ⊢
        have HB16 := Lib.hid (HB15.out.trans (hbx.mono HB15.out.size))
        have RX16 := Lib.hid (RX15.out.below hbx RX15.out.lt)
        have R916 := Lib.hid (R915.out.below hbx R915.out.lt)
        have HVb16 := Lib.hid (HVb15.out.below hbx)
        have HP16 := Lib.hid (HP15.out.below hbx)
        have HW16 : Hid (w15.heap.size < w16.heap.size) := R6.out.lt
        clear hbx HB15 RX15 R915 HVb15 HP15
        have hb0 : w16.cell? ⟨P4, 0, none⟩ = some (.int .i64 num) := RX16.out.cell 0
        by_cases hn0 : num < 0
        · skip
          have HZ : Hid (D2 = badP 2) := (show _ = _ by rw [HD2.out]; unfold decM; rw [if_neg (by omega)])
          obtain ⟨he1, he2, he3, he4⟩ : D2.err = 2 ∧ D2.num = 0 ∧ D2.lsn = 0 ∧ D2.sl = none_ := by rw [HZ.out]; exact ⟨rfl, rfl, rfl, rfl⟩
          have HE2 := Lib.hid he2
          have HE3 := Lib.hid he3
          have HE4 := Lib.hid he4
          rw [he1]
          clear he1 he2 he3 he4
          have HONE : Hid (∀ v ∈ pcs 0 0 zs, v.oneCell' = true) := pcs_one
          have HPI : Hid ((Try.prog.info? 48).map (·.size) = some (pcs 0 0 zs).length) := page_info
          have HLE : Hid ((pcs 0 0 zs).length = (pcs D.num D.lsn s11).length) := (rfl : _ = _)
          go_wp2_with ((with_reducible refine wpList_store_whole (op := ⟨none, _, _, _, _, _⟩) ?_ 48 (.tmp 9) (.tmp 111) ?_ w11.heap.size (pcs 0 0 zs) ?_ ?_ 48 (pcs D.num D.lsn s11) R916.out HLE.out HONE.out HPI.out ?_))
          all_goals try (first | rfl | (simp; done))
          intro w17 hr17 hg17
          have Rw_w17 : Hid (Row w17 w11.heap.size 48 (pcs D2.num D2.lsn zs)) := (show Row _ _ _ _ by rw [HE2.out, HE3.out]; exact hr17)
          have HQ := HZ11.out
          have R6_w17 := Lib.hid (R6.out.grown hg17 (by intro hh; have := Option.some.inj hh; have := HZ14.out; have := HW_k.out; have := HW15.out; omega))
          have HB_w17 := Lib.hid (HB16.out.grown hg17 HB16.out.size (fun k hk => by have := Option.some.inj hk; have := HB10s.out; omega))
          have HP_w17 : Hid (PO w17 wk.heap.size D2.sl s15) := (show PO _ _ _ _ from fun j hj => ((HP16.out j hj).kept hg17 (own_ne (HP16.out j hj) R916.out (by decide))))
          have PW : Hid (PgAt w17 w17.heap.size D2.sl zs) := (show PgAt _ _ _ _ by rw [HE4.out]; exact (PO.nil w17 0).at_)
          clear hr17 hg17 HQ R916 RX16 HVb16 HB16 HP16 R6 hb0 HE2 HE3 HE4
          have HEN := Lib.hid (rsame_any D2.num D2.lsn s15 D2.sl D2.num D2.lsn zs D2.sl w17.heap.size w17 HP_w17.out.at_ PW.out (Nat.le_refl _))
          rw [same_self] at HEN
          unfold pcs at HEN
          have hc0 : w17.cell? ⟨w15.heap.size, 0, none⟩ = some (.int .i64 D2.num) := R6_w17.out.cell 0
          have hc1 : w17.cell? ⟨w15.heap.size, 1, none⟩ = some (.int .u64 (D2.lsn : Int)) := R6_w17.out.cell 1
          have hc2 : w17.cell? ⟨w15.heap.size, 2, none⟩ = some (.slice (s15.A 0) (s15.n 0) (s15.c 0)) := R6_w17.out.cell 2
          have hc3 : w17.cell? ⟨w15.heap.size, 3, none⟩ = some (.slice (s15.A 1) (s15.n 1) (s15.c 1)) := R6_w17.out.cell 3
          have hc4 : w17.cell? ⟨w15.heap.size, 4, none⟩ = some (.slice (s15.A 2) (s15.n 2) (s15.c 2)) := R6_w17.out.cell 4
          have hc5 : w17.cell? ⟨w15.heap.size, 5, none⟩ = some (.slice (s15.A 3) (s15.n 3) (s15.c 3)) := R6_w17.out.cell 5
          have hd0 : w17.cell? ⟨w11.heap.size, 0, none⟩ = some (.int .i64 D2.num) := Rw_w17.out.cell 0
          have hd1 : w17.cell? ⟨w11.heap.size, 1, none⟩ = some (.int .u64 (D2.lsn : Int)) := Rw_w17.out.cell 1
          have hd2 : w17.cell? ⟨w11.heap.size, 2, none⟩ = some (.slice (zs.A 0) (zs.n 0) (zs.c 0)) := Rw_w17.out.cell 2
          have hd3 : w17.cell? ⟨w11.heap.size, 3, none⟩ = some (.slice (zs.A 1) (zs.n 1) (zs.c 1)) := Rw_w17.out.cell 3
          have hd4 : w17.cell? ⟨w11.heap.size, 4, none⟩ = some (.slice (zs.A 2) (zs.n 2) (zs.c 2)) := Rw_w17.out.cell 4
          have hd5 : w17.cell? ⟨w11.heap.size, 5, none⟩ = some (.slice (zs.A 3) (zs.n 3) (zs.c 3)) := Rw_w17.out.cell 5
          try unfold zs at HEN
          try unfold zs at hd2 hd3 hd4 hd5
          try dsimp only at HEN hd2 hd3 hd4 hd5
          clear R6_w17 Rw_w17 HP_w17
          go_wp2_with fail
          refine HEN.out.mono ?_
          rintro e w30 ⟨rfl, hb⟩
          have HBZ := Lib.hid (HB_w17.out.trans (hb.mono HB_w17.out.size))
          clear hb HEN hc0 hc1 hc2 hc3 hc4 hc5 hd0 hd1 hd2 hd3 hd4 hd5 HB_w17
          go_wp2
          go_roundw
          case rel => exact ⟨i + 1, by omega, rfl, HBZ⟩
          case measure => simp [intOf]; omega
        by_cases hn32 : 32 ≤ num
        · skip
          have HZ : Hid (D2 = badP 2) := (show _ = _ by rw [HD2.out]; unfold decM; rw [if_neg (by omega)])
          obtain ⟨he1, he2, he3, he4⟩ : D2.err = 2 ∧ D2.num = 0 ∧ D2.lsn = 0 ∧ D2.sl = none_ := by rw [HZ.out]; exact ⟨rfl, rfl, rfl, rfl⟩
          have HE2 := Lib.hid he2
          have HE3 := Lib.hid he3
          have HE4 := Lib.hid he4
          rw [he1]
          clear he1 he2 he3 he4
          have HONE : Hid (∀ v ∈ pcs 0 0 zs, v.oneCell' = true) := pcs_one
          have HPI : Hid ((Try.prog.info? 48).map (·.size) = some (pcs 0 0 zs).length) := page_info
          have HLE : Hid ((pcs 0 0 zs).length = (pcs D.num D.lsn s11).length) := (rfl : _ = _)
          go_wp2_with ((with_reducible refine wpList_store_whole (op := ⟨none, _, _, _, _, _⟩) ?_ 48 (.tmp 9) (.tmp 111) ?_ w11.heap.size (pcs 0 0 zs) ?_ ?_ 48 (pcs D.num D.lsn s11) R916.out HLE.out HONE.out HPI.out ?_))
          all_goals try (first | rfl | (simp; done))
          intro w17 hr17 hg17
          have Rw_w17 : Hid (Row w17 w11.heap.size 48 (pcs D2.num D2.lsn zs)) := (show Row _ _ _ _ by rw [HE2.out, HE3.out]; exact hr17)
          have HQ := HZ11.out
          have R6_w17 := Lib.hid (R6.out.grown hg17 (by intro hh; have := Option.some.inj hh; have := HZ14.out; have := HW_k.out; have := HW15.out; omega))
          have HB_w17 := Lib.hid (HB16.out.grown hg17 HB16.out.size (fun k hk => by have := Option.some.inj hk; have := HB10s.out; omega))
          have HP_w17 : Hid (PO w17 wk.heap.size D2.sl s15) := (show PO _ _ _ _ from fun j hj => ((HP16.out j hj).kept hg17 (own_ne (HP16.out j hj) R916.out (by decide))))
          have PW : Hid (PgAt w17 w17.heap.size D2.sl zs) := (show PgAt _ _ _ _ by rw [HE4.out]; exact (PO.nil w17 0).at_)
          clear hr17 hg17 HQ R916 RX16 HVb16 HB16 HP16 R6 hb0 HE2 HE3 HE4
          have HEN := Lib.hid (rsame_any D2.num D2.lsn s15 D2.sl D2.num D2.lsn zs D2.sl w17.heap.size w17 HP_w17.out.at_ PW.out (Nat.le_refl _))
          rw [same_self] at HEN
          unfold pcs at HEN
          have hc0 : w17.cell? ⟨w15.heap.size, 0, none⟩ = some (.int .i64 D2.num) := R6_w17.out.cell 0
          have hc1 : w17.cell? ⟨w15.heap.size, 1, none⟩ = some (.int .u64 (D2.lsn : Int)) := R6_w17.out.cell 1
          have hc2 : w17.cell? ⟨w15.heap.size, 2, none⟩ = some (.slice (s15.A 0) (s15.n 0) (s15.c 0)) := R6_w17.out.cell 2
          have hc3 : w17.cell? ⟨w15.heap.size, 3, none⟩ = some (.slice (s15.A 1) (s15.n 1) (s15.c 1)) := R6_w17.out.cell 3
          have hc4 : w17.cell? ⟨w15.heap.size, 4, none⟩ = some (.slice (s15.A 2) (s15.n 2) (s15.c 2)) := R6_w17.out.cell 4
          have hc5 : w17.cell? ⟨w15.heap.size, 5, none⟩ = some (.slice (s15.A 3) (s15.n 3) (s15.c 3)) := R6_w17.out.cell 5
          have hd0 : w17.cell? ⟨w11.heap.size, 0, none⟩ = some (.int .i64 D2.num) := Rw_w17.out.cell 0
          have hd1 : w17.cell? ⟨w11.heap.size, 1, none⟩ = some (.int .u64 (D2.lsn : Int)) := Rw_w17.out.cell 1
          have hd2 : w17.cell? ⟨w11.heap.size, 2, none⟩ = some (.slice (zs.A 0) (zs.n 0) (zs.c 0)) := Rw_w17.out.cell 2
          have hd3 : w17.cell? ⟨w11.heap.size, 3, none⟩ = some (.slice (zs.A 1) (zs.n 1) (zs.c 1)) := Rw_w17.out.cell 3
          have hd4 : w17.cell? ⟨w11.heap.size, 4, none⟩ = some (.slice (zs.A 2) (zs.n 2) (zs.c 2)) := Rw_w17.out.cell 4
          have hd5 : w17.cell? ⟨w11.heap.size, 5, none⟩ = some (.slice (zs.A 3) (zs.n 3) (zs.c 3)) := Rw_w17.out.cell 5
          try unfold zs at HEN
          try unfold zs at hd2 hd3 hd4 hd5
          try dsimp only at HEN hd2 hd3 hd4 hd5
          clear R6_w17 Rw_w17 HP_w17
          go_wp2_with fail
          refine HEN.out.mono ?_
          rintro e w30 ⟨rfl, hb⟩
          have HBZ := Lib.hid (HB_w17.out.trans (hb.mono HB_w17.out.size))
          clear hb HEN hc0 hc1 hc2 hc3 hc4 hc5 hd0 hd1 hd2 hd3 hd4 hd5 HB_w17
          go_wp2
          go_roundw
          case rel => exact ⟨i + 1, by omega, rfl, HBZ⟩
          case measure => simp [intOf]; omega
        have hn1 : num < 32 := by omega
        by_cases hk4 : k = 4
        case neg =>
          have hkb : ((k : Int) != 4) = true := by simp; omega
          have HZ : Hid (D2 = badP 160) := (show _ = _ by rw [HD2.out]; unfold decM; rw [if_pos (by omega), if_neg (by have := HKQ.out; have := HBL.out; rw [List.length_take]; omega)])
          obtain ⟨he1, he2, he3, he4⟩ : D2.err = 160 ∧ D2.num = 0 ∧ D2.lsn = 0 ∧ D2.sl = none_ := by rw [HZ.out]; exact ⟨rfl, rfl, rfl, rfl⟩
          have HE2 := Lib.hid he2
          have HE3 := Lib.hid he3
          have HE4 := Lib.hid he4
          rw [he1]
          clear he1 he2 he3 he4
          have HONE : Hid (∀ v ∈ pcs 0 0 zs, v.oneCell' = true) := pcs_one
          have HPI : Hid ((Try.prog.info? 48).map (·.size) = some (pcs 0 0 zs).length) := page_info
          have HLE : Hid ((pcs 0 0 zs).length = (pcs D.num D.lsn s11).length) := (rfl : _ = _)
          go_wp2_with ((with_reducible refine wpList_store_whole (op := ⟨none, _, _, _, _, _⟩) ?_ 48 (.tmp 9) (.tmp 116) ?_ w11.heap.size (pcs 0 0 zs) ?_ ?_ 48 (pcs D.num D.lsn s11) R916.out HLE.out HONE.out HPI.out ?_))
          all_goals try (first | rfl | (simp; done))
          intro w17 hr17 hg17
          have Rw_w17 : Hid (Row w17 w11.heap.size 48 (pcs D2.num D2.lsn zs)) := (show Row _ _ _ _ by rw [HE2.out, HE3.out]; exact hr17)
          have HQ := HZ11.out
          have R6_w17 := Lib.hid (R6.out.grown hg17 (by intro hh; have := Option.some.inj hh; have := HZ14.out; have := HW_k.out; have := HW15.out; omega))
          have HB_w17 := Lib.hid (HB16.out.grown hg17 HB16.out.size (fun k hk => by have := Option.some.inj hk; have := HB10s.out; omega))
          have HP_w17 : Hid (PO w17 wk.heap.size D2.sl s15) := (show PO _ _ _ _ from fun j hj => ((HP16.out j hj).kept hg17 (own_ne (HP16.out j hj) R916.out (by decide))))
          have PW : Hid (PgAt w17 w17.heap.size D2.sl zs) := (show PgAt _ _ _ _ by rw [HE4.out]; exact (PO.nil w17 0).at_)
          clear hr17 hg17 HQ R916 RX16 HVb16 HB16 HP16 R6 hb0 HE2 HE3 HE4
          have HEN := Lib.hid (rsame_any D2.num D2.lsn s15 D2.sl D2.num D2.lsn zs D2.sl w17.heap.size w17 HP_w17.out.at_ PW.out (Nat.le_refl _))
          rw [same_self] at HEN
          unfold pcs at HEN
          have hc0 : w17.cell? ⟨w15.heap.size, 0, none⟩ = some (.int .i64 D2.num) := R6_w17.out.cell 0
          have hc1 : w17.cell? ⟨w15.heap.size, 1, none⟩ = some (.int .u64 (D2.lsn : Int)) := R6_w17.out.cell 1
          have hc2 : w17.cell? ⟨w15.heap.size, 2, none⟩ = some (.slice (s15.A 0) (s15.n 0) (s15.c 0)) := R6_w17.out.cell 2
          have hc3 : w17.cell? ⟨w15.heap.size, 3, none⟩ = some (.slice (s15.A 1) (s15.n 1) (s15.c 1)) := R6_w17.out.cell 3
          have hc4 : w17.cell? ⟨w15.heap.size, 4, none⟩ = some (.slice (s15.A 2) (s15.n 2) (s15.c 2)) := R6_w17.out.cell 4
          have hc5 : w17.cell? ⟨w15.heap.size, 5, none⟩ = some (.slice (s15.A 3) (s15.n 3) (s15.c 3)) := R6_w17.out.cell 5
          have hd0 : w17.cell? ⟨w11.heap.size, 0, none⟩ = some (.int .i64 D2.num) := Rw_w17.out.cell 0
          have hd1 : w17.cell? ⟨w11.heap.size, 1, none⟩ = some (.int .u64 (D2.lsn : Int)) := Rw_w17.out.cell 1
          have hd2 : w17.cell? ⟨w11.heap.size, 2, none⟩ = some (.slice (zs.A 0) (zs.n 0) (zs.c 0)) := Rw_w17.out.cell 2
          have hd3 : w17.cell? ⟨w11.heap.size, 3, none⟩ = some (.slice (zs.A 1) (zs.n 1) (zs.c 1)) := Rw_w17.out.cell 3
          have hd4 : w17.cell? ⟨w11.heap.size, 4, none⟩ = some (.slice (zs.A 2) (zs.n 2) (zs.c 2)) := Rw_w17.out.cell 4
          have hd5 : w17.cell? ⟨w11.heap.size, 5, none⟩ = some (.slice (zs.A 3) (zs.n 3) (zs.c 3)) := Rw_w17.out.cell 5
          try unfold zs at HEN
          try unfold zs at hd2 hd3 hd4 hd5
          try dsimp only at HEN hd2 hd3 hd4 hd5
          clear R6_w17 Rw_w17 HP_w17
          go_wp2_with fail
          refine HEN.out.mono ?_
          rintro e w30 ⟨rfl, hb⟩
          have HBZ := Lib.hid (HB_w17.out.trans (hb.mono HB_w17.out.size))
          clear hb HEN hc0 hc1 hc2 hc3 hc4 hc5 hd0 hd1 hd2 hd3 hd4 hd5 HB_w17
          go_wp2
          go_roundw
          case rel => exact ⟨i + 1, by omega, rfl, HBZ⟩
          case measure => simp [intOf]; omega
        subst hk4
        have hkb : (((4 : Nat) : Int) != 4) = false := by simp
        go_upto_region 22 with fail
        obtain ⟨Ak, nk, ck, hez, hlz, hcz, -, -, hbz⟩ := HVb16.out.open
        cases hez
        have HC256 : (256 : Nat) ≤ c5 := by omega
        have hc256 : (256 : Int) ≤ (c5 : Int) := by omega
        have HRD : Hid (∀ W, Below w16.heap.size w16 W → Calls Try.prog 24 #[.int .i64 num, .slice A5 256 c5] W (DecP W D2)) := (show ∀ W, _ → _ from fun W hW => by
          rw [HD2.out]
          refine rdec_any num A5 256 c5 (bb.take (64 * 4)) W (by rw [List.length_take]; omega) (by omega) HC256 ?_
          exact (Pg.Bs.pre (hbz.below hW) (64 * 4)).more hW.size)
        clear hlz hcz hbz
        unfold DecP pcs at HRD
        have HD17 : Hid (w16.heap.size ≤ w16.drew.heap.size) := Nat.le_refl _
        have hbd : Below w16.heap.size w16 w16.drew := ⟨rfl, rfl, rfl, Nat.le_refl _, fun _ _ => rfl⟩
        have HRD := Lib.hid (HRD.out w16.drew hbd)
        have HB17 := Lib.hid (HB16.out.trans (hbd.mono HB16.out.size))
        have RX17 := Lib.hid (Row.drew RX16.out)
        have R917 := Lib.hid (Row.drew R916.out)
        have R617 := Lib.hid (Row.drew R6.out)
        have HP17 := Lib.hid (HP16.out.below hbd)
        refine wp_region_held_drew (S := fun w' => w'.cell? ⟨P4, 0, none⟩ = some (.int .i64 num)) (by kernel_rfl) hb0 (fun hHeld => ?_)
        have S0 := Lib.hid hHeld
        clear hHeld hb0 hbd HB16 RX16 R916 R6 HP16
        generalize w16.drew = w17 at S0 HRD HB17 RX17 R917 R617 HP17 HD17 ⊢
        refine wpAnyH_take (i := 0) (oi := ⟨some 95, _, _, _, _, _⟩) (v := ?vz1) rfl (by kernel_rfl) (by kernel_rfl) (by kernel_rfl) (fun _ _ _ h => h) (Or.inl ⟨by rfl, ?yz1⟩) S0.out ?rz1
        case yz1 =>
          rintro w' hSw
          go_simp
          try with_reducible rfl
        try simp only [Act.put, List.setIfInBounds_toArray, List.set_cons_zero, List.set_cons_succ]
        refine wpAnyH_take (i := 1) (oi := ⟨some 96, _, _, _, _, _⟩) (v := ?vz2) rfl (by kernel_rfl) (by kernel_rfl) (by kernel_rfl) (fun _ _ _ h => h) (Or.inl ⟨by rfl, ?yz2⟩) S0.out ?rz2
        case yz2 =>
          rintro w' hSw
          have c0 := hSw
          go_simp
          try with_reducible rfl
        try simp only [Act.put, List.setIfInBounds_toArray, List.set_cons_zero, List.set_cons_succ]
        refine wpAnyH_take (i := 2) (oi := ⟨some 97, _, _, _, _, _⟩) (v := ?vz3) rfl (by kernel_rfl) (by kernel_rfl) (by kernel_rfl) (fun _ _ _ h => h) (Or.inl ⟨by rfl, ?yz3⟩) S0.out ?rz3
        case yz3 =>
          rintro w' hSw
          go_simp
          try with_reducible rfl
        try simp only [Act.put, List.setIfInBounds_toArray, List.set_cons_zero, List.set_cons_succ]
        refine wpAnyH_take (i := 3) (oi := ⟨some 98, _, _, _, _, _⟩) (v := ?vz4) rfl (by kernel_rfl) (by kernel_rfl) (by kernel_rfl) (fun _ _ _ h => h) (Or.inl ⟨by rfl, ?yz4⟩) S0.out ?rz4
        case yz4 =>
          rintro w' hSw
          go_simp
          try with_reducible rfl
        try simp only [Act.put, List.setIfInBounds_toArray, List.set_cons_zero, List.set_cons_succ]
        refine wpAnyH_ready (rs := [4]) (by kernel_rfl) (by simp) ?_
        refine (AllReadyH.cons rfl (fun K hK => ?_) AllReadyH.nil)
        go_simp
        refine HRD.out.mono ?_
        rintro e w18 ⟨s18, rfl, hpo, hb⟩
        have HB18 := Lib.hid (HB17.out.trans (hb.mono HB17.out.size))
        have RX18 := Lib.hid (RX17.out.below hb RX17.out.lt)
        have R918 := Lib.hid (R917.out.below hb R917.out.lt)
        have R618 := Lib.hid (R617.out.below hb R617.out.lt)
        have HP18 := Lib.hid (HP17.out.below hb)
        have HW18 := Lib.hid hpo
        have HS18 : Hid (w18.cell? ⟨P4, 0, none⟩ = some (.int .i64 num)) := RX18.out.cell 0
        have HLE18 : Hid (w16.heap.size ≤ w18.heap.size) := (show _ ≤ _ from by have := HD17.out; have := hb.size; omega)
        clear hb hpo HRD HB17 RX17 R917 R617 HP17
        refine hK _ _ HS18.out (fun _ => ?_)
        clear hK K
        try simp only [Act.put, List.setIfInBounds_toArray, List.set_cons_zero, List.set_cons_succ]
        refine wpAnyH_take (i := 5) (oi := ⟨some 94, _, _, _, _, _⟩) (v := ?vz6) rfl (by kernel_rfl) (by kernel_rfl) (by kernel_rfl) (fun _ _ _ h => h) (Or.inl ⟨by rfl, ?yz6⟩) HS18.out ?rz6
        case yz6 =>
          rintro w' hSw
          go_simp
          try with_reducible rfl
        try simp only [Act.put, List.setIfInBounds_toArray, List.set_cons_zero, List.set_cons_succ]
        refine wpAnyH_take (i := 6) (oi := ⟨some 100, _, _, _, _, _⟩) (v := ?vz7) rfl (by kernel_rfl) (by kernel_rfl) (by kernel_rfl) (fun _ _ _ h => h) (Or.inl ⟨by rfl, ?yz7⟩) HS18.out ?rz7
        case yz7 =>
          rintro w' hSw
          go_simp
          try with_reducible rfl
        try simp only [Act.put, List.setIfInBounds_toArray, List.set_cons_zero, List.set_cons_succ]
        refine wpAnyH_take (i := 7) (oi := ⟨some 101, _, _, _, _, _⟩) (v := ?vz8) rfl (by kernel_rfl) (by kernel_rfl) (by kernel_rfl) (fun _ _ _ h => h) (Or.inl ⟨by rfl, ?yz8⟩) HS18.out ?rz8
        case yz8 =>
          rintro w' hSw
          go_simp
          try with_reducible rfl
        try simp only [Act.put, List.setIfInBounds_toArray, List.set_cons_zero, List.set_cons_succ]
        refine wpAnyH_ready (rs := [8]) (by kernel_rfl) (by simp) ?_
        refine (AllReadyH.cons rfl (fun K hK => ?_) AllReadyH.nil)
        refine wp_store_whole 48 (.tmp 9) (.tmp 100) rfl w11.heap.size (pcs D2.num D2.lsn s18) rfl rfl 48 (pcs D.num D.lsn s11) R918.out rfl pcs_one page_info ?_
        intro w20 hr20 hg20
        have Rw_w20 := Lib.hid hr20
        have HQ : w11.heap.size < w15.heap.size := by have := HZ14.out; have := HW_k.out; have := HW15.out; omega
        have R6_w20 := Lib.hid (R618.out.grown hg20 (by intro hh; have := Option.some.inj hh; omega))
        have RX_w20 := Lib.hid (RX18.out.grown hg20 (by intro hh; have := Option.some.inj hh; have := HK4.out; have := HZ98; have := HZ10.out; have := HZ11.out; omega))
        have HB_w20 := Lib.hid (HB18.out.grown hg20 HB18.out.size (fun k hk => by have := Option.some.inj hk; have := HB10s.out; have := HZ11.out; omega))
        have HP_w20 : Hid (PO w20 wk.heap.size D2.sl s15) := (show PO _ _ _ _ from fun j hj => ((HP18.out j hj).kept hg20 (own_ne (HP18.out j hj) R918.out (by decide))))
        have HPW20 : Hid (PO w20 w17.heap.size D2.sl s18) := (show PO _ _ _ _ from fun j hj => ((HW18.out j hj).kept hg20 (own_ne (HW18.out j hj) R918.out (by decide))))
        have PW : Hid (PgAt w20 w20.heap.size D2.sl s18) := HPW20.out.at_
        have HS20 : Hid (w20.cell? ⟨P4, 0, none⟩ = some (.int .i64 num)) := RX_w20.out.cell 0
        clear hr20 hg20 R918 RX18 HB18 HP18 R618 HW18 HPW20 RX_w20 HQ
        refine hK _ _ HS20.out (fun _ => ?_)
        clear hK K
        try simp only [Act.put, List.setIfInBounds_toArray, List.set_cons_zero, List.set_cons_succ]
        refine wpAnyH_take (i := 9) (oi := ⟨some 10, _, _, _, _, _⟩) (v := ?vz10) rfl (by kernel_rfl) (by kernel_rfl) (by kernel_rfl) (fun _ _ _ h => h) (Or.inl ⟨by rfl, ?yz10⟩) HS20.out ?rz10
        case yz10 =>
          rintro w' hSw
          go_simp
          try with_reducible rfl
        try simp only [Act.put, List.setIfInBounds_toArray, List.set_cons_zero, List.set_cons_succ]
        refine wpAnyH_done (by kernel_rfl) ?_ _
        have HEN := Lib.hid (rsame_any D2.num D2.lsn s15 D2.sl D2.num D2.lsn s18 D2.sl w20.heap.size w20 HP_w20.out.at_ PW.out (Nat.le_refl _))
        rw [same_self] at HEN
        unfold pcs at HEN
        have hc0 : w20.cell? ⟨w15.heap.size, 0, none⟩ = some (.int .i64 D2.num) := R6_w20.out.cell 0
        have hc1 : w20.cell? ⟨w15.heap.size, 1, none⟩ = some (.int .u64 (D2.lsn : Int)) := R6_w20.out.cell 1
        have hc2 : w20.cell? ⟨w15.heap.size, 2, none⟩ = some (.slice (s15.A 0) (s15.n 0) (s15.c 0)) := R6_w20.out.cell 2
        have hc3 : w20.cell? ⟨w15.heap.size, 3, none⟩ = some (.slice (s15.A 1) (s15.n 1) (s15.c 1)) := R6_w20.out.cell 3
        have hc4 : w20.cell? ⟨w15.heap.size, 4, none⟩ = some (.slice (s15.A 2) (s15.n 2) (s15.c 2)) := R6_w20.out.cell 4
        have hc5 : w20.cell? ⟨w15.heap.size, 5, none⟩ = some (.slice (s15.A 3) (s15.n 3) (s15.c 3)) := R6_w20.out.cell 5
        have hd0 : w20.cell? ⟨w11.heap.size, 0, none⟩ = some (.int .i64 D2.num) := Rw_w20.out.cell 0
        have hd1 : w20.cell? ⟨w11.heap.size, 1, none⟩ = some (.int .u64 (D2.lsn : Int)) := Rw_w20.out.cell 1
        have hd2 : w20.cell? ⟨w11.heap.size, 2, none⟩ = some (.slice (s18.A 0) (s18.n 0) (s18.c 0)) := Rw_w20.out.cell 2
        have hd3 : w20.cell? ⟨w11.heap.size, 3, none⟩ = some (.slice (s18.A 1) (s18.n 1) (s18.c 1)) := Rw_w20.out.cell 3
        have hd4 : w20.cell? ⟨w11.heap.size, 4, none⟩ = some (.slice (s18.A 2) (s18.n 2) (s18.c 2)) := Rw_w20.out.cell 4
        have hd5 : w20.cell? ⟨w11.heap.size, 5, none⟩ = some (.slice (s18.A 3) (s18.n 3) (s18.c 3)) := Rw_w20.out.cell 5
        try unfold zs at HEN
        try unfold zs at hd2 hd3 hd4 hd5
        try dsimp only at HEN hd2 hd3 hd4 hd5
        clear R6_w20 Rw_w20 HP_w20
        go_wp2_with fail
        refine HEN.out.mono ?_
        rintro e w30 ⟨rfl, hb⟩
        have HBZ := Lib.hid (HB_w20.out.trans (hb.mono HB_w20.out.size))
        clear hb HEN hc0 hc1 hc2 hc3 hc4 hc5 hd0 hd1 hd2 hd3 hd4 hd5 HB_w20
        go_wp2
        go_roundw
        case rel => exact ⟨i + 1, by omega, rfl, HBZ⟩
        case measure => simp [intOf]; omega

theorem resT_PageDecodes : Try.f6.resultTypes = #[4] := by kernel_rfl
set_option maxRecDepth 100000 in
theorem lifted_PageDecodes (os : Os) (started : os.Started) (H : Type) (enc : TypeId × Value → H) :
    ReturnsInHanded {} Try.checked os 6 .any (Rows.pageDecodesSpec.pre6 enc Try.prog Try.f6 Rows.pageDecodesRow.domain false) (Rows.pageDecodesSpec.post enc Try.prog Try.f6 false true false false) := by
  refine Lift.law_lift (C := Try.checked) (s := Rows.pageDecodesSpec) (tb := 4) own laidOut started (by kernel_rfl) Try.func6
    (ChangeSpec.witness6 (enc := enc) (C := Try.checked) false ⟨#[], #[.slice none 0 0], []⟩ 8 (by kernel_rfl) (by kernel_rfl) (by kernel_rfl) (by kernel_rfl))
    rfl resT_PageDecodes Try.underlying4 (by
      have hr : ∀ t ∈ ([43] : List TypeId), Try.prog.readableRec t = true ∧ t < Try.prog.types.size := by
        intro t ht
        simp only [List.mem_cons, List.not_mem_nil, or_false] at ht
        rcases ht with rfl <;> exact ⟨by kernel_rfl, of_decide_eq_true (by kernel_rfl)⟩
      intro t ht
      exact hr t (by
        have ht' : t ∈ Try.f6.params.toList := ht
        rw [Try.params6] at ht'
        exact ht')) ?_
  intro W base args ds p hval0 hA0 hsz0
  have hval : ∀ (j : Nat) t v, Try.f6.params[j]? = some t → args[j]? = some v → Value.okWide Try.prog W .any base t v := hval0
  have hA : DataW.TrodAll enc Try.prog W 0 (fun _ => true) true Try.f6.params.toList args.toList ds p := hA0
  have hsz : (DataW.weightsEach Try.prog Try.f6.params.toList ds).all (· ≤ reachBytes) = true := hsz0
  clear hval0 hA0 hsz0
  rw [Try.params6] at hA hval hsz
  obtain ⟨v0, vs0, d0, ds0, p0, q0, hargs, rfl, rfl, h0, r0⟩ := trodAll_cons hA
  obtain ⟨rfl, rfl, rfl⟩ := trodAll_nil r0
  obtain rfl : args = #[v0] := by cases args; simp_all
  obtain ⟨A0, n0, c0, os0, rfl, hl0, hlc0, hn0, hm0, ho0, hk0⟩ := open_rows (hval 0 43 v0 rfl rfl) h0 (by rw [List.all_eq_true] at hsz ⊢; intro z hz; exact hsz z (DataW.weights_mem_each (j := 0) (t := 43) (d := d0) rfl rfl z hz))
  exact ⟨rfl, dec_walk A0 n0 c0 os0 W hl0 hlc0 hm0 ho0 hk0⟩

theorem proved_PageDecodes : Rows.PageDecodesSaid :=
  OpenClaim.holds_of_wide 6 Try.f6 rfl rfl rfl rfl rfl rfl rfl ⟨rfl, rfl, rfl, rfl, rfl⟩ rfl rfl rfl rfl rfl (by kernel_rfl) Try.func6 (by kernel_rfl)
    (of_decide_eq_true (by kernel_rfl)) (by unfold Func.isWrapper; first | (rw [if_pos (by decide +kernel)]; kernel_rfl) | (rw [if_neg (by decide +kernel)]; exact ⟨rfl, rfl⟩))
    (fun os started H enc _ => lifted_PageDecodes os started H enc)
end Go.Proofs.Ytnljhopikjkflaa.PgDecodes
