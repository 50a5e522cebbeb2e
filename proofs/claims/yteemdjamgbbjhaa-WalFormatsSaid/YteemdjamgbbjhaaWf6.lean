/-
  Part 6 of the contracts that the law rests on.
-/
import Derived.Lib.SlBytesConst
import Derived.Test.YteemdjamgbbjhaaRows
import Derived.ProofKit
import Derived.OpenShut
import Derived.ChangeOld
import Derived.Below
import Derived.SizedLaws
import Derived.Deep.CondSized
import Derived.JoinedCond
import Derived.Deep.Grids
import Derived.Deep.Cut
import Derived.Deep.CutRange
import Derived.Test.YteemdjamgbbjhaaWf1
import Derived.Test.YteemdjamgbbjhaaWf2
import Derived.Test.YteemdjamgbbjhaaWf4
import Derived.Test.YteemdjamgbbjhaaWf5
/-
  Does the layer do anything?
-/
namespace Go.Proofs.Yteemdjamgbbjhaa.Wl
set_option maxRecDepth 100000
open Go.RowKit Go.Shelf Go.Proofs.Yteemdjamgbbjhaa.Wd Go.Proofs.Yteemdjamgbbjhaa.Dsk Go.Proofs.Yteemdjamgbbjhaa.Oct Go.Proofs.Yteemdjamgbbjhaa.Sum Go.Proofs.Yteemdjamgbbjhaa.Beq

attribute [local go_sem] Oper.semAt_some

def wk1 : DM := (formM 4 (DM.new 10)).1
def wk2 : DM := (layM (pairsM 0 1 [97, 98]) 3 wk1).1
theorem wk_form : (formM 4 (DM.new 10)).2 = 0 := by decide +kernel
theorem wk_lay : (layM (pairsM 0 1 [97, 98]) 3 wk1).2 = 0 := by decide +kernel
theorem wk_open : (openM wk2).2 = (0, (0, 4, [[], [97, 98]])) := by decide +kernel
theorem below_off {w w1 w2 : World} {F : Nat → Prop} (hb : Below w.heap.size w w1) (ho : Off F w1 w2) (hF : ∀ k, F k → w.heap.size ≤ k) : Below w.heap.size w w2 :=
  hb.trans ⟨ho.os, ho.tape, ho.output, ho.size, fun k hk => ho.block k (Nat.lt_of_lt_of_le hk hb.size) (fun h => by have := hF k h; omega)⟩
theorem ext_new {w w1 w2 : World} {F F' : Nat → Prop} (hb : w.heap.size ≤ w1.heap.size) (hx : Ext F F' w1 w2) (hF : ∀ k, F k → w.heap.size ≤ k) : ∀ k, F' k → w.heap.size ≤ k := fun k hk => by
  rcases hx k hk with h | h
  · exact hF k h
  · omega
theorem dk_new {F : Nat → Prop} {g n : Nat} {W : World} (h : Disk W F g (DM.new n)) : ∃ Fm : Nat → Prop, Dk W Fm g (DM.new n) ∧ ∀ k, Fm k → F k := dk_min h
theorem log_keep {w w' : World} {G : Nat → Prop} {g dg area t : Nat} {fs : List (List UInt8)} {br : Bool} (h : Log w G g dg area t fs br) (hk : ∀ k, G k → k < w.heap.size → w'.heap[k]? = w.heap[k]?) : Log w' G g dg area t fs br := by
  obtain ⟨A, c, xs, h1, h2, h3, h4, h5⟩ := h
  exact ⟨A, c, xs, (hk g h3 h1.lt).trans h1, own_kept h2 (fun k hkb hlt => hk k (h4 k hkb) hlt), h3, h4, fun i hi => by
    obtain ⟨Ai, ni, ci, q1, q2, q3, q4⟩ := h5 i hi
    exact ⟨Ai, ni, ci, q1, own_kept q2 (fun k hkb hlt => hk k (q4 k hkb) hlt), q3, q4⟩⟩
theorem log_below {w w' : World} {G : Nat → Prop} {g dg area t : Nat} {fs : List (List UInt8)} {br : Bool} (h : Log w G g dg area t fs br) (hb : Below w.heap.size w w') : Log w' G g dg area t fs br := log_keep h fun k _ hlt => hb.block k hlt
theorem log_more {w : World} {G G' : Nat → Prop} {g dg area t : Nat} {fs : List (List UInt8)} {br : Bool} (h : Log w G g dg area t fs br) (hk : ∀ k, G k → G' k) : Log w G' g dg area t fs br := by
  obtain ⟨A, c, xs, h1, h2, h3, h4, h5⟩ := h
  exact ⟨A, c, xs, h1, h2, hk _ h3, fun k hkb => hk k (h4 k hkb), fun i hi => by
    obtain ⟨Ai, ni, ci, q1, q2, q3, q4⟩ := h5 i hi
    exact ⟨Ai, ni, ci, q1, q2, q3, fun k hkb => hk k (q4 k hkb)⟩⟩
/-- what a return out of the first round leaves -/
def WkX (w : World) (r : Bool) (_ : List EA) (W : World) : Prop := Row W w.heap.size 4 [.bool r] ∧ Below w.heap.size w W
theorem own_put {W : World} {l : Nat} {o o' : Obj} {e : TypeId} {v : Value} {n : Nat} {xs : List Value} (h : W.ownsRow 0 e 1 v n xs) (hl : W.heap[l]? = some o) (hc : o.isCells = false) : (W.putObj l o').ownsRow 0 e 1 v n xs :=
  own_kept h fun g hg _ => World.putObj_heap_other fun he => by
    obtain ⟨cs, hr⟩ := own_type h hg
    rw [he] at hr
    rw [show W.heap[l]? = _ from hr] at hl
    cases hl
    cases hc
theorem row_putL {W : World} {b : Nat} {t : TypeId} {cs : List Value} (h : Row W b t cs) {k : Nat} {ob ob' : Obj} (hl : W.heap[k]? = some ob) (hc : ob.isCells = false) : Row (W.putObj k ob') b t cs := by
  refine (World.putObj_heap_other fun e => ?_).trans h
  rw [← e, show W.heap[b]? = _ from h] at hl
  cases hl
  cases hc
theorem load_bool {W : World} {b : Nat} {r : Bool} (h : Row W b 4 [.bool r]) : (loadVar 4 ⟨b, 0, none⟩).run Try.prog W = .ok (.bool r) W := by
  have hc : W.cell? ⟨b, 0, none⟩ = some (.bool r) := h.cell 0
  go_simp
/-- what the rounds hold: there is no second one -/
structure WkI (w : World) (B : Nat) (pre : List EA) (W : World) : Prop where
  nil : pre = []
  r0 : Row W w.heap.size 4 [.bool false]
  hb : Below w.heap.size w W
  sz : B ≤ W.heap.size
def WkAx (w : World) (tm : Value → Value → Array Value) (x : EA) (a' : Act) (W : World) : Prop := a' = { tmps := tm (.int .i64 (x.1 : Int)) (.slice x.2.1 x.2.2.1 x.2.2.2), defers := [] } ∧ x.1 = 1 ∧ By W x.2.1 x.2.2.1 x.2.2.2 [97, 98] ∧ x.2.2.1 ≤ 40000
set_option maxHeartbeats 8000000 in
theorem wakes_any (w : World) : Calls Try.prog 8 #[] w fun e w' => e = .returned (.bool true) ∧ Below w.heap.size w w' := by
  have mixed : Try.prog.follows .mixedOrders = true := by kernel_rfl
  refine (callsIn_wide (n := 9)).1 ?_
  refine callsIn_of_wp_marks Try.func8 rfl trivial ?_ rfl
  refine wpIn_wide.2 ?_
  simp only [Try.ntmps8, List.size_toArray, List.length_cons, List.length_nil, Nat.reduceAdd, Nat.reduceSub, Array.replicate_succ, Array.replicate_zero, List.push_toArray, List.append_toArray, List.nil_append, List.cons_append]
  go_wp2_with fail
  have hb0 : Below w.heap.size w (w.alloc (.cells #[.bool false] 4)) := (Below.refl _ _).alloc (Nat.le_refl _) _
  have hr0 : Row (w.alloc (.cells #[.bool false] 4)) w.heap.size 4 [.bool false] := Row.new w _ _
  generalize w.alloc (.cells #[.bool false] 4) = w0 at hb0 hr0 ⊢
  have HB0 := Lib.hid hb0
  have HR0 := Lib.hid hr0
  clear hb0 hr0
  refine (dnew_good 10 _ (by omega) (by omega)).mono ?_
  rintro e w1 ⟨dg, rfl, F0, hd0, hf0, hb1⟩
  obtain ⟨F1, hd1, hff⟩ := dk_new hd0
  have HD1 := Lib.hid hd1
  have HF1 : Hid (∀ k, F1 k → w0.heap.size ≤ k) := Lib.hid fun k hk => hf0 k (hff k hk)
  have HB1 := Lib.hid (HB0.out.trans (hb1.mono HB0.out.size))
  have HR1 := Lib.hid (HR0.out.below hb1 HR0.out.lt)
  have HS01 := Lib.hid hb1.size
  clear hd0 hf0 hb1 hd1 hff
  go_wp2_with fail
  refine (format_any dg 4 (DM.new 10) F1 w1 HD1.out (by omega) (by omega) (by simp [DM.new]) (by simp [DM.new])).mono ?_
  rintro e w2 ⟨p, F2, rfl, hd2, hx2, ho2, -, hg2⟩
  obtain ⟨g, rfl, hgw, hbg⟩ := hg2 wk_form
  rw [wk_form]
  have hlog := Log.of_begun hbg hgw (by omega) rfl
  have HD2 : Hid (Dk w2 F2 dg wk1) := Lib.hid hd2
  have HF2 := Lib.hid (ext_new HS01.out hx2 HF1.out)
  have HB2 := Lib.hid (below_off HB1.out ho2 (fun k hk => Nat.le_trans HB0.out.size (HF1.out k hk)))
  have HR2 : Hid (Row w2 w.heap.size 4 [.bool false]) := Lib.hid ((ho2.block _ HR1.out.lt (fun h => by have := HF1.out _ h; have := HR0.out.lt; omega)).trans HR1.out)
  have HLG2 := Lib.hid hlog
  have HS12 := Lib.hid ho2.size
  clear hd2 hx2 ho2 hg2 hbg hlog hgw
  have HCV := Lib.hid (show (convert 37 37 (.slice (some ⟨w2.heap.size, 0, none⟩) 2 2)).run Try.prog (w2.alloc (.cells #[.int .u8 97, .int .u8 98] 5)) = .ok (.slice (some ⟨w2.heap.size, 0, none⟩) 2 2) (w2.alloc (.cells #[.int .u8 97, .int .u8 98] 5 (2, 3))) from Lib.run_convert_bytes_const (P := Try.prog) w2 37 5 #[.int .u8 97, .int .u8 98] 2 2 Try.underlying37 Try.underlying5)
  go_wp2_with fail
  rw [HCV.out]
  have hb3 : Below w2.heap.size w2 (w2.alloc (.cells #[.int .u8 97, .int .u8 98] 5 (2, 3))) := (Below.refl _ _).alloc (Nat.le_refl _) _
  have hs3 : Sl (w2.alloc (.cells #[.int .u8 97, .int .u8 98] 5 (2, 3))) (w2.alloc (.cells #[.int .u8 97, .int .u8 98] 5 (2, 3))).heap.size (some ⟨w2.heap.size, 0, none⟩) 2 2 [97, 98] := ⟨rfl, Nat.le_refl _, by unfold maxLen; omega, fun h => (by cases h), by
    have := lit_bs2 w2 [97, 98] 5 (2, 3)
    rw [World.size_alloc]
    exact this⟩
  generalize w2.alloc (.cells #[.int .u8 97, .int .u8 98] 5 (2, 3)) = w3 at hb3 hs3 ⊢
  have HD3 := Lib.hid (HD2.out.below hb3)
  have HLG3 := Lib.hid (log_below HLG2.out hb3)
  have HB3 := Lib.hid (HB2.out.trans (hb3.mono HB2.out.size))
  have HR3 := Lib.hid (HR2.out.below hb3 HR2.out.lt)
  have HS3 := Lib.hid hs3
  have HS23 := Lib.hid hb3.size
  clear hb3 hs3 HCV
  go_wp2_with fail
  refine (append_ok g dg 4 0 [[]] (some ⟨w2.heap.size, 0, none⟩) 2 2 [97, 98] wk1 F2 _ w3 HLG3.out HD3.out HS3.out (by omega) (by omega) (by omega) (by decide) (by decide) (by simp) (by decide +kernel)).mono ?_
  rintro e w4 ⟨rfl, F4, G4, hd4, hx4, hy4, ho4, hl4⟩
  have hlay : (layM (pairsM 0 ([[]] : List (List UInt8)).length [97, 98]) ((2 + 0 % 2 * 4 + usedM [[]] : Nat) : Int) wk1).2 = 0 := by decide +kernel
  have hlay1 : (layM (pairsM 0 ([[]] : List (List UInt8)).length [97, 98]) ((2 + 0 % 2 * 4 + usedM [[]] : Nat) : Int) wk1).1 = wk2 := rfl
  rw [hlay1] at hd4
  rw [hlay]
  have HD4 := Lib.hid hd4
  have hF2w : ∀ k, F2 k → w.heap.size + 1 ≤ k := fun k hk => by have := HF2.out k hk; have := HR0.out.lt; omega
  have HB4 := Lib.hid (below_off HB3.out ho4 (fun k hk => by
    rcases hk with h | h
    · have := hF2w k h; omega
    · have := HB1.out.size; omega))
  have HF4 : Hid (∀ k, F4 k → w.heap.size + 1 ≤ k) := Lib.hid fun k hk => by
    rcases hx4 k hk with h | h
    · exact hF2w k h
    · have := HR3.out.lt; omega
  have HR4 : Hid (Row w4 w.heap.size 4 [.bool false]) := Lib.hid ((ho4.block _ HR3.out.lt (fun h => by
    rcases h with h | h
    · have := hF2w _ h; omega
    · have := HR1.out.lt; omega)).trans HR3.out)
  clear hd4 hx4 hy4 ho4 hl4 hlay hlay1 hF2w
  go_wp2_with fail
  refine (open_any dg wk2 F4 w4 HD4.out (by decide +kernel)).mono ?_
  rintro e w5 ⟨p5, F5, rfl, hd5, hx5, ho5, -, hok5⟩
  rw [wk_open] at hok5 ⊢
  obtain ⟨g5, rfl, hl5, -⟩ := hok5 rfl
  dsimp only at hl5 ⊢
  have HB5 := Lib.hid (below_off HB4.out ho5 (fun k hk => by have := HF4.out k hk; omega))
  have HR5 : Hid (Row w5 w.heap.size 4 [.bool false]) := Lib.hid ((ho5.block _ HR4.out.lt (fun h => by have := HF4.out _ h; omega)).trans HR4.out)
  obtain ⟨A, c, xs, hrow, hown, hG, hGA, hat⟩ := hl5
  have HROW := Lib.hid hrow
  have HOWN := Lib.hid hown
  have HGA := Lib.hid hGA
  have HAT := Lib.hid hat
  have HS45 := Lib.hid ho5.size
  clear hd5 hx5 ho5 hok5 hrow hown hG hGA hat
  go_wp2_with fail
  refine (len_log g5 dg 4 0 1 c (usedM [[], [97, 98]]) A false w5 HROW.out (by omega)).mono ?_
  rintro e w6 ⟨rfl, rfl⟩
  go_wp2_with fail
  have hlf := left_any g5 dg 4 0 2 c (usedM [[], [97, 98]]) A false w5 HROW.out (by omega) (by decide)
  rw [show (4 - usedM [[], [97, 98]] : Nat) = 2 by decide] at hlf
  refine hlf.mono ?_
  rintro e w6 ⟨rfl, rfl⟩
  clear hlf
  go_wp2_with fail
  refine (all_log g5 dg 4 0 2 c (usedM [[], [97, 98]]) A false w5.drew (Row.drew HROW.out)).mono ?_
  rintro e w7 ⟨rfl, hb7, hr7⟩
  obtain ⟨Bf, hBf⟩ : ∃ Bf, w5.drew.heap.size = Bf := ⟨_, rfl⟩
  have hBf5 : w5.heap.size = Bf := hBf
  rw [hBf] at hr7 ⊢
  have hb75 : Below w5.heap.size w5 w7 := ((Below.refl _ _).drew).trans hb7
  obtain ⟨B, hB⟩ : ∃ B, B = w7.heap.size := ⟨_, rfl⟩
  have HLT : Hid (w.heap.size < w4.heap.size ∧ w4.heap.size ≤ Bf ∧ Bf < B) := Lib.hid (by have := HR4.out.lt; have := HS45.out; have := hr7.lt; omega)
  have HFA : Hid (FA w7 (fun k => w4.heap.size ≤ k ∧ k < B) Bf A c [[], [97, 98]]) := Lib.hid (by
    refine ⟨hr7.cell 0, ⟨HLT.out.2.1, HLT.out.2.2⟩, fun k hk => by rw [← hB]; exact hk.2, fun i hi => ?_⟩
    have hrow5 := HOWN.out
    have hs75 := hb75.size
    have hlt5 := HLT.out
    rcases hrow5 with ⟨hxl, hv | ⟨gx, cap, cur, hv, _, hg, q1, q2, q3, q4⟩⟩
    · exact absurd hv.2 (by simp)
    · cases hv
      have hgx := HGA.out gx rfl
      have hgl : gx < w5.heap.size := (Array.getElem?_eq_some_iff.1 hg).1
      obtain ⟨Ai, ni, ci, s1, s2, s3, s4⟩ := HAT.out i hi
      refine ⟨gx, rfl, ⟨hgx, by omega⟩, Ai, ni, ci, ?_, own_kept s2 (fun k _ hlt => hb75.block k hlt), s3, fun k hk => ⟨s4 k hk, by have := own_lt s2 hk; omega⟩⟩
      rw [World.cell?_of_block (a := ⟨gx, i, none⟩) (hb75.block gx hgl), cell_of_row w5 gx i cur _ (0, 0) hg]
      rw [← q4, List.getElem?_take_of_lt (by have : ([[], [97, 98]] : List (List UInt8)).length = 2 := rfl; omega)] at s1
      simpa using s1)
  have HB7 := Lib.hid (HB5.out.trans (hb75.mono HB5.out.size))
  have HR7 := Lib.hid (HR5.out.below hb75 HR5.out.lt)
  clear hr7 hb7 hb75 hBf hBf5
  go_wp2_with fail
  refine (wpIn_wide (n := 9)).1 ?_
  refine range_feeds (n := 9) (by omega) (gf := 65) (lb := #[.pointer (some ⟨Bf, 0, none⟩)]) rfl (enters_of Try.func65 (by kernel_rfl) rfl)
    (encs := encA) (G := GA) (T := TA [[], [97, 98]] w7.heap.size) (Ok := fun _ => True) (Kp := KpA (fun k => w4.heap.size ≤ k ∧ k < B)) (S := fun xs _ => xs.length = 1) (Sp := fun _ _ => True) ?feeds (fun h k => h.trans k) ?hKb (fun _ => rfl)
    (WkI w B) (WkX w true) ?hG ?hIa ?hI ?hIx ?hIp ?hIxp ?h0 (fun _ x a' W => WkAx w (fun x5 x6 => #[.pointer (some ⟨w.heap.size, 0, none⟩), .pointer (some ⟨dg, 0, none⟩), .int .i64 0, .pointer (some ⟨g, 0, none⟩), .pointer (some ⟨g5, 0, none⟩), x5, x6, .tuple #[.pointer (some ⟨dg, 0, none⟩), .int .i64 0], .tuple #[.pointer (some ⟨dg, 0, none⟩), .int .i64 0], .pointer (some ⟨dg, 0, none⟩), .int .i64 0, .int .i64 0, .bool false, .tuple #[.pointer (some ⟨g, 0, none⟩), .int .i64 0], .pointer (some ⟨dg, 0, none⟩), .tuple #[.pointer (some ⟨g, 0, none⟩), .int .i64 0], .pointer (some ⟨g, 0, none⟩), .int .i64 0, .int .i64 0, .bool false, .bool false, .pointer (some ⟨g, 0, none⟩), .bool false, .bool false, .bool false, .pointer (some ⟨g, 0, none⟩), .slice (some ⟨w2.heap.size, 0, none⟩) 2 2, .slice (some ⟨w2.heap.size, 0, none⟩) 2 2, .int .i64 0, .bool false, .bool false, .tuple #[.pointer (some ⟨g5, 0, none⟩), .int .i64 0], .pointer (some ⟨dg, 0, none⟩), .tuple #[.pointer (some ⟨g5, 0, none⟩), .int .i64 0], .pointer (some ⟨g5, 0, none⟩), .int .i64 0, .int .i64 0, .bool false, .bool false, .pointer (some ⟨g5, 0, none⟩), .bool false, .bool false, .bool false, .pointer (some ⟨g5, 0, none⟩), .int .i64 1, .bool false, .bool false, .bool false, .pointer (some ⟨g5, 0, none⟩), .int .i64 2, .bool false, .bool false, .pointer (some ⟨g5, 0, none⟩), .func ((.func 65)) #[] #[.pointer (some ⟨Bf, 0, none⟩)], x5, x6, undef, undef, undef, undef, undef, undef, undef]) x a' W) ?hAx ?assign ?body ?done ?stop
  case feeds => exact all_feeds Bf 8 c A [[], [97, 98]] (fun k => w4.heap.size ≤ k ∧ k < B) w7 (by omega) (by decide) HFA.out
  case hKb =>
    intro W l o o' hl ho hc
    exact ⟨fun k hk => World.putObj_heap_other (by have := hk.2; omega), (grownBy_putObj' W l o').size⟩
  case hG =>
    intro X Y k o hg hk ho hc
    exact (hg.block k (Array.getElem?_eq_some_iff.1 ho).1).trans ho
  case hIa =>
    rintro s W o ⟨h1, h2, h3, h4⟩
    have hb : Below W.heap.size W (W.alloc o) := (Below.refl _ _).alloc (Nat.le_refl _) _
    exact ⟨h1, h2.below hb h2.lt, h3.trans (hb.mono h3.size), Nat.le_trans h4 hb.size⟩
  case hI =>
    rintro s X Y ⟨h1, h2, h3, h4⟩ hb
    exact ⟨h1, h2.below hb h2.lt, h3.trans (hb.mono h3.size), Nat.le_trans h4 hb.size⟩
  case hIx =>
    rintro s X Y ⟨h2, h3⟩ hb
    exact ⟨h2.below hb h2.lt, h3.trans (hb.mono h3.size)⟩
  case hIp =>
    rintro s W l o o' hl ho hc ⟨h1, h2, h3, h4⟩
    have hg := grownBy_putObj' W l o'
    have := HLT.out
    exact ⟨h1, row_putL h2 ho hc, h3.grown hg h3.size (fun q e => by have := Option.some.inj e; omega), Nat.le_trans h4 hg.size⟩
  case hIxp =>
    rintro s W l o o' hl ho hc ⟨h2, h3⟩
    have hg := grownBy_putObj' W l o'
    have := HLT.out
    exact ⟨row_putL h2 ho hc, h3.grown hg h3.size (fun q e => by have := Option.some.inj e; omega)⟩
  case h0 => exact ⟨rfl, HR7.out, HB7.out, by omega⟩
  case hAx =>
    rintro s x a' _ W l o o' hl ho hc ⟨h1, h2, h3, h4⟩
    exact ⟨h1, h2, own_put h3 ho hc, h4⟩
  case assign =>
    intro yl pre x W K ht hI hK
    have HT := Lib.hid ht
    have HI := Lib.hid hI
    have HK := Lib.hid hK
    have hx1 : x.1 = 1 := by rw [ht.num, hI.nil]; rfl
    have HX1 := Lib.hid hx1
    clear ht hI hK hx1
    unfold encA
    gi_wp2
    exact HK.out _ W (KeepsFrom.refl _ _) (KpA.refl _ _) HI.out ⟨rfl, HX1.out, by
      have := HT.out.by_
      rw [HX1.out] at this
      exact this, HT.out.most⟩
  case body =>
    rintro yl pre ⟨i, Ax, nx, cx⟩ a' W hyl hr hI ⟨rfl, hx1, hby, hmx⟩
    dsimp only at hx1 hby hmx ⊢
    subst hx1
    have hsl := hby.sl
    have hcv : (convert 37 9 (.slice Ax nx cx)).run Try.prog W = .ok (.string { data := #[97, 98] }) W := conv_any W _ Ax nx cx [97, 98] hsl.len hsl.bs
    have hc0 : W.cell? ⟨w.heap.size, 0, none⟩ = some (.bool false) := hI.r0.cell 0
    have hf0 := hI.r0.frozen 0
    have HI := Lib.hid hI
    clear hI hby hsl hr
    gi_wp2
    have hg := grownBy_setCell' W w.heap.size (.bool true)
    have := HLT.out
    refine ⟨KeepsFrom.of_grownBy hg (fun j e => by have := Option.some.inj e; omega), ?_, HI.out.hb.grown hg HI.out.hb.size (fun q e => by have := Option.some.inj e; omega)⟩
    simpa using HI.out.r0.store 0 (.bool true)
  case done =>
    rintro D xs W W' hD hS hI hg hdf
    rw [hI.nil] at hS
    cases hS
  case stop =>
    rintro D pre W W' hD - ⟨h2, h3⟩ hg hdf
    have HX := Lib.hid (And.intro h2 (And.intro h3 hdf))
    have HD7 : Hid (w.heap.size < D) := Lib.hid (by have := HLT.out; omega)
    clear h2 h3 hdf hg
    refine wpIn_wide.2 ?_
    go_wp2
    obtain ⟨h2, h3, hdf⟩ := HX.out
    refine ⟨by simp, .inl ⟨_, _, rfl, run_takeDeferred hdf, ?_⟩⟩
    have h2' := row_putL (ob' := .deferred none) h2 hdf rfl
    have hgp := grownBy_putObj' W' D (.deferred none)
    exact ⟨.bool true, results_cell (p := 0) (ty := 4) rfl _ _ ⟨w.heap.size, 0, none⟩ _ rfl (load_bool h2'), rfl, h3.grown hgp h3.size (fun q e => by have := Option.some.inj e; have := HD7.out; omega)⟩
end Go.Proofs.Yteemdjamgbbjhaa.Wl

/-
  From a walk of a law to its statement: lemmas over any program; how arguments open.
-/
namespace Go.Proofs.Yteemdjamgbbjhaa.Lift
open Go.ChangeShapes Go.WideShapes Go.ChangeAt Go.RowKit Go.Proofs.Yteemdjamgbbjhaa.Wd

section
variable {H : Type} {enc : TypeId × Value → H} {P : Program}

theorem trodAll_below (hl : laidOutB P = true) {W W' : World} (hb : Below W.heap.size W W') :
    ∀ {ts : List TypeId} {vs : List Value} {ds : List (DataW H)} {ps : List MemPlace}, (∀ t ∈ ts, P.readableRec t = true ∧ t < P.types.size) → DataW.TrodAll enc P W 0 (fun _ => true) true ts vs ds ps → (∀ x ∈ ps, x.block < W.heap.size) →
      DataW.TrodAll enc P W' 0 (fun b => decide (b < W.heap.size)) true ts vs ds ps
  | [], vs, ds, ps, _, h, _ => by
    obtain ⟨rfl, rfl, rfl⟩ := trodAll_nil h
    exact trodAll_mk0
  | t :: ts, vs, ds, ps, ht, h, hlt => by
    obtain ⟨v, vs', d, ds', p, q, rfl, rfl, rfl, h0, h1⟩ := trodAll_cons h
    refine trodAll_cons_mk (Below.trod hl (ht t (by simp)).1 (ht t (by simp)).2 h0 hb (fun x hx => hlt x (by simp [hx]))) ?_
    exact trodAll_below hl hb (fun t' h' => ht t' (by simp [h'])) h1 (fun x hx => hlt x (by simp [hx]))

/-- what a law leaves meets its row -/
theorem law_post {fn : Func} {s : ChangeSpec} {W W' : World} {args : Array Value} {ds gs : List (DataW H)} {before : List MemPlace} {tb : TypeId} (hl : laidOutB P = true) (hv : s.vars = []) (hr : fn.resultTypes = #[tb]) (htb : P.underlying tb = some .bool)
    (hread : ∀ t ∈ fn.params.toList, P.readableRec t = true ∧ t < P.types.size) (hW : DataW.Whole enc P fn.params.toList s.vars false W args.toList ds gs before)
    (hfn : s.fn H (ds ++ gs) = { results := [.lit (.bool true)], args := ds }) (bel : Below W.heap.size W W') : s.post enc P fn false true false false W args (.bool true) W' := by
  have hW' := hW
  have hlt := hW.lt
  obtain ⟨p, q, hA, hV, rfl, _, _⟩ := hW
  refine ⟨ds, gs, p ++ q, [], p, [], hW', ?_, ?_, ?_, bel.frame _, fun h => by cases h⟩
  · rw [hfn, hr]
    exact trodAll_mk1 (shut_bool htb _)
  · rw [hfn]
    exact trodAll_below hl bel hread hA (fun x hx => hlt x (by simp [hx]))
  · rw [hfn, hv]
    rfl

/-- THE FIRST FORM's STEP: from the walk of a law, its arguments as they are read. -/
theorem law_lift {C : Checked} {os : Os} {f : FuncId} {fn : Func} {s : ChangeSpec} {tb : TypeId} (own : ownKnob C.prog.godebug = none) (hl : laidOutB C.prog = true) (started : os.Started) (noInit : C.prog.inits.idxOf? f = none) (hfn : C.prog.funcs[f]? = some fn)
    (witness : ∃ (w : World) (tape : Tape) (i : Input), w.os = os ∧ (w.forCall tape i).Shaped C.prog ∧ i.vars = [] ∧ Input.okWide C.prog (w.forCall tape i) .any w.heap.size f i ∧
      s.pre6 enc C.prog fn [] false (w.forCall tape i).memory i.args ∧ ({} : Assume).holds C.prog (lone (Frame.enter C.prog f i.args .normal) [] (w.forCall tape i)))
    (hv : s.vars = []) (hr : fn.resultTypes = #[tb]) (htb : C.prog.underlying tb = some .bool) (hread : ∀ t ∈ fn.params.toList, C.prog.readableRec t = true ∧ t < C.prog.types.size)
    (contract : ∀ (W : World) (base : Nat) (args : Array Value) (ds : List (DataW H)) (p : List MemPlace),
      (∀ (j : Nat) t v, fn.params[j]? = some t → args[j]? = some v → Value.okWide C.prog W .any base t v) →
      DataW.TrodAll enc C.prog W 0 (fun _ => true) true fn.params.toList args.toList ds p →
      (DataW.weightsEach C.prog fn.params.toList ds).all (· ≤ reachBytes) = true →
      s.fn H ds = { results := [.lit (.bool true)], args := ds } ∧ Calls C.prog f args W fun e W' => e = .returned (.bool true) ∧ Below W.heap.size W W') :
    ReturnsInHanded {} C os f .any (s.pre6 enc C.prog fn [] false) (s.post enc C.prog fn false true false false) := by
  refine returnsInHanded_of_change_sized own started noInit hfn witness ?_
  intro W base args ds gs before hval hW _ hsz _
  have hW' := hW
  obtain ⟨p, q, hA, hV, rfl, hfz, hnd⟩ := hW
  have hv' : s.plain.vars = [] := hv
  have hgs : gs = [] := by
    rw [hv] at hV
    cases gs with
    | nil => rfl
    | cons g gs => exact hV.elim
  subst hgs
  have hsz' : (DataW.weightsEach C.prog fn.params.toList ds).all (· ≤ reachBytes) = true := by
    have e : s.plain.varTypes C.prog = [] := by unfold DataSpec.varTypes; rw [hv']; rfl
    rw [e, List.append_nil, List.append_nil] at hsz
    exact hsz
  obtain ⟨hsf, hc⟩ := contract W base args ds p hval hA hsz'
  refine hc.mono fun e W' ⟨he, bel⟩ => ⟨_, he, law_post hl hv hr htb hread hW' ?_ bel⟩
  rw [List.append_nil]
  exact hsf
end

section
variable {H : Type} {enc : TypeId × Value → H} {P : Program}
/-- a slice of bytes that came in -/
theorem open_bytes {W : World} {base : Nat} {t e : TypeId} {v : Value} {d : DataW H} {ps : List MemPlace} (ht : P.underlying t = some (.slice e)) (he : P.underlying e = some (.int .u8)) (hc : P.cellsOf e = 1)
    (hval : Value.okWide P W .any base t v) (h : DataW.Trod enc P W 0 (fun _ => true) true t v d ps) :
    ∃ A len cap l, v = .slice A len cap ∧ l.length = len ∧ len ≤ cap ∧ cap ≤ maxLen ∧ (A = none → cap = 0) ∧ Bs W W.heap.size A l ∧ ((∃ elems spare, d = .slice elems spare ∧ elems.length + spare.length = cap) ∨ cap = 0) := by
  obtain ⟨a0, len0, cap0, rfl⟩ := okWide_slice ht hval
  have hlt : ∀ x ∈ ps, x.block < W.heap.size := by obtain ⟨m, hm⟩ := h; exact DataW.trod_lt m _ _ _ hm
  obtain ⟨fuel, hf⟩ := h
  rcases open_ints ht he hc hf with ⟨hcs, _⟩ | ⟨x, l, c, zs, hcs, _, hl, hm, hz, hx, hcell, hwz⟩
  · simp [Value.cells] at hcs
    obtain ⟨rfl, rfl, rfl⟩ := hcs
    exact ⟨none, 0, 0, [], rfl, rfl, Nat.le_refl _, Nat.zero_le _, fun _ => rfl, Bs.nil _ _ _, .inr rfl⟩
  · simp [Value.cells] at hcs
    obtain ⟨rfl, rfl, rfl⟩ := hcs
    have hz' : zs.length = cap0 := by simpa using hz
    have hdp := (Prod.mk.inj hx)
    refine ⟨some x, len0, cap0, (zs.take len0).map (fun z => UInt8.ofNat z.toNat), rfl, by simp; omega, hl, hm, (fun hh => by cases hh), ?_, .inl ⟨_, _, hdp.1, by simp [lits]; omega⟩⟩
    intro hp
    have hp' : 0 < len0 := by simp at hp; omega
    have hc0 := hcell 0 (by omega)
    obtain ⟨b, off, spot⟩ := x
    have hspot : spot = none := by simpa [Addr.add] using World.cell?_spot hc0
    subst hspot
    refine ⟨b, off, rfl, World.block_lt_of_cell? W _ (by simpa [Addr.add_lit] using hc0), fun i hi => ?_⟩
    simp at hi
    have h1 := hcell i (by omega)
    rw [Addr.add_lit] at h1
    rw [h1]
    have hi' : i < zs.length := by omega
    have hw := hwz (zs.getD i 0) (by simp [List.getD_eq_getElem?_getD, hi'])
    have hw' : 0 ≤ zs.getD i 0 ∧ zs.getD i 0 ≤ 255 := by simpa [Lit.wf, IntKind.min, IntKind.max, IntKind.signed, IntKind.bits] using hw
    have e2 : ((zs.take len0).map (fun z => UInt8.ofNat z.toNat)).getD i 0 = UInt8.ofNat (zs.getD i 0).toNat := by
      simp [List.getD_eq_getElem?_getD, hi', hi]
    rw [e2]
    generalize zs.getD i 0 = z at hw' ⊢
    obtain ⟨n, rfl⟩ := Int.eq_ofNat_of_zero_le hw'.1
    congr 2
    simp
    omega
/-- a slice of numbers of 64 bits that came in -/
theorem open_u64s {W : World} {base : Nat} {t e : TypeId} {v : Value} {d : DataW H} {ps : List MemPlace} (ht : P.underlying t = some (.slice e)) (he : P.underlying e = some (.int .u64)) (hc : P.cellsOf e = 1)
    (hval : Value.okWide P W .any base t v) (h : DataW.Trod enc P W 0 (fun _ => true) true t v d ps) :
    ∃ A len cap xs, v = .slice A len cap ∧ xs.length = len ∧ len ≤ cap ∧ cap ≤ maxLen ∧ (A = none → cap = 0) ∧ Us W W.heap.size A xs ∧ (∀ x ∈ xs, InU64 x) ∧ ((∃ elems spare, d = .slice elems spare ∧ elems.length + spare.length = cap) ∨ cap = 0) := by
  obtain ⟨a0, len0, cap0, rfl⟩ := okWide_slice ht hval
  have hlt : ∀ x ∈ ps, x.block < W.heap.size := by obtain ⟨m, hm⟩ := h; exact DataW.trod_lt m _ _ _ hm
  obtain ⟨fuel, hf⟩ := h
  rcases open_ints ht he hc hf with ⟨hcs, _⟩ | ⟨x, l, c, zs, hcs, _, hl, hm, hz, hx, hcell, hwz⟩
  · simp [Value.cells] at hcs
    obtain ⟨rfl, rfl, rfl⟩ := hcs
    exact ⟨none, 0, 0, [], rfl, rfl, Nat.le_refl _, Nat.zero_le _, fun _ => rfl, fun hp => absurd hp (by simp), (fun x hx => by cases hx), .inr rfl⟩
  · simp [Value.cells] at hcs
    obtain ⟨rfl, rfl, rfl⟩ := hcs
    have hz' : zs.length = cap0 := by simpa using hz
    have hdp := (Prod.mk.inj hx)
    have hw' : ∀ z ∈ zs, 0 ≤ z ∧ z ≤ 18446744073709551615 := fun z hzm => by
      have := hwz z hzm
      simpa [Lit.wf, IntKind.min, IntKind.max, IntKind.signed, IntKind.bits] using this
    refine ⟨some x, len0, cap0, (zs.take len0).map Int.toNat, rfl, by simp; omega, hl, hm, (fun hh => by cases hh), ?_, ?_, .inl ⟨_, _, hdp.1, by simp [lits]; omega⟩⟩
    · intro hp
      have hp' : 0 < len0 := by simp at hp; omega
      have hc0 := hcell 0 (by omega)
      obtain ⟨b, off, spot⟩ := x
      have hspot : spot = none := by simpa [Addr.add] using World.cell?_spot hc0
      subst hspot
      refine ⟨b, off, rfl, World.block_lt_of_cell? W _ (by simpa [Addr.add_lit] using hc0), fun i hi => ?_⟩
      simp at hi
      have h1 := hcell i (by omega)
      rw [Addr.add_lit] at h1
      rw [h1]
      have hi' : i < zs.length := by omega
      have hw := hw' (zs.getD i 0) (by simp [List.getD_eq_getElem?_getD, hi'])
      have e2 : ((zs.take len0).map Int.toNat).getD i 0 = (zs.getD i 0).toNat := by
        simp [List.getD_eq_getElem?_getD, hi', hi]
      rw [e2, Int.toNat_of_nonneg hw.1]
    · intro y hy
      obtain ⟨z, hz1, rfl⟩ := List.mem_map.1 hy
      have := hw' z (List.mem_of_mem_take hz1)
      show _ < _
      omega
/-- the reach of a slice of bytes -/
theorem bytes_reach {ts : List TypeId} {ds : List (DataW H)} {e : TypeId} (h1 : P.bytesOf e = 1) (h : (DataW.weightsEach P ts ds).all (· ≤ reachBytes) = true) {j : Nat} {t : TypeId} {d : DataW H} (ht : ts[j]? = some t) (hd : ds[j]? = some d) (hu : P.underlying t = some (.slice e))
    {cap : Nat} (hc : (∃ elems spare, d = .slice elems spare ∧ elems.length + spare.length = cap) ∨ cap = 0) : cap ≤ 140737488351232 := by
  rcases hc with ⟨elems, spare, rfl, rfl⟩ | rfl
  · have := sized_slice h ht hd hu
    rw [h1] at this
    simpa [reachBytes] using this
  · exact Nat.zero_le _
end

section
variable {H : Type} {enc : TypeId × Value → H} {P : Program}
theorem bulk_one {H : Type} (d : DataW H) : 1 ≤ Rows.uptoBulk d := by
  cases d with
  | lit l => cases l <;> simp [Rows.uptoBulk]
  | nil => simp [Rows.uptoBulk]
  | ptr d => simp [Rows.uptoBulk]
  | slice elems spare => simp [Rows.uptoBulk]
  | agg parts => simp [Rows.uptoBulk]
  | iface t d => simp [Rows.uptoBulk]
  | map entries => simp [Rows.uptoBulk]
  | held h => simp [Rows.uptoBulk]
theorem bulk_part {H : Type} {d : DataW H} {l : List (DataW H)} (h : d ∈ l) : Rows.uptoBulk d ≤ Rows.uptoBulkAll l := by
  induction l with
  | nil => cases h
  | cons x r ih =>
    simp only [Rows.uptoBulkAll]
    cases List.mem_cons.1 h with
    | inl e => subst e; omega
    | inr e => have := ih e; omega
theorem bulk_length {H : Type} (l : List (DataW H)) : l.length ≤ Rows.uptoBulkAll l := by
  induction l with
  | nil => simp [Rows.uptoBulkAll]
  | cons x r ih => have := bulk_one x; simp only [Rows.uptoBulkAll, List.length_cons]; omega
/-- THE SECOND FORM's BOUND of a slice's room -/
theorem bulk_cap {H : Type} {ds : List (DataW H)} (h : Rows.uptoSmall H ds = true) {d : DataW H} (hd : d ∈ ds) {cap : Nat} (hc : (∃ elems spare, d = .slice elems spare ∧ elems.length + spare.length = cap) ∨ cap = 0) : cap ≤ 1048576 := by
  rcases hc with ⟨elems, spare, rfl, rfl⟩ | rfl
  · have h0 : Rows.uptoBulkAll ds ≤ 1048576 := of_decide_eq_true h
    have h1 := bulk_part hd
    have h2 := bulk_length elems
    have h3 := bulk_length spare
    simp only [Rows.uptoBulk] at h1
    omega
  · exact Nat.zero_le _
/-- THE SECOND FORM's STEP -/
theorem law_lift_upto {C : Checked} {os : Os} {f : FuncId} {fn : Func} {s : ChangeSpec} {tb : TypeId} (F : Stop.Interp) (own : ownKnob C.prog.godebug = none) (hl : laidOutB C.prog = true) (started : os.Started) (noInit : C.prog.inits.idxOf? f = none) (hfn : C.prog.funcs[f]? = some fn)
    (witness : ∃ (w : World) (tape : Tape) (i : Input), w.os = os ∧ (w.forCall tape i).Shaped C.prog ∧ i.vars = [] ∧ Input.okWide C.prog (w.forCall tape i) .any w.heap.size f i ∧
      (Rows.OpenSpec.upto s).pre6 enc C.prog fn [] false (w.forCall tape i).memory i.args ∧ ({} : Assume).holds C.prog (lone (Frame.enter C.prog f i.args .normal) [] (w.forCall tape i)))
    (hv : s.vars = []) (hr : fn.resultTypes = #[tb]) (htb : C.prog.underlying tb = some .bool) (hread : ∀ t ∈ fn.params.toList, C.prog.readableRec t = true ∧ t < C.prog.types.size)
    (contract : ∀ (W : World) (base : Nat) (args : Array Value) (ds : List (DataW H)) (p : List MemPlace),
      (∀ (j : Nat) t v, fn.params[j]? = some t → args[j]? = some v → Value.okWide C.prog W .any base t v) →
      DataW.TrodAll enc C.prog W 0 (fun _ => true) true fn.params.toList args.toList ds p →
      Rows.uptoSmall H ds = true →
      s.fn H ds = { results := [.lit (.bool true)], args := ds } ∧ Calls C.prog f args W fun e W' => e = .returned (.bool true) ∧ Below W.heap.size W W') :
    ReturnsInHanded {} C os f .any ((Rows.OpenSpec.upto s).pre6 enc C.prog fn [] false) (((Rows.OpenSpec.upto s).at F).post enc C.prog fn false true false false) := by
  refine returnsInHanded_of_cond (C := C) (s := Rows.OpenSpec.upto s) (k := Rows.uptoSmall) rfl own started noInit hfn witness ?_
  intro W base args ds gs before hval hW _ hk _
  have hW' : DataW.Whole enc C.prog fn.params.toList s.vars false W args.toList ds gs before := hW
  have hW2 := hW'
  obtain ⟨p, q, hA, hV, rfl, hfz, hnd⟩ := hW2
  have hgs : gs = [] := by
    rw [hv] at hV
    cases gs with
    | nil => rfl
    | cons g gs => exact hV.elim
  subst hgs
  rw [List.append_nil] at hk
  obtain ⟨hsf, hc⟩ := contract W base args ds p hval hA hk
  refine hc.mono fun e W' ⟨he, bel⟩ => ⟨_, he, ?_⟩
  refine law_post (s := s) hl hv hr htb hread hW' ?_ bel
  rw [List.append_nil]
  exact hsf
end
end Go.Proofs.Yteemdjamgbbjhaa.Lift

/-
  Values behind an address or behind none; bools.
-/
namespace Go.Proofs.Yteemdjamgbbjhaa.Dsk
open Go.RowKit Go.Proofs.Yteemdjamgbbjhaa.Wd

/-- The address A, with as many cells as vs has, reads vs; it lies below block B. -/
def Vs (w : World) (B : Nat) (A : Option Addr) (vs : List Value) : Prop :=
  0 < vs.length → ∃ b o, A = some ⟨b, o, none⟩ ∧ b < B ∧ w.rangeAt b o vs
theorem Vs.below {w w' : World} {B : Nat} {A : Option Addr} {vs : List Value} (h : Vs w B A vs) (hb : Below B w w') : Vs w' B A vs := fun hp => by
  obtain ⟨b, o, e, hlt, hr⟩ := h hp
  exact ⟨b, o, e, hlt, range_below hr hb hlt⟩
theorem wpList_append_vs {P : Program} {w : World} {ops : Array Oper} {rest : List Oper} {o : Oper} {a : Act} {Q : Exit → Act → World → Prop} (hgd : o.guard = none) (s x : Operand) (t : TypeId)
    (ho : o.op = .call { callee := .builtin .append, args := #[s, x], argTypes := #[t, t] })
    (base : Nat) (e : TypeId) (i : TypeInfo) (z : Value) (ht : P.underlying t = some (.slice e)) (hi : P.info? e = some i) (hz : i.zero = some z) (hsize : i.size = 1) (hby : i.bytes = 1) (hzs : z.cells.size = 1)
    (v : Value) (n : Nat) (xs : List Value) (hs : a.eval s = v) (hown : w.ownsRow base e 1 v n xs)
    (A : Option Addr) (m c : Nat) (vs : List Value) (hx : a.eval x = .slice A m c) (hl : vs.length = m) (B : Nat) (hr : Vs w B A vs) (h1 : ∀ u ∈ vs, u.oneCell' = true) (hA : A = none → c = 0)
    (h63 : n + m ≤ 140737488355328) (hbase : base ≤ w.heap.size)
    (h : ∀ v' w', w'.ownsRow base e 1 v' (n + m) (xs ++ vs) → w.grownBy w' v.ownBlock → wpList P ops Q rest (a.put o.dst v') w') : wpList P ops Q (o :: rest) a w := by
  cases A with
  | none =>
    have h0 : m = 0 := by
      rcases Nat.eq_zero_or_pos m with h0 | h0
      · exact h0
      · obtain ⟨b, o, e, _⟩ := hr (by omega)
        cases e
    subst h0
    obtain rfl := hA rfl
    obtain rfl : vs = [] := List.eq_nil_of_length_eq_zero hl
    refine wpList_plain hgd fun K hK' => ?_
    have hrun := run_append_owned_none (P := P) w base t o.type e i 1 ht hi v n xs hown
    unfold Oper.wp
    simp [execOp, ho, resolve, invoke, builtin, hs, hx, hrun, Result.andThen]
    exact hK' _ _ (h v w (by simpa using hown) (World.grownBy.refl _ _))
  | some ad =>
    refine wpList_plain hgd fun K hK' => wp_append_own w s x t ho base e i z 1 1 ht hi hz hsize hby hzs (by omega) v n xs hs hown ad m c vs hx (by omega) (fun j u hu => ?_) h1 (by unfold maxLen; omega) (by omega) hbase fun v' w' h2 h3 _ => hK' _ _ (h v' w' h2 h3)
    have hj : j < vs.length := (List.getElem?_eq_some_iff.1 hu).1
    obtain ⟨b, o, e, _, hc⟩ := hr (by omega)
    obtain rfl := Option.some.inj e
    rw [Addr.add_lit, hc j u hu]
def bools (l : List Bool) : List Value := l.map .bool
theorem bools_one {l : List Bool} : ∀ u ∈ bools l, u.oneCell' = true := by
  intro u hu
  obtain ⟨_, _, rfl⟩ := List.mem_map.1 hu
  rfl
theorem info4 : (Try.prog.info? 4).map (fun i => (i.zero, i.size, i.bytes)) = some (some (.bool false), 1, 1) := by kernel_rfl

end Go.Proofs.Yteemdjamgbbjhaa.Dsk

/-
  The ops of the statements about logs: how they open, their kinds and bytes.
-/
namespace Go.Proofs.Yteemdjamgbbjhaa.Wl
set_option maxRecDepth 100000
open Go.RowKit Go.Proofs.Yteemdjamgbbjhaa.Wd Go.Proofs.Yteemdjamgbbjhaa.Dsk Go.Proofs.Yteemdjamgbbjhaa.Oct Go.ChangeShapes Go.WideShapes Go.Deep

/-- an op's value -/
def opv (k a : Int) (x : UInt8) (A : Option Addr) (n c : Nat) : Value := .agg #[.int .i64 k, .int .i64 a, .int .u8 (x.toNat : Int), .slice A n c]
def ocs (k a : Int) (x : UInt8) (A : Option Addr) (n c : Nat) : List Value := [.int .i64 k, .int .i64 a, .int .u8 (x.toNat : Int), .slice A n c]
/-- an op -/
structure OM where
  k : Int
  a : Int
  x : UInt8
  A : Option Addr
  n : Nat
  c : Nat
  l : List Bool
def OM.cells (o : OM) : List Value := ocs o.k o.a o.x o.A o.n o.c
def OM.val (o : OM) : Value := opv o.k o.a o.x o.A o.n o.c
/-- an op that can be read in a world -/
structure OpOk (W : World) (o : OM) : Prop where
  len : o.l.length = o.n
  vs : Vs W W.heap.size o.A (bools o.l)
  nil : o.A = none → o.c = 0
  most : o.n ≤ 140737488351232
  low : -9223372036854775808 ≤ o.a
  high : o.a < 9223372036854775808
/-- The address A, with as many ops as os has, reads os; it lies below block B. -/
def Opl (w : World) (B : Nat) (A : Option Addr) (os : List OM) : Prop :=
  0 < os.length → ∃ b o, A = some ⟨b, o, none⟩ ∧ b < B ∧ ∀ i m, os[i]? = some m → w.rangeAt b (o + i * 4) m.cells
section
variable {H : Type} {enc : TypeId × Value → H} {W : World}
theorem bytes_bool : Try.prog.bytesOf 4 = 1 := by kernel_rfl
theorem cells_bool : Try.prog.cellsOf 4 = 1 := by kernel_rfl
theorem cells_op : Try.prog.cellsOf 55 = 4 := by kernel_rfl
theorem op_fields : ∃ f0 f1 f2 f3 : Field, Try.prog.underlying 55 = some (.struct #[f0, f1, f2, f3]) ∧ f0.type = 3 ∧ f1.type = 3 ∧ f2.type = 5 ∧ f3.type = 53 ∧ f0.offset = 0 ∧ f1.offset = 1 ∧ f2.offset = 2 ∧ f3.offset = 3 :=
  ⟨_, _, _, _, Try.underlying55, rfl, rfl, rfl, rfl, rfl, rfl, rfl, rfl⟩
theorem cells_int : Try.prog.cellsOf 3 = 1 := by kernel_rfl
theorem cells_u8 : Try.prog.cellsOf 5 = 1 := by kernel_rfl
theorem cells_bs : Try.prog.cellsOf 53 = 1 := by kernel_rfl
/-- a slice of bools that came in -/
theorem open_bs {fuel : Nat} {cs : List Value} {x : DataW H × List MemPlace} (h : DataW.trod enc Try.prog W 0 (fun _ => true) true fuel 53 cs = some x) :
    ∃ A n c l, cs = [.slice A n c] ∧ l.length = n ∧ n ≤ c ∧ (A = none → c = 0) ∧ Vs W W.heap.size A (bools l) ∧ ((x.1.weights Try.prog 53).all (· ≤ reachBytes) = true → c ≤ 140737488351232) := by
  rcases open_bools Try.underlying53 Try.underlying4 cells_bool h with ⟨rfl, rfl⟩ | ⟨a, n, c, B, rfl, _, hl, hm, rfl, hcell⟩
  · exact ⟨none, 0, 0, [], rfl, rfl, Nat.le_refl _, fun _ => rfl, (fun hp => absurd hp (by simp [bools])), fun _ => Nat.zero_le _⟩
  · refine ⟨some a, n, c, (List.range n).map B, rfl, by simp, hl, (fun hh => by cases hh), fun hp => ?_, fun hw => ?_⟩
    · have hp' : 0 < n := by simpa [bools] using hp
      have hc0 := hcell 0 (by omega)
      obtain ⟨b, off, spot⟩ := a
      have hspot : spot = none := by simpa [Addr.add] using World.cell?_spot hc0
      subst hspot
      refine ⟨b, off, rfl, World.block_lt_of_cell? W _ (by simpa [Addr.add_lit] using hc0), fun j v hj => ?_⟩
      have hj' : j < n := by have := (List.getElem?_eq_some_iff.1 hj).1; simpa [bools] using this
      have h1 := hcell j (by omega)
      rw [Addr.add_lit] at h1
      rw [h1]
      simpa [bools, hj'] using hj
    · have hb := bytes_bool
      have hh := List.all_eq_true.1 hw
      have h2 := hh (((List.range n).length + (List.range (c - n)).length) * 1) (by
        simp [boolRow, DataW.weights, Try.underlying53, hb])
      simp [reachBytes] at h2
      omega
theorem open_op {fuel : Nat} {cs : List Value} {x : DataW H × List MemPlace} (h : DataW.trod enc Try.prog W 0 (fun _ => true) true fuel 55 cs = some x) (hw : (x.1.weights Try.prog 55).all (· ≤ reachBytes) = true) :
    ∃ o : OM, cs = o.cells ∧ OpOk W o := by
  obtain ⟨f0, f1, f2, f3, hu, t0, t1, t2, t3, o0, o1, o2, o3⟩ := op_fields
  obtain ⟨xs, n, _, hx, hl, hlen, hf⟩ := DataW.trod_struct hu h
  rw [cells_op] at hl
  match xs, hlen, cs, hl with
  | [y0, y1, y2, y3], _, [v0, v1, v2, v3], _ =>
    have g0 := hf 0 f0 rfl
    have g1 := hf 1 f1 rfl
    have g2 := hf 2 f2 rfl
    have g3 := hf 3 f3 rfl
    simp [t0, t1, t2, t3, o0, o1, o2, o3, cells_int, cells_u8, cells_bs] at g0 g1 g2 g3
    obtain ⟨k, e0, _, w0⟩ := DataW.trod_int Try.underlying3 g0
    obtain ⟨a, e1, _, w1⟩ := DataW.trod_int Try.underlying3 g1
    obtain ⟨b, e2, _, w2⟩ := DataW.trod_int Try.underlying5 g2
    obtain ⟨A, m, c, l, e3, hl3, hmc, hn3, hv3, hr3⟩ := open_bs g3
    have w1' : -9223372036854775808 ≤ a ∧ a ≤ 9223372036854775807 := by simpa [Lit.wf, IntKind.min, IntKind.max, IntKind.signed, IntKind.bits] using w1
    have w2' : 0 ≤ b ∧ b ≤ 255 := by simpa [Lit.wf, IntKind.min, IntKind.max, IntKind.signed, IntKind.bits] using w2
    have hc := hr3 (by
      rw [List.all_eq_true] at hw ⊢
      intro z hz
      refine hw z ?_
      rw [hx]
      have := DataW.weights_mem_each (P := Try.prog) (ts := (#[f0, f1, f2, f3] : Array Field).toList.map (·.type)) (ds := [y0.1, y1.1, y2.1, y3.1]) (j := 3) (t := 53) (d := y3.1) (by simp [t3]) rfl z hz
      simp only [DataW.weights, hu]
      simpa using this)
    refine ⟨⟨k, a, UInt8.ofNat b.toNat, A, m, c, l⟩, ?_, hl3, hv3, hn3, by show m ≤ _; omega, by show _ ≤ a; omega, by show a < _; omega⟩
    simp at e0 e1 e2 e3
    obtain ⟨q, rfl⟩ := Int.eq_ofNat_of_zero_le w2'.1
    have hq : q % 256 = q := by omega
    simp [OM.cells, ocs, e0, e1, e2, e3]
    omega
theorem weights_mem_all {P : Program} {e : TypeId} : ∀ {ds : List (DataW H)} {d : DataW H}, d ∈ ds → ∀ n ∈ d.weights P e, n ∈ DataW.weightsAll P e ds
  | d0 :: ds, d, hd, n, hn => by
    simp only [DataW.weightsAll, List.mem_append]
    rcases List.mem_cons.1 hd with rfl | hd
    · exact .inl hn
    · exact .inr (weights_mem_all hd n hn)
theorem open_ops {v : Value} {d : DataW H} {ps : List MemPlace} {base : Nat} (hval : Value.okWide Try.prog W .any base 52 v) (h : DataW.Trod enc Try.prog W 0 (fun _ => true) true 52 v d ps) (hw : (d.weights Try.prog 52).all (· ≤ reachBytes) = true) :
    ∃ A n c os, v = .slice A n c ∧ os.length = n ∧ n ≤ c ∧ (A = none → c = 0) ∧ c ≤ maxLen ∧ Opl W W.heap.size A os ∧ ∀ o ∈ os, OpOk W o := by
  obtain ⟨a0, len0, cap0, rfl⟩ := okWide_slice Try.underlying52 hval
  obtain ⟨fuel, hf⟩ := h
  have hf' : DataW.trod enc Try.prog W 0 (fun _ => true) true fuel 52 [.slice a0 len0 cap0] = some (d, ps) := hf
  rcases open_slice Try.underlying52 hf' with ⟨h0, _⟩ | ⟨a, n, c, m, q, D, Pl, hcs, _, hl, hm, hmm, hx, hcell⟩
  · simp at h0
    obtain ⟨rfl, rfl, rfl⟩ := h0
    exact ⟨none, 0, 0, [], rfl, rfl, Nat.le_refl _, fun _ => rfl, Nat.zero_le _, (fun hp => absurd hp (by simp)), fun o ho => by cases ho⟩
  · simp at hcs
    obtain ⟨rfl, rfl, rfl⟩ := hcs
    simp only [if_true] at hmm
    subst hmm
    have hd : d = .slice ((List.range len0).map D) ((List.range (m - len0)).map fun j => D (len0 + j)) := congrArg Prod.fst hx
    by_cases hz : len0 = 0
    · subst hz
      exact ⟨some a, 0, m, [], rfl, rfl, hl, (fun hh => by cases hh), hm, (fun hp => absurd hp (by simp)), fun o ho => by cases ho⟩
    have hs : a.spot = none := by
      obtain ⟨cs', h1, h2⟩ := hcell 0 (by omega)
      rw [cells_op] at h1
      obtain ⟨_, hlen, hc⟩ := World.cells?_some h1
      have h00 := hc 0 (by omega)
      rw [add_add] at h00
      rw [List.getElem?_eq_getElem (by omega)] at h00
      simpa [Addr.add] using World.cell?_spot h00
    obtain ⟨b, off, spot⟩ := a
    have hs' : spot = none := hs
    subst hs'
    have each : ∀ i, i < len0 → ∃ o : OM, W.rangeAt b (off + i * 4) o.cells ∧ OpOk W o := fun i hi => by
      obtain ⟨cs', h1, h2⟩ := hcell i (by omega)
      rw [cells_op] at h1
      obtain ⟨_, hlen, hc⟩ := World.cells?_some h1
      obtain ⟨o, rfl, hok⟩ := open_op h2 (by
        rw [List.all_eq_true] at hw ⊢
        intro z hz
        refine hw z ?_
        rw [hd]
        simp only [DataW.weights, Try.underlying52, List.mem_cons, List.mem_append]
        exact .inr (.inl (weights_mem_all (List.mem_map.2 ⟨i, List.mem_range.2 hi, rfl⟩) z hz)))
      refine ⟨o, fun j v hj => ?_, hok⟩
      have h3 := hc j (by rw [← hlen]; exact (List.getElem?_eq_some_iff.1 hj).1)
      rw [add_add, Addr.add_lit] at h3
      rw [Nat.add_assoc, h3, hj]
    have : Inhabited OM := ⟨⟨0, 0, 0, none, 0, 0, []⟩⟩
    obtain ⟨f, hf⟩ := choose_lt each
    refine ⟨_, len0, m, (List.range len0).map f, rfl, by simp, hl, (fun hh => by cases hh), hm, fun hp => ?_, fun o ho => ?_⟩
    · refine ⟨b, off, rfl, ?_, fun i o hi => ?_⟩
      · have := (hf 0 (by omega)).1 0 (.int .i64 (f 0).k) rfl
        exact World.block_lt_of_cell? W _ this
      · have hi' : i < len0 := by have := (List.getElem?_eq_some_iff.1 hi).1; simpa using this
        have : o = f i := by simpa [hi'] using hi.symm
        rw [this]; exact (hf i hi').1
    · obtain ⟨i, hi, rfl⟩ := List.mem_map.1 ho
      exact (hf i (List.mem_range.1 hi)).2
end
theorem OpOk.below {w w' : World} {o : OM} (h : OpOk w o) (hb : Below w.heap.size w w') : OpOk w' o :=
  ⟨h.len, fun hp => by
    obtain ⟨b, q, e, hlt, hr⟩ := h.vs hp
    exact ⟨b, q, e, Nat.lt_of_lt_of_le hlt hb.size, range_below hr hb hlt⟩, h.nil, h.most, h.low, h.high⟩
theorem Opl.below {w w' : World} {B : Nat} {A : Option Addr} {os : List OM} (h : Opl w B A os) (hb : Below B w w') : Opl w' B A os := fun hp => by
  obtain ⟨b, o, e, hlt, hr⟩ := h hp
  exact ⟨b, o, e, hlt, fun i m hm => range_below (hr i m hm) hb hlt⟩
theorem Opl.take {w : World} {B : Nat} {A : Option Addr} {os : List OM} (h : Opl w B A os) (k : Nat) : Opl w B A (os.take k) := fun hp => by
  obtain ⟨b, o, e, hlt, hr⟩ := h (by rw [List.length_take] at hp; omega)
  refine ⟨b, o, e, hlt, fun i m hm => hr i m ?_⟩
  rw [List.getElem?_take] at hm
  split at hm
  · exact hm
  · cases hm
theorem few_any (A : Option Addr) (n c : Nat) (w : World) (hc : n ≤ c) (hA : A = none → c = 0) (hm : c ≤ maxLen) :
    Calls Try.prog 30 #[.slice A n c] w fun e w' => e = .returned (.slice A (min n 40) c) ∧ w' = w := by
  unfold maxLen at hm
  go_enter Try.func30, Try.ntmps30
  go_wp2
  case inl =>
    go_ret
    exact ⟨by rw [show min n 40 = 40 by omega]; rfl, rfl⟩
  case inr =>
    go_ret
    exact ⟨by rw [show min n 40 = n by omega]; rfl, rfl⟩

/-- an op's kind: 0 append, 1 checkpoint, 2 fail, 3 arm, 4 crash -/
def kindW (k : Int) : Nat := ((IntKind.u64.wrap k).tmod 8).toNat - 3
theorem mod8 (k : Int) : ∃ r : Nat, r < 8 ∧ (IntKind.u64.wrap k).tmod 8 = (r : Int) := by
  have h0 : 0 ≤ IntKind.u64.wrap k := by simp only [IntKind.wrap_u64]; omega
  refine ⟨((IntKind.u64.wrap k).tmod 8).toNat, ?_, ?_⟩
  · rw [Int.tmod_eq_emod_of_nonneg h0]; omega
  · rw [Int.tmod_eq_emod_of_nonneg h0]; omega
theorem idx8 (w : World) : (Instr.index 116 (.agg #[.int .i64 0, .int .i64 0, .int .i64 0, .int .i64 0, .int .i64 1, .int .i64 2, .int .i64 3, .int .i64 4]) (.int .u64 0)).run Try.prog w = .ok (.int .i64 0) w ∧ (Instr.index 116 (.agg #[.int .i64 0, .int .i64 0, .int .i64 0, .int .i64 0, .int .i64 1, .int .i64 2, .int .i64 3, .int .i64 4]) (.int .u64 1)).run Try.prog w = .ok (.int .i64 0) w ∧ (Instr.index 116 (.agg #[.int .i64 0, .int .i64 0, .int .i64 0, .int .i64 0, .int .i64 1, .int .i64 2, .int .i64 3, .int .i64 4]) (.int .u64 2)).run Try.prog w = .ok (.int .i64 0) w ∧ (Instr.index 116 (.agg #[.int .i64 0, .int .i64 0, .int .i64 0, .int .i64 0, .int .i64 1, .int .i64 2, .int .i64 3, .int .i64 4]) (.int .u64 3)).run Try.prog w = .ok (.int .i64 0) w ∧ (Instr.index 116 (.agg #[.int .i64 0, .int .i64 0, .int .i64 0, .int .i64 0, .int .i64 1, .int .i64 2, .int .i64 3, .int .i64 4]) (.int .u64 4)).run Try.prog w = .ok (.int .i64 1) w ∧ (Instr.index 116 (.agg #[.int .i64 0, .int .i64 0, .int .i64 0, .int .i64 0, .int .i64 1, .int .i64 2, .int .i64 3, .int .i64 4]) (.int .u64 5)).run Try.prog w = .ok (.int .i64 2) w ∧ (Instr.index 116 (.agg #[.int .i64 0, .int .i64 0, .int .i64 0, .int .i64 0, .int .i64 1, .int .i64 2, .int .i64 3, .int .i64 4]) (.int .u64 6)).run Try.prog w = .ok (.int .i64 3) w ∧ (Instr.index 116 (.agg #[.int .i64 0, .int .i64 0, .int .i64 0, .int .i64 0, .int .i64 1, .int .i64 2, .int .i64 3, .int .i64 4]) (.int .u64 7)).run Try.prog w = .ok (.int .i64 4) w := by
  refine ⟨?_, ?_, ?_, ?_, ?_, ?_, ?_, ?_⟩ <;> kernel_rfl
set_option maxHeartbeats 4000000 in
theorem kind_any (o : OM) (w : World) : Calls Try.prog 31 #[o.val] w fun e w' => e = .returned (.int .i64 (kindW o.k : Int)) ∧ Below w.heap.size w w' := by
  obtain ⟨k, a, x, A, n, c, l⟩ := o
  obtain ⟨r, hr, hm⟩ := mod8 k
  unfold OM.val opv
  dsimp only
  have hk : kindW k = r - 3 := by unfold kindW; rw [hm]; rfl
  have HK := Lib.hid hk
  have hb : Below w.heap.size w (w.alloc (.cells #[.int .i64 k, .int .i64 a, .int .u8 (x.toNat : Int), .slice A n c] 55)) := (Below.refl _ _).alloc (Nat.le_refl _) _
  have HB := Lib.hid hb
  clear hk hb
  have h8 : r = 0 ∨ r = 1 ∨ r = 2 ∨ r = 3 ∨ r = 4 ∨ r = 5 ∨ r = 6 ∨ r = 7 := by omega
  clear hr
  rcases h8 with rfl | rfl | rfl | rfl | rfl | rfl | rfl | rfl
  all_goals
    go_enter Try.func31, Try.ntmps31
    obtain ⟨i0, i1, i2, i3, i4, i5, i6, i7⟩ := idx8 (w.alloc (.cells #[.int .i64 k, .int .i64 a, .int .u8 (x.toNat : Int), .slice A n c] 55))
    go_wp2
    go_ret
    exact ⟨by rw [HK.out]; rfl, HB.out⟩
/-- how many bytes an op has, and which -/
def lenO (a : Int) : Nat := ((IntKind.u64.wrap a).tmod 400).toNat
def opB (o : OM) : List UInt8 := (List.range (lenO o.a)).map fun (i : Nat) => o.x + UInt8.ofNat (i * i)
theorem len_lt (a : Int) : lenO a < 400 ∧ (IntKind.u64.wrap a).tmod 400 = (lenO a : Int) := by
  have h0 : 0 ≤ IntKind.u64.wrap a := by simp only [IntKind.wrap_u64]; omega
  unfold lenO
  rw [Int.tmod_eq_emod_of_nonneg h0]
  omega
theorem opB_len (o : OM) : (opB o).length = lenO o.a := by simp [opB]
/-- the bytes when r of them are written -/
def opBr (x : UInt8) (n r : Nat) : List UInt8 := ((List.range r).map fun (i : Nat) => x + UInt8.ofNat (i * i)) ++ List.replicate (n - r) 0
theorem opBr_len (x : UInt8) {n r : Nat} (h : r ≤ n) : (opBr x n r).length = n := by simp [opBr]; omega
theorem opBr_set (x : UInt8) {n r : Nat} (h : r < n) : (opBr x n r).set r (x + UInt8.ofNat (r * r)) = opBr x n (r + 1) := by
  unfold opBr
  rw [List.set_append_right _ _ (by simp), List.length_map, List.length_range, Nat.sub_self, show n - r = n - (r + 1) + 1 by omega, List.replicate_succ, List.set_cons_zero, List.range_succ, List.map_append, List.append_assoc]
  rfl
theorem make_u8 (n : Nat) (hn : n < 400) (u : World) : (Instr.makeSlice 37 (.int .u64 (n : Int)) (.int .u64 (n : Int))).run Try.prog u =
    .ok (.slice (some ⟨u.heap.size, 0, none⟩) n n) (u.alloc (.cells (madeCells #[.int .u8 0] n) 5)) := by
  obtain ⟨i0, hi, hz0, hz1, hz2⟩ := info_parts info5
  have h := run_make (P := Try.prog) u 37 5 i0 (.int .u8 0) Try.underlying37 hi hz0 .u64 .u64 (n : Int) (n : Int) (by omega) (by omega) (by rw [hz2]; omega) (by omega)
  rw [hz1] at h
  rw [show (Value.int IntKind.u8 0).cells = #[.int .u8 0] from rfl] at h
  simpa using h
theorem u8_add_sq (x : UInt8) (i : Nat) : ((x.toNat : Int) + (i : Int) * (i : Int)) % 256 = (((x + UInt8.ofNat (i * i)).toNat : Nat) : Int) := by
  have h1 : (i : Int) * (i : Int) = ((i * i : Nat) : Int) := by push_cast; rfl
  rw [h1]
  simp only [UInt8.toNat_add, UInt8.toNat_ofNat']
  omega
/-- what an op's bytes are made of -/
def MkO (w w' : World) (l : List UInt8) (e : Ending) : Prop := ∃ g, e = .returned (.slice (some ⟨g, 0, none⟩) l.length l.length) ∧ Row w' g 5 (bv l) ∧ w.heap.size ≤ g ∧ Below w.heap.size w w'
set_option maxHeartbeats 4000000 in
theorem bytes_any (o : OM) (w : World) : Calls Try.prog 32 #[o.val] w fun e w' => MkO w w' (opB o) e := by
  have mixed : Try.prog.follows .mixedOrders = true := by kernel_rfl
  have hl := opB_len o
  have hof : opBr o.x (lenO o.a) (lenO o.a) = opB o := by unfold opBr opB; rw [Nat.sub_self, List.replicate_zero, List.append_nil]
  obtain ⟨lb, hlb⟩ : ∃ lb, opB o = lb := ⟨_, rfl⟩
  rw [hlb] at hl hof ⊢
  obtain ⟨k, a, x, A, n, c, l⟩ := o
  dsimp only at hl hof
  obtain ⟨hm, hmod⟩ := len_lt a
  obtain ⟨m, hme⟩ : ∃ m, lenO a = m := ⟨_, rfl⟩
  rw [hme] at hm hmod hl hof
  have HOF := Lib.hid hof
  have HL := Lib.hid hl
  unfold OM.val opv
  dsimp only
  clear hlb hme hof hl
  obtain ⟨w1, hw1⟩ : ∃ w1, w1 = w.alloc (.cells #[.int .i64 k, .int .i64 a, .int .u8 (x.toNat : Int), .slice A n c] 55) := ⟨_, rfl⟩
  have hr1 : Row w1 w.heap.size 55 [.int .i64 k, .int .i64 a, .int .u8 (x.toNat : Int), .slice A n c] := by rw [hw1]; exact Row.new w _ _
  have hb1 : Below w.heap.size w w1 := by rw [hw1]; exact (Below.refl _ _).alloc (Nat.le_refl _) _
  have HW1 := Lib.hid hw1
  have HR1 := Lib.hid hr1
  have HB1 := Lib.hid hb1
  clear hw1 hr1 hb1
  have hmk := make_u8 m hm w1
  go_enter Try.func32, Try.ntmps32
  go_wp2_with fail
  rw [← HW1.out, hmk]
  go_wp2_with fail
  have hrz : List.replicate m (Value.int .u8 0) = bv (opBr x m 0) := by
    unfold opBr
    rw [Nat.sub_zero, bv_zero]; rfl
  have hr2 : Row (w1.alloc (.cells (madeCells #[.int .u8 0] m) 5)) w1.heap.size 5 (bv (opBr x m 0)) := by
    rw [← hrz]; exact Row.made w1 _ _ _
  have hb2 : Below w1.heap.size w1 (w1.alloc (.cells (madeCells #[.int .u8 0] m) 5)) := (Below.refl _ _).alloc (Nat.le_refl _) _
  generalize w1.alloc (.cells (madeCells #[.int .u8 0] m) 5) = w2 at hr2 hb2 ⊢
  obtain ⟨g, hg⟩ : ∃ g, w1.heap.size = g := ⟨_, rfl⟩
  obtain ⟨b0, hb0⟩ : ∃ b0, w.heap.size = b0 := ⟨_, rfl⟩
  have HBG : Hid (b0 < g) := Lib.hid (by rw [← hg, ← hb0]; exact HR1.out.lt)
  have HGW : Hid (w.heap.size ≤ g) := Lib.hid (by rw [← hg]; exact HB1.out.size)
  have HI0 : Hid (Row w2 b0 55 [.int .i64 k, .int .i64 a, .int .u8 (x.toNat : Int), .slice A n c] ∧ Row w2 g 5 (bv (opBr x m 0)) ∧ Below w.heap.size w w2) := Lib.hid ⟨by rw [← hb0]; exact HR1.out.below hb2 HR1.out.lt, by rw [← hg]; exact hr2, HB1.out.trans (hb2.mono HB1.out.size)⟩
  rw [hg, hb0]
  clear hr2 hb2 hrz hg hb0 HW1 HR1 HB1 hmk hmod
  go_loopw [12] (fun t12 wr => ∃ r : Nat, r ≤ m ∧ t12 = .int .i64 (r : Int) ∧ Hid (Row wr b0 55 [.int .i64 k, .int .i64 a, .int .u8 (x.toNat : Int), .slice A n c] ∧ Row wr g 5 (bv (opBr x m r)) ∧ Below w.heap.size w wr)) (fun t12 _ => m - (intOf t12).toNat)
  case atStart => exact ⟨0, Nat.zero_le _, rfl, HI0⟩
  case round =>
    obtain ⟨r, hr, rfl, HI⟩ := hrel
    clear HI0
    by_cases hlt : r < m
    case neg =>
      have h1 : ¬ (r : Int) < (m : Int) := by omega
      obtain rfl : r = m := by omega
      go_wp2
      go_ret
      exact ⟨g, by rw [HL.out]; rfl, by rw [← HOF.out]; exact HI.out.2.1, HGW.out, HI.out.2.2⟩
    have h1 : (r : Int) < (m : Int) := by omega
    have h0 : (0 : Int) ≤ (r : Int) := by omega
    have c2 : wr.cell? ⟨b0, 2, none⟩ = some (.int .u8 (x.toNat : Int)) := HI.out.1.cell 2
    have hgc : wr.cell? ⟨g, r, none⟩ = some (.int .u8 (((opBr x m r).getD r 0).toNat : Int)) := by
      rw [HI.out.2.1.cell]
      have : r < (opBr x m r).length := by rw [opBr_len x (by omega)]; exact hlt
      simp [bv, this]
    have hgf := HI.out.2.1.frozen r
    have hw4 : wrap64 ((r : Int) * (r : Int)) = (r : Int) * (r : Int) := by
      have : (r : Int) * (r : Int) ≤ 400 * 400 := Int.mul_le_mul (by omega) (by omega) (by omega) (by omega)
      have : 0 ≤ (r : Int) * (r : Int) := Int.mul_nonneg h0 h0
      unfold wrap64; omega
    have HW5 := Lib.hid (u8_add_sq x r)
    have HN : Hid (∀ v : Value, v = .int .u8 (((x + UInt8.ofNat (r * r)).toNat : Nat) : Int) → Row (wr.setCell ⟨g, r, none⟩ v) b0 55 [.int .i64 k, .int .i64 a, .int .u8 (x.toNat : Int), .slice A n c] ∧ Row (wr.setCell ⟨g, r, none⟩ v) g 5 (bv (opBr x m (r + 1))) ∧ Below w.heap.size w (wr.setCell ⟨g, r, none⟩ v)) := Lib.hid fun v hv => by
      refine ⟨HI.out.1.far (by have := HBG.out; show b0 ≠ g; omega) _, ?_, HI.out.2.2.setCell HGW.out _⟩
      have := HI.out.2.1.store r v
      rw [← opBr_set x hlt]
      rw [hv] at this ⊢
      have e2 : (bv (opBr x m r)).set r (.int .u8 (((x + UInt8.ofNat (r * r)).toNat : Nat) : Int)) = bv ((opBr x m r).set r (x + UInt8.ofNat (r * r))) := by
        simp [bv, List.map_set]
      rw [e2] at this
      exact this
    obtain ⟨q, hq⟩ : ∃ q, x + UInt8.ofNat (r * r) = q := ⟨_, rfl⟩
    rw [hq] at HW5 HN
    clear hq
    go_wp2
    go_roundw
    case rel => exact ⟨r + 1, by omega, by go_num, HN.out _ (by rw [HW5.out])⟩
    case measure => simp [intOf]; omega
end Go.Proofs.Yteemdjamgbbjhaa.Wl

/-
  What a log tells, as a state of the statements'.
-/
namespace Go.Proofs.Yteemdjamgbbjhaa.Wl
set_option maxRecDepth 100000
open Go.RowKit Go.Shelf Go.Proofs.Yteemdjamgbbjhaa.Wd Go.Proofs.Yteemdjamgbbjhaa.Dsk Go.Proofs.Yteemdjamgbbjhaa.Oct Go.Proofs.Yteemdjamgbbjhaa.Sum Go.Proofs.Yteemdjamgbbjhaa.Beq

attribute [local go_sem] Oper.semAt_some

theorem wp_append_placed {P : Program} {w : World} {o : Oper} {a : Act} {K : Act → World → Prop} {Q : Exit → Act → World → Prop} (s x : Operand) (t : TypeId)
    (ho : o.op = .call { callee := .builtin .append, args := #[s, x], argTypes := #[t, t] })
    (e : TypeId) (i : TypeInfo) (z : Value) (bytes : Nat) (ht : P.underlying t = some (.slice e)) (hi : P.info? e = some i) (hz : i.zero = some z) (hsize : i.size = 1) (hby : i.bytes = bytes) (hzs : z.cells.size = 1)
    (v : Value) (n : Nat) (xs : List Value) (hs : a.eval s = v) (hown : w.ownsRow 0 e 1 v n xs)
    (ad : Addr) (m c : Nat) (news : List Value) (hx : a.eval x = .slice (some ad) m c) (hl : news.length = m * 1) (hnews : ∀ j u, news[j]? = some u → w.cell? (ad.add j) = some u) (h1 : ∀ u ∈ news, u.oneCell' = true)
    (h63 : n + m ≤ maxLen) (hbytes : (n + m) * bytes ≤ 140737488355328)
    (h : ∀ v' w', w'.ownsRow 0 e 1 v' (n + m) (xs ++ news) → w.grownBy w' v.ownBlock → (∀ b, v'.ownBlock = some b → v.ownBlock = some b ∨ w.heap.size ≤ b) → K (a.put o.dst v') w') : o.wp P a w K Q := by
  obtain ⟨v', w', hr, h2, h3, h4⟩ := run_append_own (P := P) w 0 t o.type e i z 1 bytes ht hi hz hsize hby hzs (by decide) v n xs hown ad m c news hl hnews h1 h63 hbytes (Nat.zero_le _)
  have hp := append_place ht hi hz hsize hby hzs (by decide) hown hl hnews h1 h63 hbytes hr
  unfold Oper.wp
  simp [execOp, ho, resolve, invoke, builtin, hs, hx, hr, Result.andThen]
  exact h v' w' h2 h3 hp
theorem wpListIn_append_placed {P : Program} {w : World} {l n0 : Nat} {ops : Array Oper} {rest : List Oper} {o : Oper} {a : Act} {Q : Exit → Act → World → Prop} (hgd : o.guard = none) (s x : Operand) (t : TypeId)
    (ho : o.op = .call { callee := .builtin .append, args := #[s, x], argTypes := #[t, t] })
    (e : TypeId) (i : TypeInfo) (z : Value) (bytes : Nat) (ht : P.underlying t = some (.slice e)) (hi : P.info? e = some i) (hz : i.zero = some z) (hsize : i.size = 1) (hby : i.bytes = bytes) (hzs : z.cells.size = 1)
    (v : Value) (n : Nat) (xs : List Value) (hs : a.eval s = v) (hown : w.ownsRow 0 e 1 v n xs)
    (ad : Addr) (m c : Nat) (news : List Value) (hx : a.eval x = .slice (some ad) m c) (hl : news.length = m * 1) (hnews : ∀ j u, news[j]? = some u → w.cell? (ad.add j) = some u) (h1 : ∀ u ∈ news, u.oneCell' = true)
    (h63 : n + m ≤ maxLen) (hbytes : (n + m) * bytes ≤ 140737488355328)
    (h : ∀ v' w', w'.ownsRow 0 e 1 v' (n + m) (xs ++ news) → w.grownBy w' v.ownBlock → (∀ b, v'.ownBlock = some b → v.ownBlock = some b ∨ w.heap.size ≤ b) → wpListIn (Fence.wide.inRound l) n0 P ops Q rest (a.put o.dst v') w') : wpListIn (Fence.wide.inRound l) n0 P ops Q (o :: rest) a w :=
  wpListIn_plain hgd fun K hK => op_in2 (fun c e => by rw [ho] at e; cases e) (wp_append_placed s x t ho e i z bytes ht hi hz hsize hby hzs v n xs hs hown ad m c news hx hl hnews h1 h63 hbytes fun v' w' q1 q2 q3 => hK _ _ (h v' w' q1 q2 q3))
theorem size60 : (Try.prog.info? 60).map (·.size) = some 2 := by kernel_rfl
/-- a state's cells -/
def scs (As : Option Addr) (ns cs : Nat) (Al : Option Addr) (nl cl : Nat) : List Value := [.slice As ns cs, .slice Al nl cl]
theorem scs_one (As : Option Addr) (ns cs : Nat) (Al : Option Addr) (nl cl : Nat) : ∀ v ∈ scs As ns cs Al nl cl, v.oneCell' = true := by
  intro v hv
  simp only [scs, List.mem_cons, List.not_mem_nil, or_false] at hv
  rcases hv with rfl | rfl <;> rfl
/-- a state that a world holds: bytes b and the list fs, from block lo on -/
def StV (w : World) (lo : Nat) (v : Value) (b : List UInt8) (fs : List (List UInt8)) : Prop :=
  ∃ As ns cs Al cl, v = .agg (scs As ns cs Al fs.length cl).toArray ∧ By w As ns cs b ∧ ns ≤ 40000 ∧ (∀ k, (Value.slice As ns cs).ownBlock = some k → lo ≤ k) ∧ Frs w lo Al cl fs
theorem Frs.keep {W W' : World} {base cc : Nat} {A : Option Addr} {fs : List (List UInt8)} (h : Frs W base A cc fs) (hk : ∀ k, base ≤ k → k < W.heap.size → W'.heap[k]? = W.heap[k]?) : Frs W' base A cc fs := by
  obtain ⟨xs, h1, h2, h3⟩ := h
  exact ⟨xs, own_kept h1 (fun k hkb hlt => hk k (h2 k hkb) hlt), h2, fun i hi => by
    obtain ⟨Ai, ni, ci, q1, q2, q3, q4⟩ := h3 i hi
    exact ⟨Ai, ni, ci, q1, own_kept q2 (fun k hkb hlt => hk k (q4 k hkb) hlt), q3, q4⟩⟩
theorem StV.keep {w w' : World} {lo : Nat} {v : Value} {b : List UInt8} {fs : List (List UInt8)} (h : StV w lo v b fs) (hk : ∀ k, lo ≤ k → k < w.heap.size → w'.heap[k]? = w.heap[k]?) : StV w' lo v b fs := by
  obtain ⟨As, ns, cs, Al, cl, h1, h2, h3, h4, h5⟩ := h
  exact ⟨As, ns, cs, Al, cl, h1, own_kept h2 (fun k hkb hlt => hk k (h4 k hkb) hlt), h3, h4, h5.keep hk⟩
theorem StV.below {w w' : World} {lo : Nat} {v : Value} {b : List UInt8} {fs : List (List UInt8)} (h : StV w lo v b fs) (hb : Below w.heap.size w w') : StV w' lo v b fs := h.keep fun k _ hlt => hb.block k hlt
theorem snapshot_own (g dg area t n c used : Nat) (A : Option Addr) (br : Bool) (xs : List Value) (A0 : Option Addr) (m c0 : Nat) (b : List UInt8) (w : World) (h : Row w g 83 (wcs dg area t A (n + 1) c used br))
    (ho : w.ownsRow 0 37 1 (.slice A (n + 1) c) (n + 1) xs) (hx : xs[0]? = some (.slice A0 m c0)) (hb : By w A0 m c0 b) (hm : m ≤ 40000) :
    Calls Try.prog 22 #[.pointer (some ⟨g, 0, none⟩)] w fun e w' => ∃ A' c', e = .returned (.slice A' m c') ∧ By w' A' m c' b ∧ (∀ k, (Value.slice A' m c').ownBlock = some k → w.heap.size ≤ k) ∧ Below w.heap.size w w' := by
  have c3 : w.cell? ⟨g, 3, none⟩ = some (.slice A (n + 1) c) := h.cell 3
  obtain ⟨gx, rfl, hc0⟩ : ∃ gx, A = some ⟨gx, 0, none⟩ ∧ w.cell? ⟨gx, 0, none⟩ = some (.slice A0 m c0) := by
    rcases ho with ⟨hl, hv | ⟨gx, cap, cur, hv, _, hg, h1, h2, h3, h4⟩⟩
    · cases hv.2
    · cases hv
      refine ⟨gx, rfl, ?_⟩
      rw [cell_of_row w gx 0 cur _ (0, 0) hg]
      rw [← h4, List.getElem?_take_of_lt (by omega)] at hx
      simpa using hx
  have HC := Lib.hid (clone_own A0 b c0 m w hb.sl (by omega))
  go_enter Try.func22, Try.ntmps22
  go_wp2_with fail
  refine HC.out.mono ?_
  rintro e w2 ⟨A2, c2, rfl, h1, h2, h3⟩
  go_wp2
  go_ret
  exact ⟨A2, c2, rfl, h1, h2, h3⟩
theorem getD_lt {α : Type} (l : List α) (i : Nat) (d : α) (h : i < l.length) : l[i] = l.getD i d := by
  rw [List.getD_eq_getElem?_getD, List.getElem?_eq_getElem h]; rfl
theorem grown_setAt (W : World) (p : Addr) (v : Value) : W.grownBy (W.setCell p v) (some p.block) :=
  ⟨rfl, rfl, rfl, by simp [World.setCell], fun k _ hne => Below.heap_setCell W p v k (fun e => hne (by rw [e]))⟩
/-- what the rounds hold -/
structure TI (w : World) (B3 B : Nat) (As : Option Addr) (ns cs : Nat) (b0 : List UInt8) (L : List (List UInt8)) (pre : List EA) (W : World) : Prop where
  r2 : Row W w.heap.size 60 (scs none 0 0 none 0 0)
  st : ∃ Al cl, Row W B3 60 (scs As ns cs Al pre.length cl) ∧ Frs W B Al cl (L.take pre.length) ∧ pre.length ≤ L.length
  by0 : By W As ns cs b0
  hb : Below w.heap.size w W
  sz : B ≤ W.heap.size
def TAx (L : List (List UInt8)) (B : Nat) (tm : Value → Value → Value → Array Value) (pre : List EA) (x : EA) (a' : Act) (W : World) : Prop :=
  ∃ v11, a' = { tmps := tm v11 (.slice x.2.1 x.2.2.1 x.2.2.2) (.slice x.2.1 x.2.2.1 x.2.2.2), defers := [] } ∧ pre.length < L.length ∧ By W x.2.1 x.2.2.1 x.2.2.2 (L.getD pre.length []) ∧ x.2.2.1 ≤ 40000 ∧ (∀ k, (Value.slice x.2.1 x.2.2.1 x.2.2.2).ownBlock = some k → B ≤ k)
/-- what is told -/
def Tld (w w' : World) (b : List UInt8) (fs : List (List UInt8)) (e : Ending) : Prop := ∃ v, e = .returned v ∧ StV w' w.heap.size v b fs ∧ Below w.heap.size w w'
theorem load_state {W : World} {b : Nat} {cs : List Value} (h : Row W b 60 cs) (hl : cs.length = 2) : (loadVar 60 ⟨b, 0, none⟩).run Try.prog W = .ok (.agg cs.toArray) W :=
  run_loadVar_mid W b 0 60 cs _ (Row.all h) Try.underlying60 rfl (by rw [hl]; exact size60)
set_option maxHeartbeats 8000000 in
theorem told_any (g dg area t : Nat) (fs : List (List UInt8)) (br : Bool) (G : Nat → Prop) (w : World) (hlog : Log w G g dg area t fs br) (hG : ∀ k, G k → k < w.heap.size) (hne : fs ≠ []) (hn : fs.length ≤ 10000) :
    Calls Try.prog 35 #[.pointer (some ⟨g, 0, none⟩)] w fun e w' => Tld w w' (fs.getD 0 []) (fs.drop 1) e := by
  have mixed : Try.prog.follows .mixedOrders = true := by kernel_rfl
  obtain ⟨A, c, xs, hrow, hown, hGg, hGA, hat⟩ := hlog
  obtain ⟨n, hfn⟩ : ∃ n, fs.length = n + 1 := ⟨fs.length - 1, by cases fs with | nil => exact absurd rfl hne | cons a l => simp⟩
  obtain ⟨A0, m0, c0, hx0, hby0, hm0, hG0⟩ := hat 0 (by omega)
  have HAT := Lib.hid hat
  have HFN := Lib.hid hfn
  rw [hfn] at hrow hown hGA
  have HROW := Lib.hid hrow
  have HOWN := Lib.hid hown
  have HGA := Lib.hid hGA
  have HG := Lib.hid hG
  have HX0 := Lib.hid hx0
  have HBY0 := Lib.hid hby0
  clear hrow hown hGA hat hx0 hby0 hG0 hG hne hfn
  refine (callsIn_wide (n := 9)).1 ?_
  refine callsIn_of_wp_marks Try.func35 rfl trivial ?_ rfl
  refine wpIn_wide.2 ?_
  simp only [Try.ntmps35, List.size_toArray, List.length_cons, List.length_nil, Nat.reduceAdd, Nat.reduceSub, Array.replicate_succ, Array.replicate_zero, List.push_toArray, List.append_toArray, List.nil_append, List.cons_append]
  go_wp2_with fail
  have hr2 : Row (w.alloc (.cells #[.slice none 0 0, .slice none 0 0] 60)) w.heap.size 60 (scs none 0 0 none 0 0) := Row.new w _ _
  have hb1 : Below w.heap.size w (w.alloc (.cells #[.slice none 0 0, .slice none 0 0] 60)) := (Below.refl _ _).alloc (Nat.le_refl _) _
  generalize w.alloc (.cells #[.slice none 0 0, .slice none 0 0] 60) = w1 at hr2 hb1 ⊢
  refine (snapshot_own g dg area t n c (usedM fs) A br xs A0 m0 c0 (fs.getD 0 []) w1 (HROW.out.below hb1 HROW.out.lt) (own_below HOWN.out hb1) HX0.out (own_below HBY0.out hb1) hm0).mono ?_
  rintro e w2 ⟨As, cs, rfl, hby, hnew, hb2⟩
  have HBY := Lib.hid hby
  have HNEW : Hid (∀ k, (Value.slice As m0 cs).ownBlock = some k → w.heap.size ≤ k) := Lib.hid fun k hk => Nat.le_trans hb1.size (hnew k hk)
  have HB2 := Lib.hid (hb1.trans (hb2.mono hb1.size))
  have HR2 := Lib.hid (hr2.below hb2 hr2.lt)
  clear hby hnew hb2 hr2 hb1
  have HLS := Lib.hid fun (As : Option Addr) (ns cs : Nat) (Al : Option Addr) (nl cl : Nat) => (show (scs As ns cs Al nl cl).length = (scs none 0 0 none 0 0).length from rfl)
  have HI2 := Lib.hid fun (As : Option Addr) (ns cs : Nat) (Al : Option Addr) (nl cl : Nat) => (show (Try.prog.info? 60).map (·.size) = some (scs As ns cs Al nl cl).length from size60)
  go_wp2_with (first
    | (with_reducible refine wpList_store_whole (op := ⟨none, _, _, _, _, _⟩) ?_ 60 (.tmp 3) (.tmp 8) ?_ w2.heap.size (scs As m0 cs none 0 0) ?_ ?_ 60 (scs none 0 0 none 0 0) ?hrow (HLS.out _ _ _ _ _ _) (scs_one _ _ _ _ _ _) (HI2.out _ _ _ _ _ _) ?_))
  case hrow => exact Row.new w2 _ (scs none 0 0 none 0 0)
  all_goals try (first | rfl | (simp; done))
  intro w3 hr3 hg3
  have hb23 : Below w2.heap.size w2 w3 := ((Below.refl _ _).alloc (Nat.le_refl _) _).grown hg3 (by simp) (fun k hk => by cases hk; exact Nat.le_refl _)
  obtain ⟨B3, hB3⟩ : ∃ B3, w2.heap.size = B3 := ⟨_, rfl⟩
  have HB3W : Hid (w.heap.size < B3) := Lib.hid (by rw [← hB3]; exact HR2.out.lt)
  rw [hB3] at hr3
  have HR3 := Lib.hid hr3
  have HB3 := Lib.hid (HB2.out.trans (hb23.mono HB2.out.size))
  have HR23 := Lib.hid (HR2.out.below hb23 HR2.out.lt)
  have HBY3 := Lib.hid (own_below HBY.out hb23)
  clear hr3 hg3 hb23 HBY HR2
  have hrow3 := HROW.out.below HB3.out HROW.out.lt
  go_wp2_with fail
  rw [hB3]
  clear hB3
  refine (all_log g dg area t (n + 1) c (usedM fs) A br w3 hrow3).mono ?_
  rintro e w7 ⟨rfl, hb7, hr7⟩
  obtain ⟨Bf, hBf⟩ : ∃ Bf, w3.heap.size = Bf := ⟨_, rfl⟩
  obtain ⟨B, hB⟩ : ∃ B, w7.heap.size = B := ⟨_, rfl⟩
  have HLT : Hid (w.heap.size < B3 ∧ B3 < Bf ∧ Bf < B) := Lib.hid ⟨HB3W.out, by rw [← hBf]; exact HR3.out.lt, by rw [← hBf, ← hB]; exact hr7.lt⟩
  have HB7 := Lib.hid (HB3.out.trans (hb7.mono HB3.out.size))
  have HFA : Hid (FA w7 (fun k => G k ∨ k = Bf) Bf A c fs) := Lib.hid (by
    refine ⟨by rw [HFN.out, ← hBf]; exact hr7.cell 0, .inr rfl, fun k hk => ?_, fun i hi => ?_⟩
    · rcases hk with hk | hk
      · exact Nat.lt_of_lt_of_le (HG.out k hk) HB7.out.size
      · rw [hk, ← hBf]; exact hr7.lt
    · have hrow5 := HOWN.out
      rcases hrow5 with ⟨hxl, hv | ⟨gx, cap, cur, hv, _, hg, q1, q2, q3, q4⟩⟩
      · exact absurd hv.2 (by omega)
      · cases hv
        have hgx := HGA.out gx rfl
        obtain ⟨Ai, ni, ci, s1, s2, s3, s4⟩ := HAT.out i hi
        refine ⟨gx, rfl, .inl hgx, Ai, ni, ci, ?_, own_below s2 HB7.out, s3, fun k hk => .inl (s4 k hk)⟩
        rw [World.cell?_of_block (a := ⟨gx, i, none⟩) (HB7.out.block gx (HG.out _ hgx)), cell_of_row w gx i cur _ (0, 0) hg]
        rw [← q4, List.getElem?_take_of_lt (by rw [HFN.out] at hi; omega)] at s1
        simpa using s1)
  have HR37 := Lib.hid (HR3.out.below hb7 HR3.out.lt)
  have HR27 := Lib.hid (HR23.out.below hb7 HR23.out.lt)
  have HBY7 := Lib.hid (own_below HBY3.out hb7)
  have HSZ7 := Lib.hid hB
  rw [hBf]
  clear hr7 hb7 hBf hB hrow3 HR3 HR23 HBY3 HROW
  go_wp2_with fail
  refine (wpIn_wide (n := 9)).1 ?_
  have HOWI : Hid (w7.heap.size = B) := HSZ7
  refine range_feeds (n := 9) (by omega) (gf := 65) (lb := #[.pointer (some ⟨Bf, 0, none⟩)]) rfl (enters_of Try.func65 (by kernel_rfl) rfl)
    (encs := encA) (G := GA) (T := TA fs w7.heap.size) (Ok := fun _ => True) (Kp := KpA (fun k => G k ∨ k = Bf)) (S := fun xs _ => xs.length = fs.length - 1) (Sp := fun _ _ => True) ?feeds (fun h k => h.trans k) ?hKb (fun _ => rfl)
    (TI w B3 B As m0 cs (fs.getD 0 []) (fs.drop 1)) (fun _ _ => False) ?hG ?hIa ?hI ?hIx ?hIp ?hIxp ?h0 (TAx (fs.drop 1) B (fun v11 v12 v5 => #[.pointer (some ⟨g, 0, none⟩), undef, .pointer (some ⟨w.heap.size, 0, none⟩), .pointer (some ⟨B3, 0, none⟩), undef, v5, .pointer (some ⟨g, 0, none⟩), .slice As m0 cs, .agg #[.slice As m0 cs, .slice none 0 0], .pointer (some ⟨g, 0, none⟩), .func (.func 65) #[] #[.pointer (some ⟨Bf, 0, none⟩)], v11, v12, undef, undef, undef, undef, undef, undef, undef])) ?hAx ?assign ?body ?done ?stop
  case feeds => exact all_feeds Bf 8 c A fs (fun k => G k ∨ k = Bf) w7 (by omega) (by omega) HFA.out
  case hKb =>
    intro W l o o' hl ho hc
    exact ⟨fun k hk => World.putObj_heap_other (by
      have := HLT.out
      have := HSZ7.out
      rcases hk with hk | hk
      · have := HG.out k hk; omega
      · omega), (grownBy_putObj' W l o').size⟩
  case hG =>
    intro X Y k o hg hk ho hc
    exact (hg.block k (Array.getElem?_eq_some_iff.1 ho).1).trans ho
  case hIa =>
    rintro s W o ⟨h1, ⟨Al, cl, h2, h3, h4⟩, h5, h6, h7⟩
    have hb : Below W.heap.size W (W.alloc o) := (Below.refl _ _).alloc (Nat.le_refl _) _
    exact ⟨h1.below hb h1.lt, ⟨Al, cl, h2.below hb h2.lt, h3.keep (fun k _ hlt => hb.block k hlt), h4⟩, own_below h5 hb, h6.trans (hb.mono h6.size), Nat.le_trans h7 hb.size⟩
  case hI =>
    rintro s X Y ⟨h1, ⟨Al, cl, h2, h3, h4⟩, h5, h6, h7⟩ hb
    exact ⟨h1.below hb h1.lt, ⟨Al, cl, h2.below hb h2.lt, h3.keep (fun k _ hlt => hb.block k hlt), h4⟩, own_below h5 hb, h6.trans (hb.mono h6.size), Nat.le_trans h7 hb.size⟩
  case hIx => exact fun _ _ _ h _ => h
  case hIp =>
    rintro s W l o o' hl ho hc ⟨h1, ⟨Al, cl, h2, ⟨xs', q1, q2, q3⟩, h4⟩, h5, h6, h7⟩
    have hg := grownBy_putObj' W l o'
    have := HLT.out
    refine ⟨row_putL h1 ho hc, ⟨Al, cl, row_putL h2 ho hc, ⟨xs', own_put q1 ho hc, q2, fun i hi => ?_⟩, h4⟩, own_put h5 ho hc, h6.grown hg h6.size (fun q e => by have := Option.some.inj e; have := HSZ7.out; omega), Nat.le_trans h7 hg.size⟩
    obtain ⟨Ai, ni, ci, s1, s2, s3, s4⟩ := q3 i hi
    exact ⟨Ai, ni, ci, s1, own_put s2 ho hc, s3, s4⟩
  case hIxp => exact fun _ _ _ _ _ _ _ _ h => h
  case h0 => exact ⟨HR27.out, ⟨none, 0, HR37.out, by rw [List.length_nil, List.take_zero]; exact Frs.nil _ _, Nat.zero_le _⟩, HBY7.out, HB7.out, Nat.le_of_eq HSZ7.out.symm⟩
  case hAx =>
    rintro pre x a' _ W l o o' hl ho hc ⟨v11, h1, h2, h3, h4, h5⟩
    exact ⟨v11, h1, h2, own_put h3 ho hc, h4, h5⟩
  case assign =>
    intro yl pre x W K ht hI hK
    have HT := Lib.hid ht
    have HI := Lib.hid hI
    have HK := Lib.hid hK
    clear ht hI hK
    unfold encA
    gi_wp2
    refine HK.out _ W (KeepsFrom.refl _ _) (KpA.refl _ _) HI.out ⟨_, rfl, ?_, ?_, HT.out.most, fun k hk => by rw [← HSZ7.out]; exact HT.out.new k hk⟩
    · have h1 := HT.out.num
      have h2 := HT.out.lt
      rw [List.length_drop]
      omega
    · have h1 := HT.out.by_
      rw [HT.out.num] at h1
      rw [List.getD_eq_getElem?_getD, List.getElem?_drop, ← List.getD_eq_getElem?_getD, Nat.add_comm 1]
      exact h1
  case body =>
    rintro yl pre ⟨i1, Ax, nx, cx⟩ a' W hyl hr ⟨h1, ⟨Al, cl, h2, h3, h4⟩, h5, h6, h7⟩ ⟨v11, rfl, hlt, hby, hmx, hnew⟩
    dsimp only at hby hmx hnew ⊢
    obtain ⟨i0, hi0, hz0, hz1, hz2⟩ := info_parts info37
    obtain ⟨xs', q1, q2, q3⟩ := h3
    have hpl : (List.take pre.length (fs.drop 1)).length = pre.length := by rw [List.length_take]; omega
    rw [hpl] at q1 q2 q3
    have hwa : Below W.heap.size W (W.alloc (.cells #[.slice Ax nx cx] 37)) := (Below.refl _ _).alloc (Nat.le_refl _) _
    have HO := Lib.hid (own_below q1 hwa)
    have HO0 := Lib.hid q1
    have HQ2 := Lib.hid q2
    have HQ3 := Lib.hid q3
    have H1 := Lib.hid h1
    have H2 := Lib.hid h2
    have H5 := Lib.hid h5
    have H6 := Lib.hid h6
    have H7 := Lib.hid h7
    have HBX := Lib.hid hby
    have HNX := Lib.hid hnew
    have HPL := Lib.hid hpl
    have c1 : W.cell? ⟨B3, 1, none⟩ = some (.slice Al pre.length cl) := h2.cell 1
    have hpl4 : pre.length ≤ 10000 := by have := hlt; rw [List.length_drop] at this; omega
    clear q1 q2 q3 h1 h2 h5 h6 h7 hby hnew hpl hr hwa
    have HNW : Hid (∀ j u, ([Value.slice Ax nx cx] : List Value)[j]? = some u → (W.alloc (.cells #[.slice Ax nx cx] 37)).cell? ((⟨W.heap.size, 0, none⟩ : Addr).add j) = some u) := Lib.hid (cells_one W _ _)
    gi_wp2_with (first
      | (with_reducible refine wpListIn_append_placed (o := ⟨some 17, _, _, _, _, _⟩) ?_ (.tmp 14) (.tmp 16) 58 ?_ 37 i0 (.slice none 0 0) 24 Try.underlying58 hi0 hz0 hz1 hz2 ?_ (.slice Al pre.length cl) pre.length xs' ?_ HO.out ⟨W.heap.size, 0, none⟩ 1 1 [.slice Ax nx cx] ?_ ?_ HNW.out ?_ ?_ ?_ ?_))
    all_goals try (first | rfl | (simp [Value.oneCell']; done) | (unfold maxLen; omega) | omega)
    intro v4 w4 hown4 hg4 hp4
    have hwa : Below W.heap.size W (W.alloc (.cells #[.slice Ax nx cx] 37)) := (Below.refl _ _).alloc (Nat.le_refl _) _
    have hWg : W.grownBy w4 (Value.slice Al pre.length cl).ownBlock := grown_of_below hwa hg4
    obtain ⟨A4, c4, rfl⟩ : ∃ A4 c4, v4 = .slice A4 (pre.length + 1) c4 := by
      rcases hown4.2 with ⟨_, h0⟩ | ⟨g', cap, cur, hv, _⟩
      · omega
      · exact ⟨_, _, hv⟩
    have r34 := own_apart HO0.out hWg H2.out (by decide)
    have c14 : w4.cell? ⟨B3, 1, none⟩ = some (.slice Al pre.length cl) := r34.cell 1
    have f14 := r34.frozen 1
    have hnB : some B3 ≠ (Value.slice A4 (pre.length + 1) c4).ownBlock := fun e => by
      obtain ⟨cs', hr'⟩ := own_type hown4 e.symm
      exact absurd (row_type r34 hr') (by decide)
    obtain ⟨w5, hw5⟩ : ∃ w5, w5 = w4.setCell ⟨B3, 1, none⟩ (.slice A4 (pre.length + 1) c4) := ⟨_, rfl⟩
    have hg5 : w4.grownBy w5 (some B3) := by rw [hw5]; exact grown_setAt w4 _ _
    have hr5 : Row w5 B3 60 (scs As m0 cs A4 (pre.length + 1) c4) := by
      rw [hw5]
      exact r34.store 1 (.slice A4 (pre.length + 1) c4)
    have hlt5 := HLT.out
    have hsz5 := HSZ7.out
    have hkeep : ∀ k, k < B → k ≠ B3 → w5.heap[k]? = W.heap[k]? := fun k hk hne => by
      have hkW : k < W.heap.size := Nat.lt_of_lt_of_le hk H7.out
      rw [hg5.block k (Nat.lt_of_lt_of_le hkW hWg.size) (fun e => hne (Option.some.inj e)), hWg.block k hkW (fun e => by have := HQ2.out k e.symm; omega)]
    have hu8 : ∀ k cs', Row W k 5 cs' → Row w5 k 5 cs' := fun k cs' hr' => (own_apart HO0.out hWg hr' (by decide)).grown hg5 (fun e => by
      have e2 := Option.some.inj e
      exact absurd (row_type (own_apart HO0.out hWg hr' (by decide)) (e2 ▸ r34)) (by decide))
    have hFr : Frs w5 B A4 c4 ((fs.drop 1).take (pre.length + 1)) := by
      have hlen : pre.length < (fs.drop 1).length := hlt
      rw [List.take_succ_eq_append_getElem hlen]
      have hgd : (fs.drop 1)[pre.length] = (fs.drop 1).getD pre.length [] := getD_lt _ _ _ hlen
      rw [hgd]
      have hsn := Frs.snoc (W := W) (W' := w5) (base := B) (A := Al) (cc := cl) (fs := (fs.drop 1).take pre.length) (b := (fs.drop 1).getD pre.length []) (A2 := Ax) (m := nx) (c2 := cx) (A' := A4) (cc' := c4) (xs := xs') H7.out
      rw [HPL.out] at hsn
      refine hsn HQ3.out HQ2.out (by have := HO0.out.1; omega) HBX.out hmx HNX.out ?_ ?_ hu8
      · exact own_kept hown4 (fun k hk hlt' => hg5.block k hlt' (fun e => hnB (by rw [← e]; exact hk.symm)))
      · intro k hk
        rcases hp4 k hk with h | h
        · exact .inl h
        · exact .inr (by omega)
    have HE : Hid (roundEnds w7.heap.size (fun _ => True) (KpA (fun k => G k ∨ k = Bf)) (TI w B3 B As m0 cs (fs.getD 0 []) (fs.drop 1)) (fun _ _ => False) pre (i1, Ax, nx, cx) W .normal { tmps := #[], defers := [] } w5) := Lib.hid (by
      refine ⟨⟨Nat.le_trans hWg.size hg5.size, fun k o _ hk ho => ?_⟩, trivial, ⟨fun k hk => ?_, Nat.le_trans hWg.size hg5.size⟩, ?_, ⟨A4, c4, ?_, ?_, ?_⟩, ?_, ?_, Nat.le_trans H7.out (Nat.le_trans hWg.size hg5.size)⟩
      · have h4' := own_apart2 HO0.out hWg hk ho
        refine (hg5.block k (Array.getElem?_eq_some_iff.1 h4').1 (fun e => ?_)).trans h4'
        have e2 := Option.some.inj e
        rw [e2, show w4.heap[B3]? = _ from r34] at h4'
        cases h4'
        cases ho
      · refine hkeep k ?_ ?_
        · rcases hk with hk | hk
          · have := HG.out k hk; omega
          · omega
        · rcases hk with hk | hk
          · have := HG.out k hk; omega
          · omega
      · exact (own_apart HO0.out hWg H1.out (by decide)).grown hg5 (fun e => by have := Option.some.inj e; omega)
      · rw [List.length_append]; exact hr5
      · rw [List.length_append]; exact hFr
      · rw [List.length_append]; exact hlt
      · exact own_kept H5.out (fun k hk hlt' => by
          refine (hg5.block k (Nat.lt_of_lt_of_le hlt' hWg.size) (fun e => ?_)).trans (hWg.block k hlt' (fun e => ?_))
          · have e2 := Option.some.inj e
            obtain ⟨cs', hr'⟩ := own_type H5.out hk
            exact absurd (row_type hr' (e2 ▸ H2.out)) (by decide)
          · obtain ⟨cs', hr'⟩ := own_type H5.out hk
            obtain ⟨cs2, hr2'⟩ := own_type HO0.out e.symm
            exact absurd (row_type hr' hr2') (by decide))
      · exact (H6.out.grown hWg H6.out.size (fun q e => by have := HQ2.out q e; omega)).grown hg5 (Nat.le_trans H6.out.size hWg.size) (fun q e => by have := Option.some.inj e; omega))
    clear hown4 hg4 hp4 hwa hWg r34 hnB hg5 hr5 hkeep hu8 hFr HO HO0 HQ2 HQ3 H1 H2 H5 H6 H7 HNW
    gi_wp2
    rw [← hw5]
    exact HE.out
  case stop => exact fun _ _ _ _ _ _ h => h.elim
  case done =>
    rintro D xs2 W W' hD hS ⟨h1, ⟨Al, cl, h2, h3, h4⟩, h5, h6, h7⟩ hg hdf
    have hxl : xs2.length = (fs.drop 1).length := by rw [List.length_drop]; exact hS
    rw [hxl] at h2 h3
    rw [List.take_length] at h3
    obtain ⟨nl, hnl⟩ : ∃ nl, (fs.drop 1).length = nl := ⟨_, rfl⟩
    have HNL := Lib.hid hnl
    rw [hnl] at h2
    have H1 := Lib.hid h1
    have H2 := Lib.hid h2
    have H3 := Lib.hid h3
    have H5 := Lib.hid h5
    have H6 := Lib.hid h6
    have HDF := Lib.hid hdf
    have HD7 : Hid (w.heap.size < D ∧ B3 < D ∧ B ≤ D) := Lib.hid (by have := HLT.out; have := HSZ7.out; omega)
    have HSW : Hid (B ≤ W'.heap.size) := Lib.hid h7
    clear h1 h2 h3 h4 h5 h6 h7 hdf hS hxl hg hD hnl
    go_wp2_with (first
      | (with_reducible refine wpList_load_row (op := ⟨some 19, _, _, _, _, _⟩) ?_ 60 (.tmp 3) ?_ B3 0 ?_ (scs As m0 cs Al nl cl) _ (Row.all H2.out) Try.underlying60 ?_ (HI2.out _ _ _ _ _ _) ?_)
      | (with_reducible refine wpList_store_whole (op := ⟨none, _, _, _, _, _⟩) ?_ 60 (.tmp 2) (.tmp 19) ?_ w.heap.size (scs As m0 cs Al nl cl) ?_ ?_ 60 (scs none 0 0 none 0 0) H1.out (HLS.out _ _ _ _ _ _) (scs_one _ _ _ _ _ _) (HI2.out _ _ _ _ _ _) ?_))
    all_goals try (first | rfl | (simp; done))
    intro w5 hr5 hg5
    have hne : ∀ k, k ≠ w.heap.size → k < W'.heap.size → w5.heap[k]? = W'.heap[k]? := fun k hk hlt => hg5.block k hlt (fun e => hk (Option.some.inj e))
    have HD5 : Hid (w5.heap[D]? = some (.deferred (some []))) := Lib.hid ((hne D (by have := HD7.out; omega) (Array.getElem?_eq_some_iff.1 HDF.out).1).trans HDF.out)
    have HST : Hid (StV w5 w.heap.size (.agg (scs As m0 cs Al nl cl).toArray) (fs.getD 0 []) (fs.drop 1)) := Lib.hid (by
      refine ⟨As, m0, cs, Al, cl, by rw [HNL.out], own_kept H5.out (fun k hk hlt => hne k (fun e => ?_) hlt), hm0, HNEW.out, ?_⟩
      · obtain ⟨cs', hr'⟩ := own_type H5.out hk
        exact absurd (row_type hr' (e ▸ H1.out)) (by decide)
      · obtain ⟨xs', q1, q2, q3⟩ := H3.out
        have hBw : w.heap.size < B := by have := HLT.out; omega
        refine ⟨xs', own_kept q1 (fun k hk hlt => hne k (by have := q2 k hk; omega) hlt), fun k hk => by have := q2 k hk; omega, fun i hi => ?_⟩
        obtain ⟨Ai, ni, ci, s1, s2, s3, s4⟩ := q3 i hi
        exact ⟨Ai, ni, ci, s1, own_kept s2 (fun k hk hlt => hne k (by have := s4 k hk; omega) hlt), s3, fun k hk => by have := s4 k hk; omega⟩)
    have HBW : Hid (Below w.heap.size w w5) := Lib.hid (H6.out.grown hg5 H6.out.size (fun q e => by have := Option.some.inj e; omega))
    have HR5 := Lib.hid hr5
    clear hr5 hg5 hne
    go_wp2_with fail
    refine ⟨by simp, .inl ⟨_, _, rfl, run_takeDeferred HD5.out, ?_⟩⟩
    have h2' := row_putL (ob' := .deferred none) HR5.out HD5.out rfl
    have hgp := grownBy_putObj' w5 D (.deferred none)
    refine ⟨.agg (scs As m0 cs Al nl cl).toArray, results_cell (p := 2) (ty := 60) rfl _ _ ⟨w.heap.size, 0, none⟩ _ rfl (load_state h2' rfl), _, rfl, ?_, HBW.out.grown hgp HBW.out.size (fun q e => by have := Option.some.inj e; have := HD7.out; omega)⟩
    obtain ⟨As', ns', cs', Al', cl', q1, q2, q3, q4, ⟨xs', s1, s2, s3⟩⟩ := HST.out
    refine ⟨As', ns', cs', Al', cl', q1, own_put q2 HD5.out rfl, q3, q4, ⟨xs', own_put s1 HD5.out rfl, s2, fun i hi => ?_⟩⟩
    obtain ⟨Ai, ni, ci, z1, z2, z3, z4⟩ := s3 i hi
    exact ⟨Ai, ni, ci, z1, own_put z2 HD5.out rfl, z3, z4⟩
end Go.Proofs.Yteemdjamgbbjhaa.Wl

/-
  States held against one another.
-/
namespace Go.Proofs.Yteemdjamgbbjhaa.Wl
set_option maxRecDepth 100000
open Go.RowKit Go.Shelf Go.Proofs.Yteemdjamgbbjhaa.Wd Go.Proofs.Yteemdjamgbbjhaa.Dsk Go.Proofs.Yteemdjamgbbjhaa.Oct Go.Proofs.Yteemdjamgbbjhaa.Sum Go.Proofs.Yteemdjamgbbjhaa.Beq

theorem Frs.cell {W : World} {base cc : Nat} {A : Option Addr} {fs : List (List UInt8)} (h : Frs W base A cc fs) (i : Nat) (hi : i < fs.length) :
    ∃ g, A = some ⟨g, 0, none⟩ ∧ ∃ Ai ni ci, W.cell? ⟨g, i, none⟩ = some (.slice Ai ni ci) ∧ By W Ai ni ci (fs.getD i []) ∧ ni ≤ 40000 := by
  obtain ⟨xs, h1, h2, h3⟩ := h
  obtain ⟨Ai, ni, ci, s1, s2, s3, _⟩ := h3 i hi
  rcases h1 with ⟨hxl, hv | ⟨gx, cap, cur, hv, _, hg, q1, q2, q3, q4⟩⟩
  · exact absurd hv.2 (by omega)
  · cases hv
    refine ⟨gx, rfl, Ai, ni, ci, ?_, s2, s3⟩
    rw [cell_of_row W gx i cur _ (0, 0) hg]
    rw [← q4, List.getElem?_take_of_lt (by omega)] at s1
    simpa using s1
theorem Frs.cap {W : World} {base cc : Nat} {A : Option Addr} {fs : List (List UInt8)} (h : Frs W base A cc fs) : fs.length ≤ cc := by
  obtain ⟨xs, h1, _⟩ := h
  rcases h1 with ⟨hxl, hv | ⟨gx, cap, cur, hv, _, hg, q1, q2, q3, q4⟩⟩
  · omega
  · cases hv; exact q1
def sameS (b1 b2 : List UInt8) (fs1 fs2 : List (List UInt8)) : Bool := decide (b1 = b2) && decide (fs1 = fs2)
theorem lists_eq {fs1 fs2 : List (List UInt8)} (hl : fs1.length = fs2.length) (h : ∀ j, j < fs1.length → fs1.getD j [] = fs2.getD j []) : fs1 = fs2 := by
  refine List.ext_getElem hl fun j h1 h2 => ?_
  rw [getD_lt fs1 j [] h1, getD_lt fs2 j [] h2]
  exact h j h1
set_option maxHeartbeats 8000000 in
theorem same_any (lo1 lo2 : Nat) (v1 v2 : Value) (b1 b2 : List UInt8) (fs1 fs2 : List (List UInt8)) (w : World) (h1 : StV w lo1 v1 b1 fs1) (h2 : StV w lo2 v2 b2 fs2) (hn : fs1.length ≤ 100000) :
    Calls Try.prog 34 #[v1, v2] w fun e w' => e = .returned (.bool (sameS b1 b2 fs1 fs2)) ∧ Below w.heap.size w w' := by
  have mixed : Try.prog.follows .mixedOrders = true := by kernel_rfl
  obtain ⟨A1, n1, c1, L1, cl1, rfl, hb1, hm1, _, hf1⟩ := h1
  obtain ⟨A2, n2, c2, L2, cl2, rfl, hb2, hm2, _, hf2⟩ := h2
  obtain ⟨w1, hw1⟩ : ∃ w1, w1 = (w.alloc (.cells (scs A1 n1 c1 L1 fs1.length cl1).toArray 60)).alloc (.cells (scs A2 n2 c2 L2 fs2.length cl2).toArray 60) := ⟨_, rfl⟩
  have hr1 : Row w1 w.heap.size 60 (scs A1 n1 c1 L1 fs1.length cl1) := by rw [hw1]; exact (Row.new w _ _).alloc _
  have hr2 : Row w1 (w.heap.size + 1) 60 (scs A2 n2 c2 L2 fs2.length cl2) := by
    rw [hw1]
    have := Row.new (w.alloc (.cells (scs A1 n1 c1 L1 fs1.length cl1).toArray 60)) 60 (scs A2 n2 c2 L2 fs2.length cl2)
    rwa [World.size_alloc] at this
  have hbw : Below w.heap.size w w1 := by rw [hw1]; exact ((Below.refl _ _).alloc (Nat.le_refl _) _).alloc (by simp) _
  have HW1 := Lib.hid hw1
  have HR1 := Lib.hid hr1
  have HR2 := Lib.hid hr2
  have HBW := Lib.hid hbw
  have HY1 : Hid (By w1 A1 n1 c1 b1) := Lib.hid (own_below hb1 hbw)
  have HY2 : Hid (By w1 A2 n2 c2 b2) := Lib.hid (own_below hb2 hbw)
  have HF1 := Lib.hid (hf1.keep (fun k _ hlt => hbw.block k hlt))
  have HF2 := Lib.hid (hf2.keep (fun k _ hlt => hbw.block k hlt))
  have e1 : w1.cell? ⟨w.heap.size, 0, none⟩ = some (.slice A1 n1 c1) := hr1.cell 0
  have e2 : w1.cell? ⟨w.heap.size + 1, 0, none⟩ = some (.slice A2 n2 c2) := hr2.cell 0
  have e3 : w1.cell? ⟨w.heap.size, 1, none⟩ = some (.slice L1 fs1.length cl1) := hr1.cell 1
  have e4 : w1.cell? ⟨w.heap.size + 1, 1, none⟩ = some (.slice L2 fs2.length cl2) := hr2.cell 1
  have HEQ := Lib.hid (bytesEq_any A1 A2 n1 c1 n2 c2 b1 b2 w1.heap.size w1.heap.size w1 HY1.out.sl.len HY2.out.sl.len HY1.out.sl.bs HY2.out.sl.bs)
  clear hw1 hr1 hr2 hbw hb1 hb2 hf1 hf2
  unfold scs
  go_enter Try.func34, Try.ntmps34
  have hww : (w.alloc (.cells #[.slice A1 n1 c1, .slice L1 fs1.length cl1] 60)).alloc (.cells #[.slice A2 n2 c2, .slice L2 fs2.length cl2] 60) = w1 := HW1.out.symm
  go_wp2_with fail
  clear hww HW1
  refine HEQ.out.mono ?_
  rintro e wx ⟨rfl, rfl⟩
  by_cases hb : b1 = b2
  case neg =>
    have HS : Hid (sameS b1 b2 fs1 fs2 = false) := Lib.hid (by unfold sameS; simp [hb])
    rw [show decide (b1 = b2) = false by simp [hb]]
    clear hb
    go_wp2
    go_ret
    exact ⟨by rw [HS.out]; rfl, HBW.out⟩
  rw [show decide (b1 = b2) = true by simp [hb]]
  by_cases hl : fs1.length = fs2.length
  case neg =>
    have HS : Hid (sameS b1 b2 fs1 fs2 = false) := Lib.hid (by
      unfold sameS
      have : ¬ fs1 = fs2 := fun e => hl (by rw [e])
      simp [this])
    have hl2 : ¬ (fs1.length : Int) = (fs2.length : Int) := by omega
    clear hb hl
    go_wp2
    go_ret
    exact ⟨by rw [HS.out]; rfl, HBW.out⟩
  have HB := Lib.hid hb
  have HL := Lib.hid hl
  rw [← hl] at e4
  clear hb
  obtain ⟨n, hnn⟩ : ∃ n, fs1.length = n := ⟨_, rfl⟩
  have HN := Lib.hid hnn
  have hnl : n ≤ 100000 := by rw [← hnn]; exact hn
  rw [hnn] at e3 e4
  have HC1 := Lib.hid (fun i (hi : i < n) => HF1.out.cell i (by rw [HN.out]; exact hi))
  have HC2 := Lib.hid (fun i (hi : i < n) => HF2.out.cell i (by rw [← HL.out, HN.out]; exact hi))
  obtain ⟨p1, hp1⟩ : ∃ p1, w.heap.size = p1 := ⟨_, rfl⟩
  obtain ⟨p2, hp2⟩ : ∃ p2, w.heap.size + 1 = p2 := ⟨_, rfl⟩
  rw [hp1] at e1 e3
  rw [hp2] at e2 e4
  have E3 : Hid (∀ W, Below w1.heap.size w1 W → W.cell? ⟨p1, 1, none⟩ = some (.slice L1 n cl1)) := Lib.hid fun W hW => (hW.cell (p := ⟨p1, 1, none⟩) (by rw [← hp1]; exact HR1.out.lt)).trans e3
  have E4 : Hid (∀ W, Below w1.heap.size w1 W → W.cell? ⟨p2, 1, none⟩ = some (.slice L2 n cl2)) := Lib.hid fun W hW => (hW.cell (p := ⟨p2, 1, none⟩) (by rw [← hp2]; exact HR2.out.lt)).trans e4
  have HI0 : Hid (Below w1.heap.size w1 w1) := Lib.hid (Below.refl _ _)
  have hnn0 : (0 : Int) ≤ (n : Int) := by omega
  rw [hp2, hp1]
  clear hn hnn hl HR1 HR2 hp1 hp2 e1 e2 HF1 HF2
  go_wp2_with fail
  go_loopw [24] (fun t24 wr => ∃ k : Nat, k ≤ n ∧ t24 = .int .i64 (k : Int) ∧ Hid (∀ j, j < k → fs1.getD j [] = fs2.getD j []) ∧ Hid (Below w1.heap.size w1 wr)) (fun t24 _ => n - (intOf t24).toNat)
  case atStart => exact ⟨0, by omega, rfl, (show ∀ j, _ → _ from fun j hj => absurd hj (Nat.not_lt_zero _)), HI0⟩
  case round =>
    obtain ⟨k, hk, rfl, HE, HI⟩ := hrel
    clear HI0 e3 e4
    by_cases hlt : k < n
    case neg =>
      have h1 : ¬ (k : Int) < (n : Int) := by omega
      obtain rfl : k = n := by omega
      have HS : Hid (sameS b1 b2 fs1 fs2 = true) := Lib.hid (by
        unfold sameS
        have : fs1 = fs2 := lists_eq HL.out (fun j hj => HE.out j (by rw [← HN.out]; exact hj))
        simp [HB.out, this])
      have HBE := Lib.hid (HBW.out.trans (HI.out.mono HBW.out.size))
      go_wp2
      go_ret
      exact ⟨by rw [HS.out]; rfl, HBE.out⟩
    have h1 : (k : Int) < (n : Int) := by omega
    have h0 : (0 : Int) ≤ (k : Int) := by omega
    obtain ⟨g1, rfl, D1, m1, d1, q1, q2, q3⟩ := HC1.out k hlt
    obtain ⟨g2, rfl, D2, m2, d2, s1, s2, s3⟩ := HC2.out k hlt
    have HQ1 : Hid (∀ W, Below w1.heap.size w1 W → W.cell? ⟨g1, k, none⟩ = some (.slice D1 m1 d1)) := Lib.hid fun W hW => (hW.cell (p := ⟨g1, k, none⟩) (World.block_lt_of_cell? w1 _ q1)).trans q1
    have HS1 : Hid (∀ W, Below w1.heap.size w1 W → W.cell? ⟨g2, k, none⟩ = some (.slice D2 m2 d2)) := Lib.hid fun W hW => (hW.cell (p := ⟨g2, k, none⟩) (World.block_lt_of_cell? w1 _ s1)).trans s1
    have HEQ2 : Hid (∀ W, Below w1.heap.size w1 W → Calls Try.prog 28 #[.slice D1 m1 d1, .slice D2 m2 d2] W fun e w' => e = .returned (.bool (decide (fs1.getD k [] = fs2.getD k []))) ∧ W = w') := Lib.hid fun W hW =>
      bytesEq_any D1 D2 m1 d1 m2 d2 _ _ w1.heap.size w1.heap.size W q2.sl.len s2.sl.len (q2.sl.bs.below hW) (s2.sl.bs.below hW)
    obtain ⟨x1, hx1⟩ : ∃ x1, fs1.getD k [] = x1 := ⟨_, rfl⟩
    obtain ⟨x2, hx2⟩ : ∃ x2, fs2.getD k [] = x2 := ⟨_, rfl⟩
    rw [hx1, hx2] at HEQ2
    have HX1 := Lib.hid hx1
    have HX2 := Lib.hid hx2
    clear q1 q2 q3 s1 s2 s3 hx1 hx2
    go_upto_region 6 with fail
    refine wp_region_held_drew (S := fun w' => Below w1.heap.size w1 w') (by kernel_rfl) (HI.out.trans ((Below.refl _ _).drew.mono HI.out.size)) (fun hHeld => ?_)
    have S0 := Lib.hid hHeld
    clear hHeld HI
    generalize wr.drew = wj at S0 ⊢
    refine wpAnyH_take (i := 0) (oi := ⟨some 27, _, _, _, _, _⟩) (v := ?vz1) rfl (by kernel_rfl) (by kernel_rfl) (by kernel_rfl) (fun _ _ _ h => h) (Or.inl ⟨by rfl, ?yz1⟩) S0.out ?rz1
    case yz1 =>
      rintro w' hSw
      go_simp
      try with_reducible rfl
    try simp only [Act.put, List.setIfInBounds_toArray, List.set_cons_zero, List.set_cons_succ]
    refine wpAnyH_take (i := 1) (oi := ⟨some 28, _, _, _, _, _⟩) (v := ?vz2) rfl (by kernel_rfl) (by kernel_rfl) (by kernel_rfl) (fun _ _ _ h => h) (Or.inl ⟨by rfl, ?yz2⟩) S0.out ?rz2
    case yz2 =>
      rintro w' hSw
      have c3 := E3.out w' hSw
      go_simp
      try with_reducible rfl
    try simp only [Act.put, List.setIfInBounds_toArray, List.set_cons_zero, List.set_cons_succ]
    refine wpAnyH_take (i := 2) (oi := ⟨some 29, _, _, _, _, _⟩) (v := ?vz3) rfl (by kernel_rfl) (by kernel_rfl) (by kernel_rfl) (fun _ _ _ h => h) (Or.inl ⟨by rfl, ?yz3⟩) S0.out ?rz3
    case yz3 =>
      rintro w' hSw
      go_simp
      try with_reducible rfl
    try simp only [Act.put, List.setIfInBounds_toArray, List.set_cons_zero, List.set_cons_succ]
    refine wpAnyH_take (i := 3) (oi := ⟨some 30, _, _, _, _, _⟩) (v := ?vz4) rfl (by kernel_rfl) (by kernel_rfl) (by kernel_rfl) (fun _ _ _ h => h) (Or.inl ⟨by rfl, ?yz4⟩) S0.out ?rz4
    case yz4 =>
      rintro w' hSw
      go_simp
      try with_reducible rfl
    try simp only [Act.put, List.setIfInBounds_toArray, List.set_cons_zero, List.set_cons_succ]
    refine wpAnyH_take (i := 4) (oi := ⟨some 31, _, _, _, _, _⟩) (v := ?vz5) rfl (by kernel_rfl) (by kernel_rfl) (by kernel_rfl) (fun _ _ _ h => h) (Or.inl ⟨by rfl, ?yz5⟩) S0.out ?rz5
    case yz5 =>
      rintro w' hSw
      have c4 := HQ1.out w' hSw
      go_simp
      try with_reducible rfl
    try simp only [Act.put, List.setIfInBounds_toArray, List.set_cons_zero, List.set_cons_succ]
    refine wpAnyH_take (i := 5) (oi := ⟨some 32, _, _, _, _, _⟩) (v := ?vz6) rfl (by kernel_rfl) (by kernel_rfl) (by kernel_rfl) (fun _ _ _ h => h) (Or.inl ⟨by rfl, ?yz6⟩) S0.out ?rz6
    case yz6 =>
      rintro w' hSw
      go_simp
      try with_reducible rfl
    try simp only [Act.put, List.setIfInBounds_toArray, List.set_cons_zero, List.set_cons_succ]
    refine wpAnyH_take (i := 6) (oi := ⟨some 33, _, _, _, _, _⟩) (v := ?vz7) rfl (by kernel_rfl) (by kernel_rfl) (by kernel_rfl) (fun _ _ _ h => h) (Or.inl ⟨by rfl, ?yz7⟩) S0.out ?rz7
    case yz7 =>
      rintro w' hSw
      have c5 := E4.out w' hSw
      go_simp
      try with_reducible rfl
    try simp only [Act.put, List.setIfInBounds_toArray, List.set_cons_zero, List.set_cons_succ]
    refine wpAnyH_take (i := 7) (oi := ⟨some 34, _, _, _, _, _⟩) (v := ?vz8) rfl (by kernel_rfl) (by kernel_rfl) (by kernel_rfl) (fun _ _ _ h => h) (Or.inl ⟨by rfl, ?yz8⟩) S0.out ?rz8
    case yz8 =>
      rintro w' hSw
      go_simp
      try with_reducible rfl
    try simp only [Act.put, List.setIfInBounds_toArray, List.set_cons_zero, List.set_cons_succ]
    refine wpAnyH_take (i := 8) (oi := ⟨some 35, _, _, _, _, _⟩) (v := ?vz9) rfl (by kernel_rfl) (by kernel_rfl) (by kernel_rfl) (fun _ _ _ h => h) (Or.inl ⟨by rfl, ?yz9⟩) S0.out ?rz9
    case yz9 =>
      rintro w' hSw
      go_simp
      try with_reducible rfl
    try simp only [Act.put, List.setIfInBounds_toArray, List.set_cons_zero, List.set_cons_succ]
    refine wpAnyH_take (i := 9) (oi := ⟨some 36, _, _, _, _, _⟩) (v := ?vz10) rfl (by kernel_rfl) (by kernel_rfl) (by kernel_rfl) (fun _ _ _ h => h) (Or.inl ⟨by rfl, ?yz10⟩) S0.out ?rz10
    case yz10 =>
      rintro w' hSw
      have c6 := HS1.out w' hSw
      go_simp
      try with_reducible rfl
    try simp only [Act.put, List.setIfInBounds_toArray, List.set_cons_zero, List.set_cons_succ]
    refine wpAnyH_ready (rs := [10]) (by kernel_rfl) (by simp) ?_
    refine (AllReadyH.cons rfl (fun K hK => ?_) AllReadyH.nil)
    go_simp
    refine (HEQ2.out wj S0.out).mono ?_
    rintro e wx ⟨rfl, rfl⟩
    refine hK _ _ S0.out (fun _ => ?_)
    clear hK K
    try simp only [Act.put, List.setIfInBounds_toArray, List.set_cons_zero, List.set_cons_succ]
    refine wpAnyH_take (i := 11) (oi := ⟨some 38, _, _, _, _, _⟩) (v := ?vz12) rfl (by kernel_rfl) (by kernel_rfl) (by kernel_rfl) (fun _ _ _ h => h) (Or.inl ⟨by rfl, ?yz12⟩) S0.out ?rz12
    case yz12 =>
      rintro w' hSw
      go_simp
      try with_reducible rfl
    try simp only [Act.put, List.setIfInBounds_toArray, List.set_cons_zero, List.set_cons_succ]
    refine wpAnyH_done (by kernel_rfl) ?_ _

    by_cases heq : x1 = x2
    case neg =>
      rw [show decide (x1 = x2) = false by simp [heq]]
      have HS : Hid (sameS b1 b2 fs1 fs2 = false) := Lib.hid (by
        unfold sameS
        have : ¬ fs1 = fs2 := fun e => heq (by rw [← HX1.out, ← HX2.out, e])
        simp [this])
      have HBE := Lib.hid (HBW.out.trans (S0.out.mono HBW.out.size))
      clear heq
      go_wp2
      go_ret
      exact ⟨by rw [HS.out]; rfl, HBE.out⟩
    rw [show decide (x1 = x2) = true by simp [heq]]
    have HE2 : Hid (∀ j, j < k + 1 → fs1.getD j [] = fs2.getD j []) := (show ∀ j, _ → _ from fun j hj => by
      by_cases e : j = k
      · rw [e, HX1.out, HX2.out]; exact heq
      · exact HE.out j (by omega))
    clear heq
    go_wp2
    go_roundw
    case rel => exact ⟨k + 1, by omega, by go_num, HE2, S0⟩
    case measure => simp [intOf]; omega
end Go.Proofs.Yteemdjamgbbjhaa.Wl

/-
  What is told behind an op that is done.
-/
namespace Go.Proofs.Yteemdjamgbbjhaa.Wl
set_option maxRecDepth 100000
open Go.RowKit Go.Shelf Go.Proofs.Yteemdjamgbbjhaa.Wd Go.Proofs.Yteemdjamgbbjhaa.Dsk Go.Proofs.Yteemdjamgbbjhaa.Oct Go.Proofs.Yteemdjamgbbjhaa.Sum Go.Proofs.Yteemdjamgbbjhaa.Beq

theorem wp_append_opt {P : Program} {w : World} {o : Oper} {a : Act} {K : Act → World → Prop} {Q : Exit → Act → World → Prop} (s x : Operand) (t : TypeId)
    (ho : o.op = .call { callee := .builtin .append, args := #[s, x], argTypes := #[t, t] })
    (e : TypeId) (i : TypeInfo) (z : Value) (bytes : Nat) (ht : P.underlying t = some (.slice e)) (hi : P.info? e = some i) (hz : i.zero = some z) (hsize : i.size = 1) (hby : i.bytes = bytes) (hzs : z.cells.size = 1)
    (v : Value) (n : Nat) (xs : List Value) (hs : a.eval s = v) (hown : w.ownsRow 0 e 1 v n xs)
    (A : Option Addr) (m c : Nat) (news : List Value) (hx : a.eval x = .slice A m c) (hl : news.length = m) (hA : A = none → m = 0 ∧ c = 0) (hnews : ∀ ad, A = some ad → ∀ j u, news[j]? = some u → w.cell? (ad.add j) = some u) (h1 : ∀ u ∈ news, u.oneCell' = true)
    (h63 : n + m ≤ maxLen) (hbytes : (n + m) * bytes ≤ 140737488355328)
    (h : ∀ v' w', w'.ownsRow 0 e 1 v' (n + m) (xs ++ news) → w.grownBy w' v.ownBlock → (∀ b, v'.ownBlock = some b → v.ownBlock = some b ∨ w.heap.size ≤ b) → K (a.put o.dst v') w') : o.wp P a w K Q := by
  cases A with
  | none =>
    obtain ⟨rfl, rfl⟩ := hA rfl
    obtain rfl : news = [] := List.eq_nil_of_length_eq_zero hl
    have hrun := run_append_owned_none (P := P) w 0 t o.type e i 1 ht hi v n xs hown
    unfold Oper.wp
    simp [execOp, ho, resolve, invoke, builtin, hs, hx, hrun, Result.andThen]
    exact h v w (by simpa using hown) (World.grownBy.refl _ _) (fun b hb => .inl hb)
  | some ad => exact wp_append_placed s x t ho e i z bytes ht hi hz hsize hby hzs v n xs hs hown ad m c news hx (by omega) (hnews ad rfl) h1 h63 hbytes h
theorem own_cells {w : World} {e : TypeId} {ad : Addr} {n c : Nat} {xs : List Value} (h : w.ownsRow 0 e 1 (.slice (some ad) n c) n xs) : ∀ j u, xs[j]? = some u → w.cell? (ad.add j) = some u := by
  intro j u hj
  rcases h with ⟨hxl, hv | ⟨gx, cap, cur, hv, _, hg, q1, q2, q3, q4⟩⟩
  · cases hv.1
  · cases hv
    have hjl : j < xs.length := (List.getElem?_eq_some_iff.1 hj).1
    rw [Addr.add_lit, Nat.zero_add, cell_of_row w gx j cur _ (0, 0) hg]
    rw [← q4, List.getElem?_take_of_lt (by omega)] at hj
    simpa using hj
theorem own_nil {w : World} {e : TypeId} {A : Option Addr} {n c : Nat} {xs : List Value} (h : w.ownsRow 0 e 1 (.slice A n c) n xs) : A = none → n = 0 ∧ c = 0 := by
  rintro rfl
  rcases h with ⟨_, hv | ⟨gx, cap, cur, hv, _⟩⟩
  · cases hv.1; exact ⟨rfl, rfl⟩
  · cases hv
def aftB (o : OM) (b : List UInt8) : List UInt8 := if kindW o.k = 1 then opB o else b
def aftL (o : OM) (fs : List (List UInt8)) : List (List UInt8) := if kindW o.k = 1 then [] else fs ++ [opB o]
/-- what comes of a state -/
def Aft (w w' : World) (lo : Nat) (b : List UInt8) (fs : List (List UInt8)) (e : Ending) : Prop := ∃ v, e = .returned v ∧ StV w' lo v b fs ∧ Below w.heap.size w w'
theorem size55 : (Try.prog.info? 55).map (·.size) = some 4 := by kernel_rfl
theorem ocs_one (k a : Int) (x : UInt8) (A : Option Addr) (n c : Nat) : ∀ v ∈ ocs k a x A n c, v.oneCell' = true := by
  intro v hv
  simp only [ocs, List.mem_cons, List.not_mem_nil, or_false] at hv
  rcases hv with rfl | rfl | rfl | rfl <;> rfl
theorem by_of_row {w : World} {g : Nat} {l : List UInt8} (h : Row w g 5 (bv l)) (hm : l.length ≤ 40000) : By w (some ⟨g, 0, none⟩) l.length l.length l := Row.own h (Nat.zero_le _) (by rw [bv_length]) (by unfold maxLen; omega)
theorem opB_most (o : OM) : (opB o).length ≤ 40000 := by rw [opB_len]; have := (len_lt o.a).1; omega
set_option maxHeartbeats 8000000 in
theorem after_any (lo : Nat) (v : Value) (b : List UInt8) (fs : List (List UInt8)) (o : OM) (w : World) (hs : StV w lo v b fs) (hlo : lo ≤ w.heap.size) (hn : fs.length ≤ 10000) :
    Calls Try.prog 33 #[v, o.val] w fun e w' => Aft w w' lo (aftB o b) (aftL o fs) e := by
  have mixed : Try.prog.follows .mixedOrders = true := by kernel_rfl
  obtain ⟨As, ns, cs, Al, cl, rfl, hb0, hm0, hG0, hfr⟩ := hs
  obtain ⟨w1, hw1⟩ : ∃ w1, w1 = ((w.alloc (.cells (scs As ns cs Al fs.length cl).toArray 60)).alloc (.cells o.cells.toArray 55)).alloc (.cells (scs none 0 0 none 0 0).toArray 60) := ⟨_, rfl⟩
  have hr1 : Row w1 w.heap.size 60 (scs As ns cs Al fs.length cl) := by rw [hw1]; exact ((Row.new w _ _).alloc _).alloc _
  have hr2 : Row w1 (w.heap.size + 1) 55 o.cells := by
    rw [hw1]
    have := (Row.new (w.alloc (.cells (scs As ns cs Al fs.length cl).toArray 60)) 55 o.cells).alloc (.cells (scs none 0 0 none 0 0).toArray 60)
    rwa [World.size_alloc] at this
  have hr3 : Row w1 (w.heap.size + 2) 60 (scs none 0 0 none 0 0) := by
    rw [hw1]
    have := Row.new ((w.alloc (.cells (scs As ns cs Al fs.length cl).toArray 60)).alloc (.cells o.cells.toArray 55)) 60 (scs none 0 0 none 0 0)
    rwa [World.size_alloc, World.size_alloc] at this
  have hbw : Below w.heap.size w w1 := by rw [hw1]; exact (((Below.refl _ _).alloc (Nat.le_refl _) _).alloc (by simp) _).alloc (by simp; omega) _
  have HW1 := Lib.hid hw1
  have HR1 := Lib.hid hr1
  have HR2 := Lib.hid hr2
  have HR3 := Lib.hid hr3
  have HBW := Lib.hid hbw
  have HY0 : Hid (By w1 As ns cs b) := Lib.hid (own_below hb0 hbw)
  have HFR := Lib.hid (hfr.keep (fun k _ hlt => hbw.block k hlt))
  have HG0 := Lib.hid hG0
  have HKD := Lib.hid (kind_any o w1)
  have HBY := Lib.hid (fun W => bytes_any o W)
  have HM := Lib.hid (opB_most o)
  have HLS := Lib.hid fun (As : Option Addr) (ns cs : Nat) (Al : Option Addr) (nl cl : Nat) => (show (scs As ns cs Al nl cl).length = (scs none 0 0 none 0 0).length from rfl)
  have HI2 := Lib.hid fun (As : Option Addr) (ns cs : Nat) (Al : Option Addr) (nl cl : Nat) => (show (Try.prog.info? 60).map (·.size) = some (scs As ns cs Al nl cl).length from size60)
  have HI4 : Hid ((Try.prog.info? 55).map (·.size) = some o.cells.length) := Lib.hid size55
  obtain ⟨kd, hkd⟩ : ∃ kd, kindW o.k = kd := ⟨_, rfl⟩
  rw [hkd] at HKD
  have HK := Lib.hid hkd
  obtain ⟨ob, hob⟩ : ∃ ob, opB o = ob := ⟨_, rfl⟩
  rw [hob] at HBY HM
  have HOB := Lib.hid hob
  clear hw1 hr1 hr2 hr3 hbw hb0 hfr hkd hob hG0
  obtain ⟨k, a, x, A, n, c, l⟩ := o
  unfold OM.val opv at HKD HBY
  unfold OM.val opv
  unfold OM.cells ocs at HR2 HI4 HW1
  dsimp only at HKD HBY HR2 HI4 HW1 ⊢
  unfold scs at HW1
  unfold scs
  have hww : ((w.alloc (.cells #[.slice As ns cs, .slice Al fs.length cl] 60)).alloc (.cells #[.int .i64 k, .int .i64 a, .int .u8 (x.toNat : Int), .slice A n c] 55)).alloc (.cells #[.slice none 0 0, .slice none 0 0] 60) = w1 := HW1.out.symm
  go_enter Try.func33, Try.ntmps33
  go_wp2_with (first
    | (with_reducible refine wpList_load_row (op := ⟨some 5, _, _, _, _, _⟩) ?_ 55 (.tmp 3) ?_ (w.heap.size + 1) 0 ?_ [.int .i64 k, .int .i64 a, .int .u8 (x.toNat : Int), .slice A n c] _ (Row.all HR2.out) Try.underlying55 ?_ HI4.out ?_))
  all_goals try (first | rfl | (simp; done))
  go_wp2_with fail
  refine HKD.out.mono ?_
  rintro e w2 ⟨rfl, hb2⟩
  have HB2 := Lib.hid hb2
  have R21 := Lib.hid (HR1.out.below hb2 HR1.out.lt)
  have R22 := Lib.hid (HR2.out.below hb2 HR2.out.lt)
  have R23 := Lib.hid (HR3.out.below hb2 HR3.out.lt)
  have HY2 : Hid (By w2 As ns cs b) := Lib.hid (own_below HY0.out hb2)
  have HF2 := Lib.hid (HFR.out.keep (fun k _ hlt => hb2.block k hlt))
  have HBW2 := Lib.hid (HBW.out.trans (hb2.mono HBW.out.size))
  clear hb2 hww HW1 HKD HR1 HR2 HR3 HY0 HFR HBW HB2
  obtain ⟨p1, hp1⟩ : ∃ p1, w.heap.size = p1 := ⟨_, rfl⟩
  obtain ⟨p2, hp2⟩ : ∃ p2, w.heap.size + 1 = p2 := ⟨_, rfl⟩
  obtain ⟨p3, hp3⟩ : ∃ p3, w.heap.size + 1 + 1 = p3 := ⟨_, rfl⟩
  have HP : Hid (p1 = w.heap.size ∧ p2 = w.heap.size + 1 ∧ p3 = w.heap.size + 2) := Lib.hid ⟨hp1.symm, hp2.symm, hp3.symm⟩
  rw [hp1] at R21
  rw [hp2] at R22
  rw [show w.heap.size + 2 = p3 from hp3] at R23
  rw [hp3, hp2, hp1]
  clear hp1 hp2 hp3
  by_cases h1 : kd = 1
  · have h1i : (kd : Int) = 1 := by omega
    have HAB : Hid (aftB ⟨k, a, x, A, n, c, l⟩ b = ob) := Lib.hid (by unfold aftB; rw [show kindW (⟨k, a, x, A, n, c, l⟩ : OM).k = kd from HK.out, if_pos h1, HOB.out])
    have HAL : Hid (aftL ⟨k, a, x, A, n, c, l⟩ fs = []) := Lib.hid (by unfold aftL; rw [show kindW (⟨k, a, x, A, n, c, l⟩ : OM).k = kd from HK.out, if_pos h1])
    clear h1
    go_wp2_with (first
      | (with_reducible refine wpList_load_row (op := ⟨some 8, _, _, _, _, _⟩) ?_ 55 (.tmp 3) ?_ p2 0 ?_ [.int .i64 k, .int .i64 a, .int .u8 (x.toNat : Int), .slice A n c] _ (Row.all R22.out) Try.underlying55 ?_ HI4.out ?_))
    all_goals try (first | rfl | (simp; done))
    go_wp2_with fail
    refine (HBY.out w2).mono ?_
    rintro e w3 ⟨g, rfl, hr3, hg3, hb3⟩
    have HY3 : Hid (By w3 (some ⟨g, 0, none⟩) ob.length ob.length ob) := Lib.hid (by_of_row hr3 HM.out)
    have R33 := Lib.hid (R23.out.below hb3 R23.out.lt)
    have HBW3 := Lib.hid (HBW2.out.trans (hb3.mono HBW2.out.size))
    have HGG : Hid (w2.heap.size ≤ g) := Lib.hid hg3
    clear hr3 hg3 hb3
    go_wp2_with (first
      | (with_reducible refine wpList_store_whole (op := ⟨none, _, _, _, _, _⟩) ?_ 60 (.tmp 4) (.tmp 10) ?_ p3 (scs (some ⟨g, 0, none⟩) ob.length ob.length none 0 0) ?_ ?_ 60 (scs none 0 0 none 0 0) R33.out (HLS.out _ _ _ _ _ _) (scs_one _ _ _ _ _ _) (HI2.out _ _ _ _ _ _) ?_))
    all_goals try (first | rfl | (simp; done))
    intro w4 hr4 hg4
    have HE : Hid (StV w4 lo (.agg (scs (some ⟨g, 0, none⟩) ob.length ob.length none 0 0).toArray) ob []) := Lib.hid ⟨some ⟨g, 0, none⟩, ob.length, ob.length, none, 0, rfl, own_kept HY3.out (fun q hq hlt => hg4.block q hlt (fun e => by
      have e2 := Option.some.inj e
      obtain ⟨cs', hr'⟩ := own_type HY3.out hq
      exact absurd (row_type hr' (e2 ▸ R33.out)) (by decide))), HM.out, fun q hq => by have := Option.some.inj (show some g = some q from hq); have := HGG.out; have := HBW2.out.size; omega, Frs.nil _ _⟩
    have HBE : Hid (Below w.heap.size w w4) := Lib.hid (HBW3.out.grown hg4 HBW3.out.size (fun q e => by have := Option.some.inj e; have := HP.out; omega))
    have HR4 := Lib.hid hr4
    clear hr4 hg4
    go_wp2
    exact bodyPost_ret (v := .agg (scs (some ⟨g, 0, none⟩) ob.length ob.length none 0 0).toArray) (results_cell (p := 4) (ty := 60) rfl _ _ ⟨p3, 0, none⟩ _ rfl (load_state HR4.out rfl)) rfl ⟨_, rfl, by rw [HAB.out, HAL.out]; exact HE.out, HBE.out⟩
  have h1i : ¬ (kd : Int) = 1 := by omega
  have HAB : Hid (aftB ⟨k, a, x, A, n, c, l⟩ b = b) := Lib.hid (by unfold aftB; rw [show kindW (⟨k, a, x, A, n, c, l⟩ : OM).k = kd from HK.out, if_neg h1])
  have HAL : Hid (aftL ⟨k, a, x, A, n, c, l⟩ fs = fs ++ [ob]) := Lib.hid (by unfold aftL; rw [show kindW (⟨k, a, x, A, n, c, l⟩ : OM).k = kd from HK.out, if_neg h1, HOB.out])
  obtain ⟨i0, hi0, hz0, hz1, hz2⟩ := info_parts info37
  obtain ⟨xs, ho, hoG, hat⟩ := HF2.out
  have HO := Lib.hid ho
  have HOG := Lib.hid hoG
  have HAT := Lib.hid hat
  have HNIL := Lib.hid (own_nil ho)
  have HXL : Hid (xs.length = fs.length) := Lib.hid (by have := ho.1; omega)
  have H1C : Hid (∀ u ∈ xs, u.oneCell' = true) := Lib.hid (fun u hu => by
    obtain ⟨i, hi, rfl⟩ := List.mem_iff_getElem.1 hu
    obtain ⟨Ai, ni, ci, s1, _⟩ := HAT.out i (by have := ho.1; omega)
    rw [List.getElem?_eq_getElem hi] at s1
    rw [Option.some.inj s1]; rfl)
  clear h1 ho hoG hat HF2
  go_wp2_with fail
  refine wp_region_held_drew (S := fun W => Row W p2 55 [.int .i64 k, .int .i64 a, .int .u8 (x.toNat : Int), .slice A n c]) (by kernel_rfl) R22.out (fun hHeld => ?_)
  have S0 := Lib.hid (show Row w2.drew p1 60 (scs As ns cs Al fs.length cl) ∧ Row w2.drew p2 55 [.int .i64 k, .int .i64 a, .int .u8 (x.toNat : Int), .slice A n c] from ⟨R21.out, hHeld⟩)
  clear hHeld
  refine wpAnyH_take (i := 1) (oi := ⟨some 12, _, _, _, _, _⟩) (v := ?vq1) rfl (by kernel_rfl) (by kernel_rfl) (by kernel_rfl) (fun _ _ _ h => h) (Or.inl ⟨by rfl, ?yq1⟩) S0.out.2 ?rq1
  case yq1 =>
    rintro w' hSw
    go_simp
    try with_reducible rfl
  try simp only [Act.put, List.setIfInBounds_toArray, List.set_cons_zero, List.set_cons_succ]
  refine wpAnyH_take (i := 4) (oi := ⟨some 15, _, _, _, _, _⟩) rfl (by kernel_rfl) (by kernel_rfl) (by kernel_rfl) (fun _ _ _ h => h) (yieldsIf_load_mid (by rfl) 55 (.tmp 3) rfl p2 0 ?xq2 [.int .i64 k, .int .i64 a, .int .u8 (x.toNat : Int), .slice A n c] _ (fun W h => Row.all h) Try.underlying55 rfl HI4.out) S0.out.2 ?rq2
  case xq2 => first | rfl | (simp [Act.eval, go_sem]; done)
  try simp only [Act.put, List.setIfInBounds_toArray, List.set_cons_zero, List.set_cons_succ]
  refine wpAnyH_ready (rs := [0, 2]) (by kernel_rfl) (by simp) ?_
  refine (AllReadyH.cons rfl (fun K hK => ?_) (AllReadyH.cons rfl (fun K hK => ?_) AllReadyH.nil))
  · go_simp
    have hba : Below w2.heap.size w2 ((w2.alloc (.cells #[] 37)).drew) := ((Below.refl _ _).alloc (Nat.le_refl _) _).drew
    have OWN0 : Hid (((w2.alloc (.cells #[] 37)).drew).ownsRow 0 37 1 (.slice (some ⟨w2.heap.size, 0, none⟩) 0 0) 0 []) := World.ownsRow_made w2 #[] 0 (Nat.zero_le _) (Nat.zero_le _) rfl
    generalize (w2.alloc (.cells #[] 37)).drew = w3 at hba OWN0 ⊢
    have HB3 := Lib.hid hba
    have SA : Hid (Row w3 p1 60 (scs As ns cs Al fs.length cl) ∧ Row w3 p2 55 [.int .i64 k, .int .i64 a, .int .u8 (x.toNat : Int), .slice A n c]) := Lib.hid ⟨R21.out.below hba R21.out.lt, R22.out.below hba R22.out.lt⟩
    have HO3 : Hid (w3.ownsRow 0 37 1 (.slice Al fs.length cl) fs.length xs) := Lib.hid (own_below HO.out hba)
    clear hba
    refine hK _ _ SA.out.2 (fun _ => ?_)
    clear hK K
    try simp only [Act.put, List.setIfInBounds_toArray, List.set_cons_zero, List.set_cons_succ]
    refine wpAnyH_ready (rs := [2]) (by kernel_rfl) (by simp) ?_
    refine (AllReadyH.cons rfl (fun K hK => ?_) AllReadyH.nil)
    have c1q4 := SA.out.1.cell 1
    rw [show (scs As ns cs Al fs.length cl)[1]? = some (.slice Al fs.length cl) from rfl] at c1q4
    go_simp
    refine hK _ _ SA.out.2 (fun _ => ?_)
    clear hK K
    try simp only [Act.put, List.setIfInBounds_toArray, List.set_cons_zero, List.set_cons_succ]
    refine wpAnyH_ready (rs := [3]) (by kernel_rfl) (by simp) ?_
    refine (AllReadyH.cons rfl (fun K hK => ?_) AllReadyH.nil)
    rw [if_pos (by rfl)]
    refine wp_append_opt (.tmp 11) (.tmp 13) 58 rfl 37 i0 (.slice none 0 0) 24 Try.underlying58 hi0 hz0 hz1 hz2 rfl (.slice (some ⟨w2.heap.size, 0, none⟩) 0 0) 0 [] rfl OWN0.out Al fs.length cl xs rfl HXL.out HNIL.out (fun ad hA => own_cells (by rw [← hA]; exact HO3.out)) H1C.out (by unfold maxLen; omega) (by omega) ?_
    intro v4 w4 hown4 hg4 hp4
    rw [List.nil_append, Nat.zero_add] at hown4
    have hb24 : Below w2.heap.size w2 w4 := HB3.out.grown hg4 HB3.out.size (fun q e => by have := Option.some.inj (show some w2.heap.size = some q from e); omega)
    have hn4 : ∀ q, v4.ownBlock = some q → w2.heap.size ≤ q := fun q hq => by
      rcases hp4 q hq with h | h
      · have := Option.some.inj (show some w2.heap.size = some q from h); omega
      · have := HB3.out.size; omega
    have HOWN4 := Lib.hid hown4
    have HN4 := Lib.hid hn4
    have HB4 := Lib.hid hb24
    have SB : Hid (Row w4 p1 60 (scs As ns cs Al fs.length cl) ∧ Row w4 p2 55 [.int .i64 k, .int .i64 a, .int .u8 (x.toNat : Int), .slice A n c]) := Lib.hid ⟨R21.out.below hb24 R21.out.lt, R22.out.below hb24 R22.out.lt⟩
    clear hown4 hg4 hp4 hb24 hn4 OWN0 HO3
    refine hK _ _ SB.out.2 (fun _ => ?_)
    clear hK K
    try simp only [Act.put, List.setIfInBounds_toArray, List.set_cons_zero, List.set_cons_succ]
    refine wpAnyH_ready (rs := [5]) (by kernel_rfl) (by simp) ?_
    refine (AllReadyH.cons rfl (fun K hK => ?_) AllReadyH.nil)
    go_simp
    refine (HBY.out w4).mono ?_
    rintro e w5 ⟨g, rfl, hr5, hg5, hb5⟩
    have HR5 := Lib.hid hr5
    have HG5 : Hid (w4.heap.size ≤ g) := Lib.hid hg5
    have HB5 := Lib.hid hb5
    have SC : Hid (Row w5 p1 60 (scs As ns cs Al fs.length cl) ∧ Row w5 p2 55 [.int .i64 k, .int .i64 a, .int .u8 (x.toNat : Int), .slice A n c]) := Lib.hid ⟨SB.out.1.below hb5 SB.out.1.lt, SB.out.2.below hb5 SB.out.2.lt⟩
    clear hr5 hg5 hb5
    refine hK _ _ SC.out.2 (fun _ => ?_)
    clear hK K
    try simp only [Act.put, List.setIfInBounds_toArray, List.set_cons_zero, List.set_cons_succ]
    refine wpAnyH_ready (rs := [6]) (by kernel_rfl) (by simp) ?_
    refine (AllReadyH.cons rfl (fun K hK => ?_) AllReadyH.nil)
    go_simp
    have hba : Below w5.heap.size w5 (w5.alloc (.cells #[.slice (some ⟨g, 0, none⟩) ob.length ob.length] 37)) := (Below.refl _ _).alloc (Nat.le_refl _) _
    have HNW : Hid (∀ j u, ([Value.slice (some ⟨g, 0, none⟩) ob.length ob.length] : List Value)[j]? = some u → (w5.alloc (.cells #[.slice (some ⟨g, 0, none⟩) ob.length ob.length] 37)).cell? ((⟨w5.heap.size, 0, none⟩ : Addr).add j) = some u) := Lib.hid (cells_one w5 _ _)
    generalize w5.alloc (.cells #[.slice (some ⟨g, 0, none⟩) ob.length ob.length] 37) = w6 at hba HNW ⊢
    have HB6 := Lib.hid hba
    have SD : Hid (Row w6 p1 60 (scs As ns cs Al fs.length cl) ∧ Row w6 p2 55 [.int .i64 k, .int .i64 a, .int .u8 (x.toNat : Int), .slice A n c]) := Lib.hid ⟨SC.out.1.below hba SC.out.1.lt, SC.out.2.below hba SC.out.2.lt⟩
    have HOWN6 := Lib.hid (own_below (own_below HOWN4.out HB5.out) hba)
    clear hba
    refine hK _ _ SD.out.2 (fun _ => ?_)
    clear hK K
    try simp only [Act.put, List.setIfInBounds_toArray, List.set_cons_zero, List.set_cons_succ]
    refine wpAnyH_ready (rs := [7]) (by kernel_rfl) (by simp) ?_
    refine (AllReadyH.cons rfl (fun K hK => ?_) AllReadyH.nil)
    rw [if_pos (by rfl)]
    refine wp_append_placed (.tmp 14) (.tmp 17) 58 rfl 37 i0 (.slice none 0 0) 24 Try.underlying58 hi0 hz0 hz1 hz2 rfl v4 fs.length xs rfl HOWN6.out ⟨w5.heap.size, 0, none⟩ 1 1 [.slice (some ⟨g, 0, none⟩) ob.length ob.length] rfl rfl HNW.out (by intro u hu; rw [List.mem_singleton.1 hu]; rfl) (by unfold maxLen; omega) (by omega) ?_
    intro v7 w7 hown7 hg7 hp7
    have hB46 : Below w4.heap.size w4 w6 := HB5.out.trans (HB6.out.mono HB5.out.size)
    have hb27 : Below w2.heap.size w2 w7 := (HB4.out.trans (hB46.mono HB4.out.size)).grown hg7 (Nat.le_trans HB4.out.size hB46.size) (fun q e => HN4.out q e)
    obtain ⟨A7, c7, rfl⟩ : ∃ A7 c7, v7 = .slice A7 (fs.length + 1) c7 := by
      rcases hown7.2 with ⟨_, h0⟩ | ⟨g', cap, cur, hv, _⟩
      · omega
      · exact ⟨_, _, hv⟩
    have hn7 : ∀ q, (Value.slice A7 (fs.length + 1) c7).ownBlock = some q → w2.heap.size ≤ q := fun q hq => by
      rcases hp7 q hq with h | h
      · exact HN4.out q h
      · have := HB4.out.size; have := hB46.size; omega
    have hrg : Row w7 g 5 (bv ob) := own_apart HOWN6.out hg7 (HR5.out.below HB6.out HR5.out.lt) (by decide)
    have HOWN7 := Lib.hid hown7
    have HN7 := Lib.hid hn7
    have HB7 := Lib.hid hb27
    have HRG := Lib.hid hrg
    have HGL : Hid (w2.heap.size ≤ g) := Lib.hid (Nat.le_trans HB4.out.size HG5.out)
    have SE : Hid (Row w7 p1 60 (scs As ns cs Al fs.length cl) ∧ Row w7 p2 55 [.int .i64 k, .int .i64 a, .int .u8 (x.toNat : Int), .slice A n c]) := Lib.hid ⟨R21.out.below hb27 R21.out.lt, R22.out.below hb27 R22.out.lt⟩
    clear hown7 hg7 hp7 hb27 hn7 hrg hB46 HOWN6 HNW
    refine hK _ _ SE.out.2 (fun _ => ?_)
    clear hK K
    try simp only [Act.put, List.setIfInBounds_toArray, List.set_cons_zero, List.set_cons_succ]
    refine wpAnyH_take (i := 8) (oi := ⟨some 19, _, _, _, _, _⟩) (v := ?vq9) rfl (by kernel_rfl) (by kernel_rfl) (by kernel_rfl) (fun _ _ _ h => h) (Or.inl ⟨by rfl, ?yq9⟩) SE.out.2 ?rq9
    case yq9 =>
      rintro w' hSw
      go_simp
      try with_reducible rfl
    try simp only [Act.put, List.setIfInBounds_toArray, List.set_cons_zero, List.set_cons_succ]
    refine wpAnyH_ready (rs := [9]) (by kernel_rfl) (by simp) ?_
    refine (AllReadyH.cons rfl (fun K hK => ?_) AllReadyH.nil)
    have hc9 : w7.cell? ⟨p1, 1, none⟩ = some (.slice Al fs.length cl) := SE.out.1.cell 1
    have hf9 := SE.out.1.frozen 1
    have HR9 : Hid (Row (w7.setCell ⟨p1, 1, none⟩ (.slice A7 (fs.length + 1) c7)) p1 60 (scs As ns cs A7 (fs.length + 1) c7)) := Lib.hid (SE.out.1.store 1 (.slice A7 (fs.length + 1) c7))
    have HG9 : Hid (w7.grownBy (w7.setCell ⟨p1, 1, none⟩ (.slice A7 (fs.length + 1) c7)) (some p1)) := Lib.hid (grown_setAt w7 _ _)
    have HS9 : Hid (Row (w7.setCell ⟨p1, 1, none⟩ (.slice A7 (fs.length + 1) c7)) p2 55 [.int .i64 k, .int .i64 a, .int .u8 (x.toNat : Int), .slice A n c]) := Lib.hid (SE.out.2.far (by have := HP.out; show p2 ≠ p1; omega) _)
    go_simp
    generalize w7.setCell ⟨p1, 1, none⟩ (.slice A7 (fs.length + 1) c7) = w8 at HR9 HG9 HS9 ⊢
    refine hK _ _ HS9.out (fun _ => ?_)
    clear hK K
    try simp only [Act.put, List.setIfInBounds_toArray, List.set_cons_zero, List.set_cons_succ]
    refine wpAnyH_done (by kernel_rfl) ?_ _
  
    have R83 : Hid (Row w8 p3 60 (scs none 0 0 none 0 0)) := Lib.hid ((R23.out.below HB7.out R23.out.lt).grown HG9.out (fun e => by have := Option.some.inj e; have := HP.out; omega))
    go_wp2_with (first
      | (with_reducible refine wpList_load_row (op := ⟨some 20, _, _, _, _, _⟩) ?_ 60 (.tmp 2) ?_ p1 0 ?_ (scs As ns cs A7 (fs.length + 1) c7) _ (Row.all HR9.out) Try.underlying60 ?_ (HI2.out _ _ _ _ _ _) ?_)
      | (with_reducible refine wpList_store_whole (op := ⟨none, _, _, _, _, _⟩) ?_ 60 (.tmp 4) (.tmp 20) ?_ p3 (scs As ns cs A7 (fs.length + 1) c7) ?_ ?_ 60 (scs none 0 0 none 0 0) R83.out (HLS.out _ _ _ _ _ _) (scs_one _ _ _ _ _ _) (HI2.out _ _ _ _ _ _) ?_))
    all_goals try (first | rfl | (simp; done))
    intro w9 hr9 hg9
    have hlp := HP.out
    have hbw := HBW2.out.size
    have hb79 : ∀ q, q ≠ p1 → q ≠ p3 → q < w7.heap.size → w9.heap[q]? = w7.heap[q]? := fun q h1 h3 hlt => (hg9.block q (Nat.lt_of_lt_of_le hlt HG9.out.size) (fun e => h3 (Option.some.inj e))).trans (HG9.out.block q hlt (fun e => h1 (Option.some.inj e)))
    have hu7 : ∀ q cs', Row w7 q 5 cs' → Row w9 q 5 cs' := fun q cs' hr => (hb79 q (fun e => absurd (row_type hr (e ▸ SE.out.1)) (by decide)) (fun e => absurd (row_type hr (e ▸ (R23.out.below HB7.out R23.out.lt))) (by decide)) hr.lt).trans hr
    have hy7 : ∀ {E : Option Addr} {m d : Nat} {z : List UInt8}, By w7 E m d z → By w9 E m d z := fun {E m d z} hz => own_kept hz (fun q hq hlt => by
      obtain ⟨cs', hr'⟩ := own_type hz hq
      exact (hu7 q cs' hr').trans (show w7.heap[q]? = _ from hr').symm)
    have HE : Hid (StV w9 lo (.agg (scs As ns cs A7 (fs.length + 1) c7).toArray) b (fs ++ [ob])) := Lib.hid (by
      refine ⟨As, ns, cs, A7, c7, by rw [List.length_append]; rfl, hy7 (own_below HY2.out HB7.out), hm0, HG0.out, xs ++ [.slice (some ⟨g, 0, none⟩) ob.length ob.length], ?_, ?_, ?_⟩
      · rw [List.length_append]
        exact own_kept HOWN7.out (fun q hq hlt => by
          obtain ⟨cs', hr'⟩ := own_type HOWN7.out hq
          exact hb79 q (fun e => absurd (row_type hr' (e ▸ SE.out.1)) (by decide)) (fun e => absurd (row_type hr' (e ▸ (R23.out.below HB7.out R23.out.lt))) (by decide)) hlt)
      · intro q hq
        rw [List.length_append] at hq
        have := HN7.out q hq
        omega
      · intro i hi
        rw [List.length_append] at hi
        by_cases hin : i < fs.length
        · obtain ⟨Ai, ni, ci, s1, s2, s3, s4⟩ := HAT.out i hin
          refine ⟨Ai, ni, ci, ?_, ?_, s3, s4⟩
          · rw [List.getElem?_append_left (by rw [HXL.out]; exact hin)]; exact s1
          · rw [List.getD_eq_getElem?_getD, List.getElem?_append_left hin, ← List.getD_eq_getElem?_getD]
            exact hy7 (own_below s2 HB7.out)
        · have hie : i = fs.length := by simp only [List.length_cons, List.length_nil] at hi; omega
          rw [hie]
          refine ⟨some ⟨g, 0, none⟩, ob.length, ob.length, ?_, ?_, HM.out, fun q hq => ?_⟩
          · rw [List.getElem?_append_right (by rw [HXL.out]; exact Nat.le_refl _), HXL.out, Nat.sub_self]; rfl
          · rw [List.getD_eq_getElem?_getD, List.getElem?_append_right (Nat.le_refl _), Nat.sub_self]
            exact hy7 (by_of_row HRG.out HM.out)
          · have := Option.some.inj (show some g = some q from hq); have := HGL.out; omega)
    have HBE : Hid (Below w.heap.size w w9) := Lib.hid (((HBW2.out.trans (HB7.out.mono HBW2.out.size)).grown HG9.out (Nat.le_trans hbw HB7.out.size) (fun q e => by have := Option.some.inj e; omega)).grown hg9 (Nat.le_trans (Nat.le_trans hbw HB7.out.size) HG9.out.size) (fun q e => by have := Option.some.inj e; omega))
    have HR9' := Lib.hid hr9
    clear hr9 hg9 hb79 hu7 hy7 hlp hbw
    go_wp2
    exact bodyPost_ret (v := .agg (scs As ns cs A7 (fs.length + 1) c7).toArray) (results_cell (p := 4) (ty := 60) rfl _ _ ⟨p3, 0, none⟩ _ rfl (load_state HR9'.out rfl)) rfl ⟨_, rfl, by rw [HAB.out, HAL.out]; exact HE.out, HBE.out⟩
  · have c1q11 := S0.out.1.cell 1
    rw [show (scs As ns cs Al fs.length cl)[1]? = some (.slice Al fs.length cl) from rfl] at c1q11
    go_simp
    refine hK _ _ S0.out.2 (fun _ => ?_)
    clear hK K
    try simp only [Act.put, List.setIfInBounds_toArray, List.set_cons_zero, List.set_cons_succ]
    refine wpAnyH_ready (rs := [0]) (by kernel_rfl) (by simp) ?_
    refine (AllReadyH.cons rfl (fun K hK => ?_) AllReadyH.nil)
    go_simp
    have hba : Below w2.heap.size w2 ((w2.alloc (.cells #[] 37)).drew) := ((Below.refl _ _).alloc (Nat.le_refl _) _).drew
    have OWN0 : Hid (((w2.alloc (.cells #[] 37)).drew).ownsRow 0 37 1 (.slice (some ⟨w2.heap.size, 0, none⟩) 0 0) 0 []) := World.ownsRow_made w2 #[] 0 (Nat.zero_le _) (Nat.zero_le _) rfl
    generalize (w2.alloc (.cells #[] 37)).drew = w3 at hba OWN0 ⊢
    have HB3 := Lib.hid hba
    have SA : Hid (Row w3 p1 60 (scs As ns cs Al fs.length cl) ∧ Row w3 p2 55 [.int .i64 k, .int .i64 a, .int .u8 (x.toNat : Int), .slice A n c]) := Lib.hid ⟨R21.out.below hba R21.out.lt, R22.out.below hba R22.out.lt⟩
    have HO3 : Hid (w3.ownsRow 0 37 1 (.slice Al fs.length cl) fs.length xs) := Lib.hid (own_below HO.out hba)
    clear hba
    refine hK _ _ SA.out.2 (fun _ => ?_)
    clear hK K
    try simp only [Act.put, List.setIfInBounds_toArray, List.set_cons_zero, List.set_cons_succ]
    refine wpAnyH_ready (rs := [3]) (by kernel_rfl) (by simp) ?_
    refine (AllReadyH.cons rfl (fun K hK => ?_) AllReadyH.nil)
    rw [if_pos (by rfl)]
    refine wp_append_opt (.tmp 11) (.tmp 13) 58 rfl 37 i0 (.slice none 0 0) 24 Try.underlying58 hi0 hz0 hz1 hz2 rfl (.slice (some ⟨w2.heap.size, 0, none⟩) 0 0) 0 [] rfl OWN0.out Al fs.length cl xs rfl HXL.out HNIL.out (fun ad hA => own_cells (by rw [← hA]; exact HO3.out)) H1C.out (by unfold maxLen; omega) (by omega) ?_
    intro v4 w4 hown4 hg4 hp4
    rw [List.nil_append, Nat.zero_add] at hown4
    have hb24 : Below w2.heap.size w2 w4 := HB3.out.grown hg4 HB3.out.size (fun q e => by have := Option.some.inj (show some w2.heap.size = some q from e); omega)
    have hn4 : ∀ q, v4.ownBlock = some q → w2.heap.size ≤ q := fun q hq => by
      rcases hp4 q hq with h | h
      · have := Option.some.inj (show some w2.heap.size = some q from h); omega
      · have := HB3.out.size; omega
    have HOWN4 := Lib.hid hown4
    have HN4 := Lib.hid hn4
    have HB4 := Lib.hid hb24
    have SB : Hid (Row w4 p1 60 (scs As ns cs Al fs.length cl) ∧ Row w4 p2 55 [.int .i64 k, .int .i64 a, .int .u8 (x.toNat : Int), .slice A n c]) := Lib.hid ⟨R21.out.below hb24 R21.out.lt, R22.out.below hb24 R22.out.lt⟩
    clear hown4 hg4 hp4 hb24 hn4 OWN0 HO3
    refine hK _ _ SB.out.2 (fun _ => ?_)
    clear hK K
    try simp only [Act.put, List.setIfInBounds_toArray, List.set_cons_zero, List.set_cons_succ]
    refine wpAnyH_ready (rs := [5]) (by kernel_rfl) (by simp) ?_
    refine (AllReadyH.cons rfl (fun K hK => ?_) AllReadyH.nil)
    go_simp
    refine (HBY.out w4).mono ?_
    rintro e w5 ⟨g, rfl, hr5, hg5, hb5⟩
    have HR5 := Lib.hid hr5
    have HG5 : Hid (w4.heap.size ≤ g) := Lib.hid hg5
    have HB5 := Lib.hid hb5
    have SC : Hid (Row w5 p1 60 (scs As ns cs Al fs.length cl) ∧ Row w5 p2 55 [.int .i64 k, .int .i64 a, .int .u8 (x.toNat : Int), .slice A n c]) := Lib.hid ⟨SB.out.1.below hb5 SB.out.1.lt, SB.out.2.below hb5 SB.out.2.lt⟩
    clear hr5 hg5 hb5
    refine hK _ _ SC.out.2 (fun _ => ?_)
    clear hK K
    try simp only [Act.put, List.setIfInBounds_toArray, List.set_cons_zero, List.set_cons_succ]
    refine wpAnyH_ready (rs := [6]) (by kernel_rfl) (by simp) ?_
    refine (AllReadyH.cons rfl (fun K hK => ?_) AllReadyH.nil)
    go_simp
    have hba : Below w5.heap.size w5 (w5.alloc (.cells #[.slice (some ⟨g, 0, none⟩) ob.length ob.length] 37)) := (Below.refl _ _).alloc (Nat.le_refl _) _
    have HNW : Hid (∀ j u, ([Value.slice (some ⟨g, 0, none⟩) ob.length ob.length] : List Value)[j]? = some u → (w5.alloc (.cells #[.slice (some ⟨g, 0, none⟩) ob.length ob.length] 37)).cell? ((⟨w5.heap.size, 0, none⟩ : Addr).add j) = some u) := Lib.hid (cells_one w5 _ _)
    generalize w5.alloc (.cells #[.slice (some ⟨g, 0, none⟩) ob.length ob.length] 37) = w6 at hba HNW ⊢
    have HB6 := Lib.hid hba
    have SD : Hid (Row w6 p1 60 (scs As ns cs Al fs.length cl) ∧ Row w6 p2 55 [.int .i64 k, .int .i64 a, .int .u8 (x.toNat : Int), .slice A n c]) := Lib.hid ⟨SC.out.1.below hba SC.out.1.lt, SC.out.2.below hba SC.out.2.lt⟩
    have HOWN6 := Lib.hid (own_below (own_below HOWN4.out HB5.out) hba)
    clear hba
    refine hK _ _ SD.out.2 (fun _ => ?_)
    clear hK K
    try simp only [Act.put, List.setIfInBounds_toArray, List.set_cons_zero, List.set_cons_succ]
    refine wpAnyH_ready (rs := [7]) (by kernel_rfl) (by simp) ?_
    refine (AllReadyH.cons rfl (fun K hK => ?_) AllReadyH.nil)
    rw [if_pos (by rfl)]
    refine wp_append_placed (.tmp 14) (.tmp 17) 58 rfl 37 i0 (.slice none 0 0) 24 Try.underlying58 hi0 hz0 hz1 hz2 rfl v4 fs.length xs rfl HOWN6.out ⟨w5.heap.size, 0, none⟩ 1 1 [.slice (some ⟨g, 0, none⟩) ob.length ob.length] rfl rfl HNW.out (by intro u hu; rw [List.mem_singleton.1 hu]; rfl) (by unfold maxLen; omega) (by omega) ?_
    intro v7 w7 hown7 hg7 hp7
    have hB46 : Below w4.heap.size w4 w6 := HB5.out.trans (HB6.out.mono HB5.out.size)
    have hb27 : Below w2.heap.size w2 w7 := (HB4.out.trans (hB46.mono HB4.out.size)).grown hg7 (Nat.le_trans HB4.out.size hB46.size) (fun q e => HN4.out q e)
    obtain ⟨A7, c7, rfl⟩ : ∃ A7 c7, v7 = .slice A7 (fs.length + 1) c7 := by
      rcases hown7.2 with ⟨_, h0⟩ | ⟨g', cap, cur, hv, _⟩
      · omega
      · exact ⟨_, _, hv⟩
    have hn7 : ∀ q, (Value.slice A7 (fs.length + 1) c7).ownBlock = some q → w2.heap.size ≤ q := fun q hq => by
      rcases hp7 q hq with h | h
      · exact HN4.out q h
      · have := HB4.out.size; have := hB46.size; omega
    have hrg : Row w7 g 5 (bv ob) := own_apart HOWN6.out hg7 (HR5.out.below HB6.out HR5.out.lt) (by decide)
    have HOWN7 := Lib.hid hown7
    have HN7 := Lib.hid hn7
    have HB7 := Lib.hid hb27
    have HRG := Lib.hid hrg
    have HGL : Hid (w2.heap.size ≤ g) := Lib.hid (Nat.le_trans HB4.out.size HG5.out)
    have SE : Hid (Row w7 p1 60 (scs As ns cs Al fs.length cl) ∧ Row w7 p2 55 [.int .i64 k, .int .i64 a, .int .u8 (x.toNat : Int), .slice A n c]) := Lib.hid ⟨R21.out.below hb27 R21.out.lt, R22.out.below hb27 R22.out.lt⟩
    clear hown7 hg7 hp7 hb27 hn7 hrg hB46 HOWN6 HNW
    refine hK _ _ SE.out.2 (fun _ => ?_)
    clear hK K
    try simp only [Act.put, List.setIfInBounds_toArray, List.set_cons_zero, List.set_cons_succ]
    refine wpAnyH_take (i := 8) (oi := ⟨some 19, _, _, _, _, _⟩) (v := ?vq17) rfl (by kernel_rfl) (by kernel_rfl) (by kernel_rfl) (fun _ _ _ h => h) (Or.inl ⟨by rfl, ?yq17⟩) SE.out.2 ?rq17
    case yq17 =>
      rintro w' hSw
      go_simp
      try with_reducible rfl
    try simp only [Act.put, List.setIfInBounds_toArray, List.set_cons_zero, List.set_cons_succ]
    refine wpAnyH_ready (rs := [9]) (by kernel_rfl) (by simp) ?_
    refine (AllReadyH.cons rfl (fun K hK => ?_) AllReadyH.nil)
    have hc9 : w7.cell? ⟨p1, 1, none⟩ = some (.slice Al fs.length cl) := SE.out.1.cell 1
    have hf9 := SE.out.1.frozen 1
    have HR9 : Hid (Row (w7.setCell ⟨p1, 1, none⟩ (.slice A7 (fs.length + 1) c7)) p1 60 (scs As ns cs A7 (fs.length + 1) c7)) := Lib.hid (SE.out.1.store 1 (.slice A7 (fs.length + 1) c7))
    have HG9 : Hid (w7.grownBy (w7.setCell ⟨p1, 1, none⟩ (.slice A7 (fs.length + 1) c7)) (some p1)) := Lib.hid (grown_setAt w7 _ _)
    have HS9 : Hid (Row (w7.setCell ⟨p1, 1, none⟩ (.slice A7 (fs.length + 1) c7)) p2 55 [.int .i64 k, .int .i64 a, .int .u8 (x.toNat : Int), .slice A n c]) := Lib.hid (SE.out.2.far (by have := HP.out; show p2 ≠ p1; omega) _)
    go_simp
    generalize w7.setCell ⟨p1, 1, none⟩ (.slice A7 (fs.length + 1) c7) = w8 at HR9 HG9 HS9 ⊢
    refine hK _ _ HS9.out (fun _ => ?_)
    clear hK K
    try simp only [Act.put, List.setIfInBounds_toArray, List.set_cons_zero, List.set_cons_succ]
    refine wpAnyH_done (by kernel_rfl) ?_ _
  
    have R83 : Hid (Row w8 p3 60 (scs none 0 0 none 0 0)) := Lib.hid ((R23.out.below HB7.out R23.out.lt).grown HG9.out (fun e => by have := Option.some.inj e; have := HP.out; omega))
    go_wp2_with (first
      | (with_reducible refine wpList_load_row (op := ⟨some 20, _, _, _, _, _⟩) ?_ 60 (.tmp 2) ?_ p1 0 ?_ (scs As ns cs A7 (fs.length + 1) c7) _ (Row.all HR9.out) Try.underlying60 ?_ (HI2.out _ _ _ _ _ _) ?_)
      | (with_reducible refine wpList_store_whole (op := ⟨none, _, _, _, _, _⟩) ?_ 60 (.tmp 4) (.tmp 20) ?_ p3 (scs As ns cs A7 (fs.length + 1) c7) ?_ ?_ 60 (scs none 0 0 none 0 0) R83.out (HLS.out _ _ _ _ _ _) (scs_one _ _ _ _ _ _) (HI2.out _ _ _ _ _ _) ?_))
    all_goals try (first | rfl | (simp; done))
    intro w9 hr9 hg9
    have hlp := HP.out
    have hbw := HBW2.out.size
    have hb79 : ∀ q, q ≠ p1 → q ≠ p3 → q < w7.heap.size → w9.heap[q]? = w7.heap[q]? := fun q h1 h3 hlt => (hg9.block q (Nat.lt_of_lt_of_le hlt HG9.out.size) (fun e => h3 (Option.some.inj e))).trans (HG9.out.block q hlt (fun e => h1 (Option.some.inj e)))
    have hu7 : ∀ q cs', Row w7 q 5 cs' → Row w9 q 5 cs' := fun q cs' hr => (hb79 q (fun e => absurd (row_type hr (e ▸ SE.out.1)) (by decide)) (fun e => absurd (row_type hr (e ▸ (R23.out.below HB7.out R23.out.lt))) (by decide)) hr.lt).trans hr
    have hy7 : ∀ {E : Option Addr} {m d : Nat} {z : List UInt8}, By w7 E m d z → By w9 E m d z := fun {E m d z} hz => own_kept hz (fun q hq hlt => by
      obtain ⟨cs', hr'⟩ := own_type hz hq
      exact (hu7 q cs' hr').trans (show w7.heap[q]? = _ from hr').symm)
    have HE : Hid (StV w9 lo (.agg (scs As ns cs A7 (fs.length + 1) c7).toArray) b (fs ++ [ob])) := Lib.hid (by
      refine ⟨As, ns, cs, A7, c7, by rw [List.length_append]; rfl, hy7 (own_below HY2.out HB7.out), hm0, HG0.out, xs ++ [.slice (some ⟨g, 0, none⟩) ob.length ob.length], ?_, ?_, ?_⟩
      · rw [List.length_append]
        exact own_kept HOWN7.out (fun q hq hlt => by
          obtain ⟨cs', hr'⟩ := own_type HOWN7.out hq
          exact hb79 q (fun e => absurd (row_type hr' (e ▸ SE.out.1)) (by decide)) (fun e => absurd (row_type hr' (e ▸ (R23.out.below HB7.out R23.out.lt))) (by decide)) hlt)
      · intro q hq
        rw [List.length_append] at hq
        have := HN7.out q hq
        omega
      · intro i hi
        rw [List.length_append] at hi
        by_cases hin : i < fs.length
        · obtain ⟨Ai, ni, ci, s1, s2, s3, s4⟩ := HAT.out i hin
          refine ⟨Ai, ni, ci, ?_, ?_, s3, s4⟩
          · rw [List.getElem?_append_left (by rw [HXL.out]; exact hin)]; exact s1
          · rw [List.getD_eq_getElem?_getD, List.getElem?_append_left hin, ← List.getD_eq_getElem?_getD]
            exact hy7 (own_below s2 HB7.out)
        · have hie : i = fs.length := by simp only [List.length_cons, List.length_nil] at hi; omega
          rw [hie]
          refine ⟨some ⟨g, 0, none⟩, ob.length, ob.length, ?_, ?_, HM.out, fun q hq => ?_⟩
          · rw [List.getElem?_append_right (by rw [HXL.out]; exact Nat.le_refl _), HXL.out, Nat.sub_self]; rfl
          · rw [List.getD_eq_getElem?_getD, List.getElem?_append_right (Nat.le_refl _), Nat.sub_self]
            exact hy7 (by_of_row HRG.out HM.out)
          · have := Option.some.inj (show some g = some q from hq); have := HGL.out; omega)
    have HBE : Hid (Below w.heap.size w w9) := Lib.hid (((HBW2.out.trans (HB7.out.mono HBW2.out.size)).grown HG9.out (Nat.le_trans hbw HB7.out.size) (fun q e => by have := Option.some.inj e; omega)).grown hg9 (Nat.le_trans (Nat.le_trans hbw HB7.out.size) HG9.out.size) (fun q e => by have := Option.some.inj e; omega))
    have HR9' := Lib.hid hr9
    clear hr9 hg9 hb79 hu7 hy7 hlp hbw
    go_wp2
    exact bodyPost_ret (v := .agg (scs As ns cs A7 (fs.length + 1) c7).toArray) (results_cell (p := 4) (ty := 60) rfl _ _ ⟨p3, 0, none⟩ _ rfl (load_state HR9'.out rfl)) rfl ⟨_, rfl, by rw [HAB.out, HAL.out]; exact HE.out, HBE.out⟩
end Go.Proofs.Yteemdjamgbbjhaa.Wl
