/-
  Part 6 of the contracts that the law rests on.
-/
import Derived.Lib.SlBytesConst
import Derived.Test.YtchagomphpfimaaRows
import Derived.ProofKit
import Derived.OpenShut
import Derived.ChangeOld
import Derived.Below
import Derived.SizedLaws
import Derived.Deep.CondSized
import Derived.JoinedCond
import Derived.Test.YtchagomphpfimaaCw1
import Derived.Test.YtchagomphpfimaaCw4
import Derived.Test.YtchagomphpfimaaCw5
/-
  Does the layer do anything?
-/
namespace Go.Proofs.Ytchagomphpfimaa.Wl
set_option maxRecDepth 100000
open Go.RowKit Go.Shelf Go.Proofs.Ytchagomphpfimaa.Wd Go.Proofs.Ytchagomphpfimaa.Dsk Go.Proofs.Ytchagomphpfimaa.Oct Go.Proofs.Ytchagomphpfimaa.Sum Go.Proofs.Ytchagomphpfimaa.Beq

attribute [local go_sem] Oper.semAt_some

def wk1 : DM := (formM 4 (DM.new 10)).1
def wk2 : DM := (layM (pairsM 0 1 [97, 98]) 3 wk1).1
theorem wk_form : (formM 4 (DM.new 10)).2 = 0 := by decide +kernel
theorem wk_lay : (layM (pairsM 0 1 [97, 98]) 3 wk1).2 = 0 := by decide +kernel
theorem wk_open : (openM wk2).2 = (0, (0, 4, [[], [97, 98]])) := by decide +kernel
theorem below_off {w w1 w2 : World} {F : Nat → Prop} (hb : Below w.heap.size w w1) (ho : Off F w1 w2) (hF : ∀ k, F k → w.heap.size ≤ k) : Below w.heap.size w w2 :=
  hb.trans ⟨ho.os, ho.tape, ho.output, ho.size, fun k hk => ho.block k (Nat.lt_of_lt_of_le hk hb.size) (fun h => by have := hF k h; omega)⟩
theorem ext_new {w w1 w2 : World} {F F' : Nat → Prop} (hb : w.heap.size ≤ w1.heap.size) (hx : Ext F F' w1 w2) (hF : ∀ k, F k → w.heap.size ≤ k) : ∀ k, F' k → w.heap.size ≤ k := fun k hk => by
  rcases hx k hk with h | h
  · exact hF k h
  · omega
theorem dk_new {F : Nat → Prop} {g n : Nat} {W : World} (h : Disk W F g (DM.new n)) : ∃ Fm : Nat → Prop, Dk W Fm g (DM.new n) ∧ ∀ k, Fm k → F k := dk_min h
theorem log_keep {w w' : World} {G : Nat → Prop} {g dg area t : Nat} {fs : List (List UInt8)} {br : Bool} (h : Log w G g dg area t fs br) (hk : ∀ k, G k → k < w.heap.size → w'.heap[k]? = w.heap[k]?) : Log w' G g dg area t fs br := by
  obtain ⟨A, c, xs, h1, h2, h3, h4, h5⟩ := h
  exact ⟨A, c, xs, (hk g h3 h1.lt).trans h1, own_kept h2 (fun k hkb hlt => hk k (h4 k hkb) hlt), h3, h4, fun i hi => by
    obtain ⟨Ai, ni, ci, q1, q2, q3, q4⟩ := h5 i hi
    exact ⟨Ai, ni, ci, q1, own_kept q2 (fun k hkb hlt => hk k (q4 k hkb) hlt), q3, q4⟩⟩
theorem log_below {w w' : World} {G : Nat → Prop} {g dg area t : Nat} {fs : List (List UInt8)} {br : Bool} (h : Log w G g dg area t fs br) (hb : Below w.heap.size w w') : Log w' G g dg area t fs br := log_keep h fun k _ hlt => hb.block k hlt
theorem log_more {w : World} {G G' : Nat → Prop} {g dg area t : Nat} {fs : List (List UInt8)} {br : Bool} (h : Log w G g dg area t fs br) (hk : ∀ k, G k → G' k) : Log w G' g dg area t fs br := by
  obtain ⟨A, c, xs, h1, h2, h3, h4, h5⟩ := h
  exact ⟨A, c, xs, h1, h2, hk _ h3, fun k hkb => hk k (h4 k hkb), fun i hi => by
    obtain ⟨Ai, ni, ci, q1, q2, q3, q4⟩ := h5 i hi
    exact ⟨Ai, ni, ci, q1, q2, q3, fun k hkb => hk k (q4 k hkb)⟩⟩
/-- what a return out of the first round leaves -/
def WkX (w : World) (r : Bool) (_ : List EA) (W : World) : Prop := Row W w.heap.size 4 [.bool r] ∧ Below w.heap.size w W
theorem own_put {W : World} {l : Nat} {o o' : Obj} {e : TypeId} {v : Value} {n : Nat} {xs : List Value} (h : W.ownsRow 0 e 1 v n xs) (hl : W.heap[l]? = some o) (hc : o.isCells = false) : (W.putObj l o').ownsRow 0 e 1 v n xs :=
  own_kept h fun g hg _ => World.putObj_heap_other fun he => by
    obtain ⟨cs, hr⟩ := own_type h hg
    rw [he] at hr
    rw [show W.heap[l]? = _ from hr] at hl
    cases hl
    cases hc
theorem row_putL {W : World} {b : Nat} {t : TypeId} {cs : List Value} (h : Row W b t cs) {k : Nat} {ob ob' : Obj} (hl : W.heap[k]? = some ob) (hc : ob.isCells = false) : Row (W.putObj k ob') b t cs := by
  refine (World.putObj_heap_other fun e => ?_).trans h
  rw [← e, show W.heap[b]? = _ from h] at hl
  cases hl
  cases hc
theorem load_bool {W : World} {b : Nat} {r : Bool} (h : Row W b 4 [.bool r]) : (loadVar 4 ⟨b, 0, none⟩).run Try.prog W = .ok (.bool r) W := by
  have hc : W.cell? ⟨b, 0, none⟩ = some (.bool r) := h.cell 0
  go_simp
/-- what the rounds hold: there is no second one -/
structure WkI (w : World) (B : Nat) (pre : List EA) (W : World) : Prop where
  nil : pre = []
  r0 : Row W w.heap.size 4 [.bool false]
  hb : Below w.heap.size w W
  sz : B ≤ W.heap.size
def WkAx (w : World) (tm : Value → Value → Array Value) (x : EA) (a' : Act) (W : World) : Prop := a' = { tmps := tm (.int .i64 (x.1 : Int)) (.slice x.2.1 x.2.2.1 x.2.2.2), defers := [] } ∧ x.1 = 1 ∧ By W x.2.1 x.2.2.1 x.2.2.2 [97, 98] ∧ x.2.2.1 ≤ 40000
set_option maxHeartbeats 8000000 in
theorem wakes_any (w : World) : Calls Try.prog 8 #[] w fun e w' => e = .returned (.bool true) ∧ Below w.heap.size w w' := by
  have mixed : Try.prog.follows .mixedOrders = true := by kernel_rfl
  refine (callsIn_wide (n := 9)).1 ?_
  refine callsIn_of_wp_marks Try.func8 rfl trivial ?_ rfl
  refine wpIn_wide.2 ?_
  simp only [Try.ntmps8, List.size_toArray, List.length_cons, List.length_nil, Nat.reduceAdd, Nat.reduceSub, Array.replicate_succ, Array.replicate_zero, List.push_toArray, List.append_toArray, List.nil_append, List.cons_append]
  go_wp2_with fail
  have hb0 : Below w.heap.size w (w.alloc (.cells #[.bool false] 4)) := (Below.refl _ _).alloc (Nat.le_refl _) _
  have hr0 : Row (w.alloc (.cells #[.bool false] 4)) w.heap.size 4 [.bool false] := Row.new w _ _
  generalize w.alloc (.cells #[.bool false] 4) = w0 at hb0 hr0 ⊢
  have HB0 := Lib.hid hb0
  have HR0 := Lib.hid hr0
  clear hb0 hr0
  refine (dnew_good 10 _ (by omega) (by omega)).mono ?_
  rintro e w1 ⟨dg, rfl, F0, hd0, hf0, hb1⟩
  obtain ⟨F1, hd1, hff⟩ := dk_new hd0
  have HD1 := Lib.hid hd1
  have HF1 : Hid (∀ k, F1 k → w0.heap.size ≤ k) := Lib.hid fun k hk => hf0 k (hff k hk)
  have HB1 := Lib.hid (HB0.out.trans (hb1.mono HB0.out.size))
  have HR1 := Lib.hid (HR0.out.below hb1 HR0.out.lt)
  have HS01 := Lib.hid hb1.size
  clear hd0 hf0 hb1 hd1 hff
  go_wp2_with fail
  refine (format_any dg 4 (DM.new 10) F1 w1 HD1.out (by omega) (by omega) (by simp [DM.new]) (by simp [DM.new])).mono ?_
  rintro e w2 ⟨p, F2, rfl, hd2, hx2, ho2, -, hg2⟩
  obtain ⟨g, rfl, hgw, hbg⟩ := hg2 wk_form
  rw [wk_form]
  have hlog := Log.of_begun hbg hgw (by omega) rfl
  have HD2 : Hid (Dk w2 F2 dg wk1) := Lib.hid hd2
  have HF2 := Lib.hid (ext_new HS01.out hx2 HF1.out)
  have HB2 := Lib.hid (below_off HB1.out ho2 (fun k hk => Nat.le_trans HB0.out.size (HF1.out k hk)))
  have HR2 : Hid (Row w2 w.heap.size 4 [.bool false]) := Lib.hid ((ho2.block _ HR1.out.lt (fun h => by have := HF1.out _ h; have := HR0.out.lt; omega)).trans HR1.out)
  have HLG2 := Lib.hid hlog
  have HS12 := Lib.hid ho2.size
  clear hd2 hx2 ho2 hg2 hbg hlog hgw
  have HCV := Lib.hid (show (convert 37 37 (.slice (some ⟨w2.heap.size, 0, none⟩) 2 2)).run Try.prog (w2.alloc (.cells #[.int .u8 97, .int .u8 98] 5)) = .ok (.slice (some ⟨w2.heap.size, 0, none⟩) 2 2) (w2.alloc (.cells #[.int .u8 97, .int .u8 98] 5 (2, 3))) from Lib.run_convert_bytes_const (P := Try.prog) w2 37 5 #[.int .u8 97, .int .u8 98] 2 2 Try.underlying37 Try.underlying5)
  go_wp2_with fail
  rw [HCV.out]
  have hb3 : Below w2.heap.size w2 (w2.alloc (.cells #[.int .u8 97, .int .u8 98] 5 (2, 3))) := (Below.refl _ _).alloc (Nat.le_refl _) _
  have hs3 : Sl (w2.alloc (.cells #[.int .u8 97, .int .u8 98] 5 (2, 3))) (w2.alloc (.cells #[.int .u8 97, .int .u8 98] 5 (2, 3))).heap.size (some ⟨w2.heap.size, 0, none⟩) 2 2 [97, 98] := ⟨rfl, Nat.le_refl _, by unfold maxLen; omega, fun h => (by cases h), by
    have := lit_bs2 w2 [97, 98] 5 (2, 3)
    rw [World.size_alloc]
    exact this⟩
  generalize w2.alloc (.cells #[.int .u8 97, .int .u8 98] 5 (2, 3)) = w3 at hb3 hs3 ⊢
  have HD3 := Lib.hid (HD2.out.below hb3)
  have HLG3 := Lib.hid (log_below HLG2.out hb3)
  have HB3 := Lib.hid (HB2.out.trans (hb3.mono HB2.out.size))
  have HR3 := Lib.hid (HR2.out.below hb3 HR2.out.lt)
  have HS3 := Lib.hid hs3
  have HS23 := Lib.hid hb3.size
  clear hb3 hs3 HCV
  go_wp2_with fail
  refine (append_ok g dg 4 0 [[]] (some ⟨w2.heap.size, 0, none⟩) 2 2 [97, 98] wk1 F2 _ w3 HLG3.out HD3.out HS3.out (by omega) (by omega) (by omega) (by decide) (by decide) (by simp) (by decide +kernel)).mono ?_
  rintro e w4 ⟨rfl, F4, G4, hd4, hx4, hy4, ho4, hl4⟩
  have hlay : (layM (pairsM 0 ([[]] : List (List UInt8)).length [97, 98]) ((2 + 0 % 2 * 4 + usedM [[]] : Nat) : Int) wk1).2 = 0 := by decide +kernel
  have hlay1 : (layM (pairsM 0 ([[]] : List (List UInt8)).length [97, 98]) ((2 + 0 % 2 * 4 + usedM [[]] : Nat) : Int) wk1).1 = wk2 := rfl
  rw [hlay1] at hd4
  rw [hlay]
  have HD4 := Lib.hid hd4
  have hF2w : ∀ k, F2 k → w.heap.size + 1 ≤ k := fun k hk => by have := HF2.out k hk; have := HR0.out.lt; omega
  have HB4 := Lib.hid (below_off HB3.out ho4 (fun k hk => by
    rcases hk with h | h
    · have := hF2w k h; omega
    · have := HB1.out.size; omega))
  have HF4 : Hid (∀ k, F4 k → w.heap.size + 1 ≤ k) := Lib.hid fun k hk => by
    rcases hx4 k hk with h | h
    · exact hF2w k h
    · have := HR3.out.lt; omega
  have HR4 : Hid (Row w4 w.heap.size 4 [.bool false]) := Lib.hid ((ho4.block _ HR3.out.lt (fun h => by
    rcases h with h | h
    · have := hF2w _ h; omega
    · have := HR1.out.lt; omega)).trans HR3.out)
  clear hd4 hx4 hy4 ho4 hl4 hlay hlay1 hF2w
  go_wp2_with fail
  refine (open_any dg wk2 F4 w4 HD4.out (by decide +kernel)).mono ?_
  rintro e w5 ⟨p5, F5, rfl, hd5, hx5, ho5, -, hok5⟩
  rw [wk_open] at hok5 ⊢
  obtain ⟨g5, rfl, hl5, -⟩ := hok5 rfl
  dsimp only at hl5 ⊢
  have HB5 := Lib.hid (below_off HB4.out ho5 (fun k hk => by have := HF4.out k hk; omega))
  have HR5 : Hid (Row w5 w.heap.size 4 [.bool false]) := Lib.hid ((ho5.block _ HR4.out.lt (fun h => by have := HF4.out _ h; omega)).trans HR4.out)
  obtain ⟨A, c, xs, hrow, hown, hG, hGA, hat⟩ := hl5
  have HROW := Lib.hid hrow
  have HOWN := Lib.hid hown
  have HGA := Lib.hid hGA
  have HAT := Lib.hid hat
  have HS45 := Lib.hid ho5.size
  clear hd5 hx5 ho5 hok5 hrow hown hG hGA hat
  go_wp2_with fail
  refine (len_log g5 dg 4 0 1 c (usedM [[], [97, 98]]) A false w5 HROW.out (by omega)).mono ?_
  rintro e w6 ⟨rfl, rfl⟩
  go_wp2_with fail
  have hlf := left_any g5 dg 4 0 2 c (usedM [[], [97, 98]]) A false w5 HROW.out (by omega) (by decide)
  rw [show (4 - usedM [[], [97, 98]] : Nat) = 2 by decide] at hlf
  refine hlf.mono ?_
  rintro e w6 ⟨rfl, rfl⟩
  clear hlf
  go_wp2_with fail
  refine (all_log g5 dg 4 0 2 c (usedM [[], [97, 98]]) A false w5.drew (Row.drew HROW.out)).mono ?_
  rintro e w7 ⟨rfl, hb7, hr7⟩
  obtain ⟨Bf, hBf⟩ : ∃ Bf, w5.drew.heap.size = Bf := ⟨_, rfl⟩
  have hBf5 : w5.heap.size = Bf := hBf
  rw [hBf] at hr7 ⊢
  have hb75 : Below w5.heap.size w5 w7 := ((Below.refl _ _).drew).trans hb7
  obtain ⟨B, hB⟩ : ∃ B, B = w7.heap.size := ⟨_, rfl⟩
  have HLT : Hid (w.heap.size < w4.heap.size ∧ w4.heap.size ≤ Bf ∧ Bf < B) := Lib.hid (by have := HR4.out.lt; have := HS45.out; have := hr7.lt; omega)
  have HFA : Hid (FA w7 (fun k => w4.heap.size ≤ k ∧ k < B) Bf A c [[], [97, 98]]) := Lib.hid (by
    refine ⟨hr7.cell 0, ⟨HLT.out.2.1, HLT.out.2.2⟩, fun k hk => by rw [← hB]; exact hk.2, fun i hi => ?_⟩
    have hrow5 := HOWN.out
    have hs75 := hb75.size
    have hlt5 := HLT.out
    rcases hrow5 with ⟨hxl, hv | ⟨gx, cap, cur, hv, _, hg, q1, q2, q3, q4⟩⟩
    · exact absurd hv.2 (by simp)
    · cases hv
      have hgx := HGA.out gx rfl
      have hgl : gx < w5.heap.size := (Array.getElem?_eq_some_iff.1 hg).1
      obtain ⟨Ai, ni, ci, s1, s2, s3, s4⟩ := HAT.out i hi
      refine ⟨gx, rfl, ⟨hgx, by omega⟩, Ai, ni, ci, ?_, own_kept s2 (fun k _ hlt => hb75.block k hlt), s3, fun k hk => ⟨s4 k hk, by have := own_lt s2 hk; omega⟩⟩
      rw [World.cell?_of_block (a := ⟨gx, i, none⟩) (hb75.block gx hgl), cell_of_row w5 gx i cur _ (0, 0) hg]
      rw [← q4, List.getElem?_take_of_lt (by have : ([[], [97, 98]] : List (List UInt8)).length = 2 := rfl; omega)] at s1
      simpa using s1)
  have HB7 := Lib.hid (HB5.out.trans (hb75.mono HB5.out.size))
  have HR7 := Lib.hid (HR5.out.below hb75 HR5.out.lt)
  clear hr7 hb7 hb75 hBf hBf5
  go_wp2_with fail
  refine (wpIn_wide (n := 9)).1 ?_
  refine range_feeds (n := 9) (by omega) (gf := 65) (lb := #[.pointer (some ⟨Bf, 0, none⟩)]) rfl (enters_of Try.func65 (by kernel_rfl) rfl)
    (encs := encA) (G := GA) (T := TA [[], [97, 98]] w7.heap.size) (Ok := fun _ => True) (Kp := KpA (fun k => w4.heap.size ≤ k ∧ k < B)) (S := fun xs _ => xs.length = 1) (Sp := fun _ _ => True) ?feeds (fun h k => h.trans k) ?hKb (fun _ => rfl)
    (WkI w B) (WkX w true) ?hG ?hIa ?hI ?hIx ?hIp ?hIxp ?h0 (fun _ x a' W => WkAx w (fun x5 x6 => #[.pointer (some ⟨w.heap.size, 0, none⟩), .pointer (some ⟨dg, 0, none⟩), .int .i64 0, .pointer (some ⟨g, 0, none⟩), .pointer (some ⟨g5, 0, none⟩), x5, x6, .tuple #[.pointer (some ⟨dg, 0, none⟩), .int .i64 0], .tuple #[.pointer (some ⟨dg, 0, none⟩), .int .i64 0], .pointer (some ⟨dg, 0, none⟩), .int .i64 0, .int .i64 0, .bool false, .tuple #[.pointer (some ⟨g, 0, none⟩), .int .i64 0], .pointer (some ⟨dg, 0, none⟩), .tuple #[.pointer (some ⟨g, 0, none⟩), .int .i64 0], .pointer (some ⟨g, 0, none⟩), .int .i64 0, .int .i64 0, .bool false, .bool false, .pointer (some ⟨g, 0, none⟩), .bool false, .bool false, .bool false, .pointer (some ⟨g, 0, none⟩), .slice (some ⟨w2.heap.size, 0, none⟩) 2 2, .slice (some ⟨w2.heap.size, 0, none⟩) 2 2, .int .i64 0, .bool false, .bool false, .tuple #[.pointer (some ⟨g5, 0, none⟩), .int .i64 0], .pointer (some ⟨dg, 0, none⟩), .tuple #[.pointer (some ⟨g5, 0, none⟩), .int .i64 0], .pointer (some ⟨g5, 0, none⟩), .int .i64 0, .int .i64 0, .bool false, .bool false, .pointer (some ⟨g5, 0, none⟩), .bool false, .bool false, .bool false, .pointer (some ⟨g5, 0, none⟩), .int .i64 1, .bool false, .bool false, .bool false, .pointer (some ⟨g5, 0, none⟩), .int .i64 2, .bool false, .bool false, .pointer (some ⟨g5, 0, none⟩), .func ((.func 65)) #[] #[.pointer (some ⟨Bf, 0, none⟩)], x5, x6, undef, undef, undef, undef, undef, undef, undef]) x a' W) ?hAx ?assign ?body ?done ?stop
  case feeds => exact all_feeds Bf 8 c A [[], [97, 98]] (fun k => w4.heap.size ≤ k ∧ k < B) w7 (by omega) (by decide) HFA.out
  case hKb =>
    intro W l o o' hl ho hc
    exact ⟨fun k hk => World.putObj_heap_other (by have := hk.2; omega), (grownBy_putObj' W l o').size⟩
  case hG =>
    intro X Y k o hg hk ho hc
    exact (hg.block k (Array.getElem?_eq_some_iff.1 ho).1).trans ho
  case hIa =>
    rintro s W o ⟨h1, h2, h3, h4⟩
    have hb : Below W.heap.size W (W.alloc o) := (Below.refl _ _).alloc (Nat.le_refl _) _
    exact ⟨h1, h2.below hb h2.lt, h3.trans (hb.mono h3.size), Nat.le_trans h4 hb.size⟩
  case hI =>
    rintro s X Y ⟨h1, h2, h3, h4⟩ hb
    exact ⟨h1, h2.below hb h2.lt, h3.trans (hb.mono h3.size), Nat.le_trans h4 hb.size⟩
  case hIx =>
    rintro s X Y ⟨h2, h3⟩ hb
    exact ⟨h2.below hb h2.lt, h3.trans (hb.mono h3.size)⟩
  case hIp =>
    rintro s W l o o' hl ho hc ⟨h1, h2, h3, h4⟩
    have hg := grownBy_putObj' W l o'
    have := HLT.out
    exact ⟨h1, row_putL h2 ho hc, h3.grown hg h3.size (fun q e => by have := Option.some.inj e; omega), Nat.le_trans h4 hg.size⟩
  case hIxp =>
    rintro s W l o o' hl ho hc ⟨h2, h3⟩
    have hg := grownBy_putObj' W l o'
    have := HLT.out
    exact ⟨row_putL h2 ho hc, h3.grown hg h3.size (fun q e => by have := Option.some.inj e; omega)⟩
  case h0 => exact ⟨rfl, HR7.out, HB7.out, by omega⟩
  case hAx =>
    rintro s x a' _ W l o o' hl ho hc ⟨h1, h2, h3, h4⟩
    exact ⟨h1, h2, own_put h3 ho hc, h4⟩
  case assign =>
    intro yl pre x W K ht hI hK
    have HT := Lib.hid ht
    have HI := Lib.hid hI
    have HK := Lib.hid hK
    have hx1 : x.1 = 1 := by rw [ht.num, hI.nil]; rfl
    have HX1 := Lib.hid hx1
    clear ht hI hK hx1
    unfold encA
    gi_wp2
    exact HK.out _ W (KeepsFrom.refl _ _) (KpA.refl _ _) HI.out ⟨rfl, HX1.out, by
      have := HT.out.by_
      rw [HX1.out] at this
      exact this, HT.out.most⟩
  case body =>
    rintro yl pre ⟨i, Ax, nx, cx⟩ a' W hyl hr hI ⟨rfl, hx1, hby, hmx⟩
    dsimp only at hx1 hby hmx ⊢
    subst hx1
    have hsl := hby.sl
    have hcv : (convert 37 9 (.slice Ax nx cx)).run Try.prog W = .ok (.string { data := #[97, 98] }) W := conv_any W _ Ax nx cx [97, 98] hsl.len hsl.bs
    have hc0 : W.cell? ⟨w.heap.size, 0, none⟩ = some (.bool false) := hI.r0.cell 0
    have hf0 := hI.r0.frozen 0
    have HI := Lib.hid hI
    clear hI hby hsl hr
    gi_wp2
    have hg := grownBy_setCell' W w.heap.size (.bool true)
    have := HLT.out
    refine ⟨KeepsFrom.of_grownBy hg (fun j e => by have := Option.some.inj e; omega), ?_, HI.out.hb.grown hg HI.out.hb.size (fun q e => by have := Option.some.inj e; omega)⟩
    simpa using HI.out.r0.store 0 (.bool true)
  case done =>
    rintro D xs W W' hD hS hI hg hdf
    rw [hI.nil] at hS
    cases hS
  case stop =>
    rintro D pre W W' hD - ⟨h2, h3⟩ hg hdf
    have HX := Lib.hid (And.intro h2 (And.intro h3 hdf))
    have HD7 : Hid (w.heap.size < D) := Lib.hid (by have := HLT.out; omega)
    clear h2 h3 hdf hg
    refine wpIn_wide.2 ?_
    go_wp2
    obtain ⟨h2, h3, hdf⟩ := HX.out
    refine ⟨by simp, .inl ⟨_, _, rfl, run_takeDeferred hdf, ?_⟩⟩
    have h2' := row_putL (ob' := .deferred none) h2 hdf rfl
    have hgp := grownBy_putObj' W' D (.deferred none)
    exact ⟨.bool true, results_cell (p := 0) (ty := 4) rfl _ _ ⟨w.heap.size, 0, none⟩ _ rfl (load_bool h2'), rfl, h3.grown hgp h3.size (fun q e => by have := Option.some.inj e; have := HD7.out; omega)⟩
end Go.Proofs.Ytchagomphpfimaa.Wl

/-
  From a walk of a law to its statement: lemmas over any program; how arguments open.
-/
namespace Go.Proofs.Ytchagomphpfimaa.Lift
open Go.ChangeShapes Go.WideShapes Go.ChangeAt Go.RowKit Go.Proofs.Ytchagomphpfimaa.Wd

section
variable {H : Type} {enc : TypeId × Value → H} {P : Program}

theorem trodAll_below (hl : laidOutB P = true) {W W' : World} (hb : Below W.heap.size W W') :
    ∀ {ts : List TypeId} {vs : List Value} {ds : List (DataW H)} {ps : List MemPlace}, (∀ t ∈ ts, P.readableRec t = true ∧ t < P.types.size) → DataW.TrodAll enc P W 0 (fun _ => true) true ts vs ds ps → (∀ x ∈ ps, x.block < W.heap.size) →
      DataW.TrodAll enc P W' 0 (fun b => decide (b < W.heap.size)) true ts vs ds ps
  | [], vs, ds, ps, _, h, _ => by
    obtain ⟨rfl, rfl, rfl⟩ := trodAll_nil h
    exact trodAll_mk0
  | t :: ts, vs, ds, ps, ht, h, hlt => by
    obtain ⟨v, vs', d, ds', p, q, rfl, rfl, rfl, h0, h1⟩ := trodAll_cons h
    refine trodAll_cons_mk (Below.trod hl (ht t (by simp)).1 (ht t (by simp)).2 h0 hb (fun x hx => hlt x (by simp [hx]))) ?_
    exact trodAll_below hl hb (fun t' h' => ht t' (by simp [h'])) h1 (fun x hx => hlt x (by simp [hx]))

/-- what a law leaves meets its row -/
theorem law_post {fn : Func} {s : ChangeSpec} {W W' : World} {args : Array Value} {ds gs : List (DataW H)} {before : List MemPlace} {tb : TypeId} (hl : laidOutB P = true) (hv : s.vars = []) (hr : fn.resultTypes = #[tb]) (htb : P.underlying tb = some .bool)
    (hread : ∀ t ∈ fn.params.toList, P.readableRec t = true ∧ t < P.types.size) (hW : DataW.Whole enc P fn.params.toList s.vars false W args.toList ds gs before)
    (hfn : s.fn H (ds ++ gs) = { results := [.lit (.bool true)], args := ds }) (bel : Below W.heap.size W W') : s.post enc P fn false true false false W args (.bool true) W' := by
  have hW' := hW
  have hlt := hW.lt
  obtain ⟨p, q, hA, hV, rfl, _, _⟩ := hW
  refine ⟨ds, gs, p ++ q, [], p, [], hW', ?_, ?_, ?_, bel.frame _, fun h => by cases h⟩
  · rw [hfn, hr]
    exact trodAll_mk1 (shut_bool htb _)
  · rw [hfn]
    exact trodAll_below hl bel hread hA (fun x hx => hlt x (by simp [hx]))
  · rw [hfn, hv]
    rfl

/-- THE FIRST FORM's STEP: from the walk of a law, its arguments as they are read. -/
theorem law_lift {C : Checked} {os : Os} {f : FuncId} {fn : Func} {s : ChangeSpec} {tb : TypeId} (own : ownKnob C.prog.godebug = none) (hl : laidOutB C.prog = true) (started : os.Started) (noInit : C.prog.inits.idxOf? f = none) (hfn : C.prog.funcs[f]? = some fn)
    (witness : ∃ (w : World) (tape : Tape) (i : Input), w.os = os ∧ (w.forCall tape i).Shaped C.prog ∧ i.vars = [] ∧ Input.okWide C.prog (w.forCall tape i) .any w.heap.size f i ∧
      s.pre6 enc C.prog fn [] false (w.forCall tape i).memory i.args ∧ ({} : Assume).holds C.prog (lone (Frame.enter C.prog f i.args .normal) [] (w.forCall tape i)))
    (hv : s.vars = []) (hr : fn.resultTypes = #[tb]) (htb : C.prog.underlying tb = some .bool) (hread : ∀ t ∈ fn.params.toList, C.prog.readableRec t = true ∧ t < C.prog.types.size)
    (contract : ∀ (W : World) (base : Nat) (args : Array Value) (ds : List (DataW H)) (p : List MemPlace),
      (∀ (j : Nat) t v, fn.params[j]? = some t → args[j]? = some v → Value.okWide C.prog W .any base t v) →
      DataW.TrodAll enc C.prog W 0 (fun _ => true) true fn.params.toList args.toList ds p →
      (DataW.weightsEach C.prog fn.params.toList ds).all (· ≤ reachBytes) = true →
      s.fn H ds = { results := [.lit (.bool true)], args := ds } ∧ Calls C.prog f args W fun e W' => e = .returned (.bool true) ∧ Below W.heap.size W W') :
    ReturnsInHanded {} C os f .any (s.pre6 enc C.prog fn [] false) (s.post enc C.prog fn false true false false) := by
  refine returnsInHanded_of_change_sized own started noInit hfn witness ?_
  intro W base args ds gs before hval hW _ hsz _
  have hW' := hW
  obtain ⟨p, q, hA, hV, rfl, hfz, hnd⟩ := hW
  have hv' : s.plain.vars = [] := hv
  have hgs : gs = [] := by
    rw [hv] at hV
    cases gs with
    | nil => rfl
    | cons g gs => exact hV.elim
  subst hgs
  have hsz' : (DataW.weightsEach C.prog fn.params.toList ds).all (· ≤ reachBytes) = true := by
    have e : s.plain.varTypes C.prog = [] := by unfold DataSpec.varTypes; rw [hv']; rfl
    rw [e, List.append_nil, List.append_nil] at hsz
    exact hsz
  obtain ⟨hsf, hc⟩ := contract W base args ds p hval hA hsz'
  refine hc.mono fun e W' ⟨he, bel⟩ => ⟨_, he, law_post hl hv hr htb hread hW' ?_ bel⟩
  rw [List.append_nil]
  exact hsf
end

section
variable {H : Type} {enc : TypeId × Value → H} {P : Program}
/-- a slice of bytes that came in -/
theorem open_bytes {W : World} {base : Nat} {t e : TypeId} {v : Value} {d : DataW H} {ps : List MemPlace} (ht : P.underlying t = some (.slice e)) (he : P.underlying e = some (.int .u8)) (hc : P.cellsOf e = 1)
    (hval : Value.okWide P W .any base t v) (h : DataW.Trod enc P W 0 (fun _ => true) true t v d ps) :
    ∃ A len cap l, v = .slice A len cap ∧ l.length = len ∧ len ≤ cap ∧ cap ≤ maxLen ∧ (A = none → cap = 0) ∧ Bs W W.heap.size A l ∧ ((∃ elems spare, d = .slice elems spare ∧ elems.length + spare.length = cap) ∨ cap = 0) := by
  obtain ⟨a0, len0, cap0, rfl⟩ := okWide_slice ht hval
  have hlt : ∀ x ∈ ps, x.block < W.heap.size := by obtain ⟨m, hm⟩ := h; exact DataW.trod_lt m _ _ _ hm
  obtain ⟨fuel, hf⟩ := h
  rcases open_ints ht he hc hf with ⟨hcs, _⟩ | ⟨x, l, c, zs, hcs, _, hl, hm, hz, hx, hcell, hwz⟩
  · simp [Value.cells] at hcs
    obtain ⟨rfl, rfl, rfl⟩ := hcs
    exact ⟨none, 0, 0, [], rfl, rfl, Nat.le_refl _, Nat.zero_le _, fun _ => rfl, Bs.nil _ _ _, .inr rfl⟩
  · simp [Value.cells] at hcs
    obtain ⟨rfl, rfl, rfl⟩ := hcs
    have hz' : zs.length = cap0 := by simpa using hz
    have hdp := (Prod.mk.inj hx)
    refine ⟨some x, len0, cap0, (zs.take len0).map (fun z => UInt8.ofNat z.toNat), rfl, by simp; omega, hl, hm, (fun hh => by cases hh), ?_, .inl ⟨_, _, hdp.1, by simp [lits]; omega⟩⟩
    intro hp
    have hp' : 0 < len0 := by simp at hp; omega
    have hc0 := hcell 0 (by omega)
    obtain ⟨b, off, spot⟩ := x
    have hspot : spot = none := by simpa [Addr.add] using World.cell?_spot hc0
    subst hspot
    refine ⟨b, off, rfl, World.block_lt_of_cell? W _ (by simpa [Addr.add_lit] using hc0), fun i hi => ?_⟩
    simp at hi
    have h1 := hcell i (by omega)
    rw [Addr.add_lit] at h1
    rw [h1]
    have hi' : i < zs.length := by omega
    have hw := hwz (zs.getD i 0) (by simp [List.getD_eq_getElem?_getD, hi'])
    have hw' : 0 ≤ zs.getD i 0 ∧ zs.getD i 0 ≤ 255 := by simpa [Lit.wf, IntKind.min, IntKind.max, IntKind.signed, IntKind.bits] using hw
    have e2 : ((zs.take len0).map (fun z => UInt8.ofNat z.toNat)).getD i 0 = UInt8.ofNat (zs.getD i 0).toNat := by
      simp [List.getD_eq_getElem?_getD, hi', hi]
    rw [e2]
    generalize zs.getD i 0 = z at hw' ⊢
    obtain ⟨n, rfl⟩ := Int.eq_ofNat_of_zero_le hw'.1
    congr 2
    simp
    omega
/-- a slice of numbers of 64 bits that came in -/
theorem open_u64s {W : World} {base : Nat} {t e : TypeId} {v : Value} {d : DataW H} {ps : List MemPlace} (ht : P.underlying t = some (.slice e)) (he : P.underlying e = some (.int .u64)) (hc : P.cellsOf e = 1)
    (hval : Value.okWide P W .any base t v) (h : DataW.Trod enc P W 0 (fun _ => true) true t v d ps) :
    ∃ A len cap xs, v = .slice A len cap ∧ xs.length = len ∧ len ≤ cap ∧ cap ≤ maxLen ∧ (A = none → cap = 0) ∧ Us W W.heap.size A xs ∧ (∀ x ∈ xs, InU64 x) ∧ ((∃ elems spare, d = .slice elems spare ∧ elems.length + spare.length = cap) ∨ cap = 0) := by
  obtain ⟨a0, len0, cap0, rfl⟩ := okWide_slice ht hval
  have hlt : ∀ x ∈ ps, x.block < W.heap.size := by obtain ⟨m, hm⟩ := h; exact DataW.trod_lt m _ _ _ hm
  obtain ⟨fuel, hf⟩ := h
  rcases open_ints ht he hc hf with ⟨hcs, _⟩ | ⟨x, l, c, zs, hcs, _, hl, hm, hz, hx, hcell, hwz⟩
  · simp [Value.cells] at hcs
    obtain ⟨rfl, rfl, rfl⟩ := hcs
    exact ⟨none, 0, 0, [], rfl, rfl, Nat.le_refl _, Nat.zero_le _, fun _ => rfl, fun hp => absurd hp (by simp), (fun x hx => by cases hx), .inr rfl⟩
  · simp [Value.cells] at hcs
    obtain ⟨rfl, rfl, rfl⟩ := hcs
    have hz' : zs.length = cap0 := by simpa using hz
    have hdp := (Prod.mk.inj hx)
    have hw' : ∀ z ∈ zs, 0 ≤ z ∧ z ≤ 18446744073709551615 := fun z hzm => by
      have := hwz z hzm
      simpa [Lit.wf, IntKind.min, IntKind.max, IntKind.signed, IntKind.bits] using this
    refine ⟨some x, len0, cap0, (zs.take len0).map Int.toNat, rfl, by simp; omega, hl, hm, (fun hh => by cases hh), ?_, ?_, .inl ⟨_, _, hdp.1, by simp [lits]; omega⟩⟩
    · intro hp
      have hp' : 0 < len0 := by simp at hp; omega
      have hc0 := hcell 0 (by omega)
      obtain ⟨b, off, spot⟩ := x
      have hspot : spot = none := by simpa [Addr.add] using World.cell?_spot hc0
      subst hspot
      refine ⟨b, off, rfl, World.block_lt_of_cell? W _ (by simpa [Addr.add_lit] using hc0), fun i hi => ?_⟩
      simp at hi
      have h1 := hcell i (by omega)
      rw [Addr.add_lit] at h1
      rw [h1]
      have hi' : i < zs.length := by omega
      have hw := hw' (zs.getD i 0) (by simp [List.getD_eq_getElem?_getD, hi'])
      have e2 : ((zs.take len0).map Int.toNat).getD i 0 = (zs.getD i 0).toNat := by
        simp [List.getD_eq_getElem?_getD, hi', hi]
      rw [e2, Int.toNat_of_nonneg hw.1]
    · intro y hy
      obtain ⟨z, hz1, rfl⟩ := List.mem_map.1 hy
      have := hw' z (List.mem_of_mem_take hz1)
      show _ < _
      omega
/-- the reach of a slice of bytes -/
theorem bytes_reach {ts : List TypeId} {ds : List (DataW H)} {e : TypeId} (h1 : P.bytesOf e = 1) (h : (DataW.weightsEach P ts ds).all (· ≤ reachBytes) = true) {j : Nat} {t : TypeId} {d : DataW H} (ht : ts[j]? = some t) (hd : ds[j]? = some d) (hu : P.underlying t = some (.slice e))
    {cap : Nat} (hc : (∃ elems spare, d = .slice elems spare ∧ elems.length + spare.length = cap) ∨ cap = 0) : cap ≤ 140737488351232 := by
  rcases hc with ⟨elems, spare, rfl, rfl⟩ | rfl
  · have := sized_slice h ht hd hu
    rw [h1] at this
    simpa [reachBytes] using this
  · exact Nat.zero_le _
end

section
variable {H : Type} {enc : TypeId × Value → H} {P : Program}
theorem bulk_one {H : Type} (d : DataW H) : 1 ≤ Rows.uptoBulk d := by
  cases d with
  | lit l => cases l <;> simp [Rows.uptoBulk]
  | nil => simp [Rows.uptoBulk]
  | ptr d => simp [Rows.uptoBulk]
  | slice elems spare => simp [Rows.uptoBulk]
  | agg parts => simp [Rows.uptoBulk]
  | iface t d => simp [Rows.uptoBulk]
  | map entries => simp [Rows.uptoBulk]
  | held h => simp [Rows.uptoBulk]
theorem bulk_part {H : Type} {d : DataW H} {l : List (DataW H)} (h : d ∈ l) : Rows.uptoBulk d ≤ Rows.uptoBulkAll l := by
  induction l with
  | nil => cases h
  | cons x r ih =>
    simp only [Rows.uptoBulkAll]
    cases List.mem_cons.1 h with
    | inl e => subst e; omega
    | inr e => have := ih e; omega
theorem bulk_length {H : Type} (l : List (DataW H)) : l.length ≤ Rows.uptoBulkAll l := by
  induction l with
  | nil => simp [Rows.uptoBulkAll]
  | cons x r ih => have := bulk_one x; simp only [Rows.uptoBulkAll, List.length_cons]; omega
/-- THE SECOND FORM's BOUND of a slice's room -/
theorem bulk_cap {H : Type} {ds : List (DataW H)} (h : Rows.uptoSmall H ds = true) {d : DataW H} (hd : d ∈ ds) {cap : Nat} (hc : (∃ elems spare, d = .slice elems spare ∧ elems.length + spare.length = cap) ∨ cap = 0) : cap ≤ 1048576 := by
  rcases hc with ⟨elems, spare, rfl, rfl⟩ | rfl
  · have h0 : Rows.uptoBulkAll ds ≤ 1048576 := of_decide_eq_true h
    have h1 := bulk_part hd
    have h2 := bulk_length elems
    have h3 := bulk_length spare
    simp only [Rows.uptoBulk] at h1
    omega
  · exact Nat.zero_le _
/-- THE SECOND FORM's STEP -/
theorem law_lift_upto {C : Checked} {os : Os} {f : FuncId} {fn : Func} {s : ChangeSpec} {tb : TypeId} (F : Stop.Interp) (own : ownKnob C.prog.godebug = none) (hl : laidOutB C.prog = true) (started : os.Started) (noInit : C.prog.inits.idxOf? f = none) (hfn : C.prog.funcs[f]? = some fn)
    (witness : ∃ (w : World) (tape : Tape) (i : Input), w.os = os ∧ (w.forCall tape i).Shaped C.prog ∧ i.vars = [] ∧ Input.okWide C.prog (w.forCall tape i) .any w.heap.size f i ∧
      (Rows.OpenSpec.upto s).pre6 enc C.prog fn [] false (w.forCall tape i).memory i.args ∧ ({} : Assume).holds C.prog (lone (Frame.enter C.prog f i.args .normal) [] (w.forCall tape i)))
    (hv : s.vars = []) (hr : fn.resultTypes = #[tb]) (htb : C.prog.underlying tb = some .bool) (hread : ∀ t ∈ fn.params.toList, C.prog.readableRec t = true ∧ t < C.prog.types.size)
    (contract : ∀ (W : World) (base : Nat) (args : Array Value) (ds : List (DataW H)) (p : List MemPlace),
      (∀ (j : Nat) t v, fn.params[j]? = some t → args[j]? = some v → Value.okWide C.prog W .any base t v) →
      DataW.TrodAll enc C.prog W 0 (fun _ => true) true fn.params.toList args.toList ds p →
      Rows.uptoSmall H ds = true →
      s.fn H ds = { results := [.lit (.bool true)], args := ds } ∧ Calls C.prog f args W fun e W' => e = .returned (.bool true) ∧ Below W.heap.size W W') :
    ReturnsInHanded {} C os f .any ((Rows.OpenSpec.upto s).pre6 enc C.prog fn [] false) (((Rows.OpenSpec.upto s).at F).post enc C.prog fn false true false false) := by
  refine returnsInHanded_of_cond (C := C) (s := Rows.OpenSpec.upto s) (k := Rows.uptoSmall) rfl own started noInit hfn witness ?_
  intro W base args ds gs before hval hW _ hk _
  have hW' : DataW.Whole enc C.prog fn.params.toList s.vars false W args.toList ds gs before := hW
  have hW2 := hW'
  obtain ⟨p, q, hA, hV, rfl, hfz, hnd⟩ := hW2
  have hgs : gs = [] := by
    rw [hv] at hV
    cases gs with
    | nil => rfl
    | cons g gs => exact hV.elim
  subst hgs
  rw [List.append_nil] at hk
  obtain ⟨hsf, hc⟩ := contract W base args ds p hval hA hk
  refine hc.mono fun e W' ⟨he, bel⟩ => ⟨_, he, ?_⟩
  refine law_post (s := s) hl hv hr htb hread hW' ?_ bel
  rw [List.append_nil]
  exact hsf
end
end Go.Proofs.Ytchagomphpfimaa.Lift
