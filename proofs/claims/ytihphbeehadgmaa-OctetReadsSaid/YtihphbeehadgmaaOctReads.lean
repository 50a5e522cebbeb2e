/-
  OctetReads: a Reader of whatever bytes answers whatever is asked of it as the document says; a second one of the same bytes is not moved. No condition.
-/
import Derived.Test.YtihphbeehadgmaaOct3
import Derived.Test.YtihphbeehadgmaaOct8
import Derived.Test.YtihphbeehadgmaaLift
import Derived.Deep.SlicePairs
import Derived.Deep.QuietTactic
import Derived.BigQuiet
import Derived.Deep.Cut
namespace Go.Proofs.Ytihphbeehadgmaa.OctReads
open Go.ChangeShapes Go.WideShapes Go.ChangeAt Go.RowKit Go.Proofs.Ytihphbeehadgmaa.Wd Go.Proofs.Ytihphbeehadgmaa.Oct

theorem own : ownKnob Try.prog.godebug = none := by kernel_rfl
theorem laidOut : laidOutB Try.prog = true := by kernel_rfl
theorem bytes1 : Try.prog.bytesOf 5 = 1 := by kernel_rfl

/-- The address A, with as many asks as q has, reads q; it lies below block B. -/
def As (w : World) (B : Nat) (A : Option Addr) (q : List (Int × Int)) : Prop :=
  0 < q.length → ∃ b o, A = some ⟨b, o, none⟩ ∧ b < B ∧ ∀ i, i < q.length → w.cell? ⟨b, o + i * 2, none⟩ = some (.int .i64 (q.getD i (0, 0)).1) ∧ w.cell? ⟨b, o + i * 2 + 1, none⟩ = some (.int .i64 (q.getD i (0, 0)).2)
theorem As.below {w w' : World} {B : Nat} {A : Option Addr} {q : List (Int × Int)} (h : As w B A q) (hb : Below B w w') : As w' B A q := fun hp => by
  obtain ⟨b, o, e, hlt, hc⟩ := h hp
  exact ⟨b, o, e, hlt, fun i hi => ⟨(hb.cell (p := ⟨b, o + i * 2, none⟩) hlt).trans (hc i hi).1, (hb.cell (p := ⟨b, o + i * 2 + 1, none⟩) hlt).trans (hc i hi).2⟩⟩
/-- an int of 64 bits -/
def In64 (x : Int) : Prop := -9223372036854775808 ≤ x ∧ x ≤ 9223372036854775807

theorem quiet_still {P : Program} {f : FuncId} {args : Array Value} {w : World} {n : Nat} {v : Value} (h : Calls P f args (w.drewN n) fun e w' => e = .returned v ∧ Still (w.drewN n) w') :
    Calls P f args (w.drewN n) fun e w'' => e = .returned v ∧ ∃ m, w'' = w.drewN m :=
  h.mono fun _ _ ⟨he, m, hm⟩ => ⟨he, n + m, by rw [hm, World.drewN_drewN]⟩
theorem quiet_same {P : Program} {f : FuncId} {args : Array Value} {w : World} {n : Nat} {v : Value} (h : Calls P f args (w.drewN n) fun e w' => e = .returned v ∧ w.drewN n = w') :
    Calls P f args (w.drewN n) fun e w'' => e = .returned v ∧ ∃ m, w'' = w.drewN m :=
  h.mono fun _ _ ⟨he, hm⟩ => ⟨he, n, hm.symm⟩

theorem kind5 (x : Int) : ∃ k : Nat, (k = 0 ∨ k = 1 ∨ k = 2 ∨ k = 3 ∨ k = 4) ∧ (wrap64 (x.tmod 5 + 5)).tmod 5 = (k : Int) := by
  have h1 : x.tmod 5 < 5 := Int.tmod_lt_of_pos x (by omega)
  have h2 : -5 < x.tmod 5 := Int.lt_tmod_of_pos x (by omega)
  generalize x.tmod 5 = y at h1 h2
  have e1 : wrap64 (y + 5) = y + 5 := by unfold wrap64; omega
  rw [e1, Int.tmod_eq_emod_of_nonneg (by omega)]
  exact ⟨((y + 5) % 5).toNat, by omega, by omega⟩

theorem left_row (g : Nat) (A : Option Addr) (n c at_ : Nat) (err : Int) (w : World) (hr : Row w g 63 [.slice A n c, .int .i64 (at_ : Int), .int .i64 err]) (h1 : at_ ≤ n) (h2 : n ≤ 9223372036854775807) :
    Calls Try.prog 25 #[.pointer (some ⟨g, 0, none⟩)] w fun e w' => e = .returned (.int .i64 ((n : Int) - (at_ : Int))) ∧ Still w w' := by
  have hc0 : w.cell? ⟨g, 0, none⟩ = some (.slice A n c) := hr.cell 0
  have hc1 : w.cell? ⟨g, 1, none⟩ = some (.int .i64 (at_ : Int)) := hr.cell 1
  have hi1 : (at_ : Int) ≤ (n : Int) := by omega
  go_enter Try.func25, Try.ntmps25
  go_wp2
  go_quiet (fail)
  go_wp2
  go_ret
  exact ⟨rfl, _, rfl⟩
theorem err_row (g : Nat) (A : Option Addr) (n c at_ : Nat) (err : Int) (w : World) (hr : Row w g 63 [.slice A n c, .int .i64 (at_ : Int), .int .i64 err]) :
    Calls Try.prog 26 #[.pointer (some ⟨g, 0, none⟩)] w fun e w' => e = .returned (.int .i64 err) ∧ w = w' := by
  have hc2 : w.cell? ⟨g, 2, none⟩ = some (.int .i64 err) := hr.cell 2
  go_enter Try.func26, Try.ntmps26
  go_wp2
  go_ret
  exact ⟨rfl, rfl⟩

theorem step_le (l : List UInt8) (at_ : Nat) (err z : Int) : (Oct.step l at_ err z).1.length ≤ l.length := by
  unfold Oct.step
  split
  · simp
  · split
    · simp
    · split
      · simp
      · simp; omega
theorem step_at_le (l : List UInt8) (at_ : Nat) (err z : Int) (n : Nat) (hl : l.length = n) (h : at_ ≤ n) : (Oct.step l at_ err z).2.1 ≤ n := by
  unfold Oct.step
  split
  · exact h
  · split
    · exact h
    · split
      · exact h
      · simp only []; omega

set_option maxRecDepth 100000 in
set_option maxHeartbeats 8000000 in
theorem walk (A1 A2 : Option Addr) (n1 n2 c1 c2 : Nat) (l : List UInt8) (q : List (Int × Int)) (w : World) (h1 : l.length = n1) (h2 : q.length = n2) (hn1 : n1 ≤ 140737488351232) (hn2 : n2 ≤ 9223372036854775807) (b1 : Bs w w.heap.size A1 l) (b2 : As w w.heap.size A2 q) (hA1 : A1 = none → c1 = 0) (hin : ∀ x ∈ q, In64 x.1 ∧ In64 x.2) :
    Calls Try.prog 5 #[.slice A1 n1 c1, .slice A2 n2 c2] w fun e w' => e = .returned (.bool true) ∧ Below w.heap.size w w' := by
  have H1 := Lib.hid h1
  have H2 := Lib.hid h2
  have HA1 := Lib.hid hA1
  have HIN := Lib.hid hin
  clear h1 h2 hA1 hin
  have hA : ∀ w', Below w.heap.size w w' → Bs w' w'.heap.size A1 l := fun w' h => (b1.below h).more h.size
  have hB : ∀ w', Below w.heap.size w w' → As w' w.heap.size A2 q := fun w' h => b2.below h
  have HA := Lib.hid hA
  have HB := Lib.hid hB
  clear hA hB b1 b2
  go_enter Try.func5, Try.ntmps5
  go_wp2_with fail
  refine (wakes_any _).mono ?_
  rintro e w1 ⟨rfl, hb1⟩
  have B1 := Lib.hid hb1
  clear hb1
  go_wp2_with fail
  refine (read_any A1 l n1 c1 _ H1.out (by omega) _ (HA.out _ B1.out) HA1.out).mono ?_
  rintro e w2 ⟨gr, rfl, hgr, hR, hb2⟩
  have B2 : Hid (Below w.heap.size w w2) := Lib.hid (B1.out.trans (hb2.mono B1.out.size))
  have hgr0 : w.heap.size ≤ gr := Nat.le_trans B1.out.size hgr
  have ltr := hR.lt
  clear hb2 hgr
  go_wp2_with fail
  refine (read_any A1 l n1 c1 _ H1.out (by omega) _ (HA.out _ B2.out) HA1.out).mono ?_
  rintro e w3 ⟨gs, rfl, hgs, hS, hb3⟩
  have B3 : Hid (Below w.heap.size w w3) := Lib.hid (B2.out.trans (hb3.mono B2.out.size))
  have hR := hR.below hb3 ltr
  obtain ⟨As_, ns, cs, hSr, hSl, _, _, hSc, hSm, _⟩ := hS
  obtain rfl : ns = n1 := by rw [← hSl.out, H1.out]
  have lts := hSr.lt
  have hgrs : gr < gs := by omega
  have s3 := hb3.size
  clear hb3 hgs hSl
  go_wp2_with fail
  refine (both_any A1 none l [] c1 0 ns 0 _ H1.out rfl (by omega) (HA.out _ B3.out) (Bs.nil _ _ _)).mono ?_
  rintro e w4 ⟨gc, nc, rfl, kc, hgc, hC, hb4⟩
  rw [List.append_nil] at kc hC
  obtain rfl : nc = ns := by rw [← kc.out, H1.out]
  have B4 : Hid (Below w.heap.size w w4) := Lib.hid (B3.out.trans (hb4.mono B3.out.size))
  have hR := hR.below hb4 (by omega)
  have hSr := hSr.below hb4 lts
  have ltc := hC.lt
  have hgsc : gs < gc := by omega
  have s4 := hb4.size
  clear hb4 hgc
  go_wp2_with fail
  obtain ⟨wm, hwm⟩ : ∃ wm, wm = w4.alloc (.cells #[.slice (some ⟨gc, 0, none⟩) nc nc, .int .i64 0, .int .i64 0] 40) := ⟨_, rfl⟩
  obtain ⟨gm, hgm⟩ : ∃ gm, gm = w4.heap.size := ⟨_, rfl⟩
  have B5 : Hid (Below w.heap.size w wm) := (show Below _ _ _ from by rw [hwm]; exact B4.out.alloc B4.out.size _)
  have hbm : Below w4.heap.size w4 wm := by rw [hwm]; exact (Below.refl _ _).alloc (Nat.le_refl _) _
  have hM : Row wm gm 40 [.slice (some ⟨gc, 0, none⟩) nc nc, .int .i64 ((0 : Nat) : Int), .int .i64 0] := by
    rw [hwm, hgm]; exact Row.new w4 _ [.slice (some ⟨gc, 0, none⟩) nc nc, .int .i64 0, .int .i64 0]
  have hR := hR.below hbm (by omega)
  have hSr := hSr.below hbm (by omega)
  have hC := hC.below hbm ltc
  have hgcm : gc < gm := by omega
  rw [← hwm, ← hgm]
  clear hwm hbm hgm s3 s4 ltr lts ltc
  go_loopw [24] (fun i wr => ∃ (k at_ : Nat) (err : Int), k ≤ n2 ∧ i = .int .i64 k ∧ Hid (at_ ≤ nc) ∧ Rdr wr gr l at_ err ∧ Row wr gs 63 [.slice As_ nc cs, .int .i64 ((0 : Nat) : Int), .int .i64 0] ∧ Row wr gc 5 (bv l) ∧ Row wr gm 40 [.slice (some ⟨gc, 0, none⟩) nc nc, .int .i64 (at_ : Int), .int .i64 err] ∧ Hid (Below w.heap.size w wr)) (fun i _ => n2 - (intOf i).toNat)
  case atStart => exact ⟨0, 0, 0, by omega, rfl, Nat.zero_le _, hR, hSr, hC, hM, B5⟩
  case round =>
    obtain ⟨k, at_, err, hk, rfl, hat, hRr, hSr2, hCr, hMr, BR⟩ := hrel
    clear hR hSr hC hM B5
    by_cases hlt : k < n2
    · have hk' : k < q.length := by rw [H2.out]; exact hlt
      obtain ⟨ba, oa, rfl, hba, hca⟩ := (HB.out _ BR.out) (by omega)
      obtain ⟨hx0, hx1⟩ := hca k hk'
      have hxin := HIN.out (q.getD k (0, 0)) (by simp [List.getD_eq_getElem?_getD, hk'])
      clear hca
      generalize (q.getD k (0, 0)).1 = x at hx0 hxin
      generalize (q.getD k (0, 0)).2 = N at hx1 hxin
      have hc0 : wr.cell? ⟨gm, 0, none⟩ = some (.slice (some ⟨gc, 0, none⟩) nc nc) := hMr.cell 0
      have hc1 : wr.cell? ⟨gm, 1, none⟩ = some (.int .i64 (at_ : Int)) := hMr.cell 1
      have hc2 : wr.cell? ⟨gm, 2, none⟩ = some (.int .i64 err) := hMr.cell 2
      have hin0 := hxin.1.1
      have hin1 := hxin.1.2
      clear hxin
      have hgml := hMr.lt
      obtain ⟨κ, hκ, e5⟩ := kind5 x
      have HD : Hid (∀ W, Below wr.heap.size wr W → Calls Try.prog 19 #[.agg #[.slice (some ⟨gc, 0, none⟩) nc nc, .int .i64 (at_ : Int), .int .i64 err], .agg #[.int .i64 (κ : Int), .int .i64 N]] W (Did W (some ⟨gc, 0, none⟩) nc nc κ (Oct.step l at_ err (sz κ N)))) :=
        fun W hW => do_any (some ⟨gc, 0, none⟩) l nc nc κ hκ at_ err N W H1.out (by omega) (((hCr.below hW hCr.lt).bs (Nat.lt_succ_self _)).more (by have := hW.size; have := hCr.lt; omega)) (Nat.le_refl _) hat.out
      have hat' : (Oct.step l at_ err (sz κ N)).2.1 ≤ nc := step_at_le l at_ err (sz κ N) nc H1.out hat.out
      have HST := Lib.hid hat'
      clear hat'
      rcases hκ with rfl | rfl | rfl | rfl | rfl
      · rw [show ((0 : Nat) : Int) = 0 from rfl] at e5 HD
        rw [show sz 0 N = 1 from rfl] at HD HST
        have HM : Hid (∀ W, Rdr W gr l at_ err → Calls Try.prog 20 #[.pointer (some ⟨gr, 0, none⟩)] W fun e w' => e = .returned (.int .u8 ((num (Oct.step l at_ err 1).1 : Nat) : Int)) ∧ Rdr w' gr l (Oct.step l at_ err 1).2.1 (Oct.step l at_ err 1).2.2 ∧ W.grownBy w' (some gr)) := fun W hW => u8_any gr l at_ err W hW
        have HNL : Hid (InU64 (num (Oct.step l at_ err 1).1)) := (show _ < _ from Nat.lt_of_lt_of_le (step_num_lt l at_ err 1) (by decide))
        generalize Oct.step l at_ err 1 = st at HD HM HST HNL
        obtain ⟨t, at2, err2⟩ := st
        have hwr : IntKind.u64.wrap ((num t : Nat) : Int) = ((num t : Nat) : Int) := u64_wrap (Int.natCast_nonneg _) (Int.ofNat_lt.2 HNL.out)
        clear HNL
        go_wp2_with fail
        refine (HD.out _ ((Below.refl _ _).alloc (Nat.le_refl _) _)).mono ?_
        rintro e wd ⟨A2, m2, c3, he, hl2, hbs2, hblk, bd⟩
        have bd0 : Below wr.heap.size wr wd := ((Below.refl _ _).alloc (Nat.le_refl _) _).trans (bd.mono (by simp))
        have ltd : wr.heap.size < wd.heap.size := by have := bd.size; simp at this; omega
        obtain rfl : m2 = 0 := hl2.out.symm
        obtain rfl : e = .returned (.tuple #[.agg #[.slice (some ⟨gc, 0, none⟩) nc nc, .int .i64 (at2 : Int), .int .i64 err2], .agg #[.int .u64 ((num t : Nat) : Int), .slice A2 0 c3]]) := by simpa using he
        have BD : Hid (Below w.heap.size w wd) := (show Below _ _ _ from BR.out.trans (bd0.mono BR.out.size))
        have hRd := hRr.below bd0 hRr.lt
        have hSd := hSr2.below bd0 hSr2.lt
        have hCd := hCr.below bd0 hCr.lt
        have hMd := hMr.below bd0 hMr.lt
        have hAd : Row wd wr.heap.size 42 [.int .i64 0, .int .i64 N] := (Row.new wr _ [.int .i64 0, .int .i64 N]).below bd (by simp)
        have ha0 : wd.cell? ⟨wr.heap.size, 0, none⟩ = some (.int .i64 0) := hAd.cell 0
        have hgmd : gm < wd.heap.size := hMd.lt
        have ltd1 : wr.heap.size < wd.heap.size + 1 := by omega
        have ltd2 : wr.heap.size < wd.heap.size + 1 + 1 := by omega
        clear he hl2 hbs2 hblk bd HD
        go_wp2_with fail
        obtain ⟨W3, hW3⟩ : ∃ W3, W3 = ((wd.alloc (.cells #[.slice (some ⟨gc, 0, none⟩) nc nc, .int .i64 (at2 : Int), .int .i64 err2] 40)).alloc (.cells #[.int .u64 ((num t : Nat) : Int), .slice A2 0 c3] 44)).alloc (.cells #[.int .u64 0, .slice none 0 0] 44) := ⟨_, rfl⟩
        rw [← hW3]
        have b3 : Below wd.heap.size wd W3 := by rw [hW3]; exact (((Below.refl _ _).alloc (Nat.le_refl _) _).alloc (by simp) _).alloc (by simp; omega) _
        have r10 : Row W3 wd.heap.size 40 [.slice (some ⟨gc, 0, none⟩) nc nc, .int .i64 (at2 : Int), .int .i64 err2] := by
          rw [hW3]; exact ((Row.new wd _ [.slice (some ⟨gc, 0, none⟩) nc nc, .int .i64 (at2 : Int), .int .i64 err2]).alloc _).alloc _
        have r11 : Row W3 (wd.heap.size + 1) 44 [.int .u64 ((num t : Nat) : Int), .slice A2 0 c3] := by
          rw [hW3]
          have := (Row.new (wd.alloc (.cells #[.slice (some ⟨gc, 0, none⟩) nc nc, .int .i64 (at2 : Int), .int .i64 err2] 40)) 44 [.int .u64 ((num t : Nat) : Int), .slice A2 0 c3]).alloc (.cells #[.int .u64 0, .slice none 0 0] 44)
          simpa using this
        have r12 : Row W3 (wd.heap.size + 1 + 1) 44 [.int .u64 0, .slice none 0 0] := by
          rw [hW3]
          have := Row.new ((wd.alloc (.cells #[.slice (some ⟨gc, 0, none⟩) nc nc, .int .i64 (at2 : Int), .int .i64 err2] 40)).alloc (.cells #[.int .u64 ((num t : Nat) : Int), .slice A2 0 c3] 44)) 44 [.int .u64 0, .slice none 0 0]
          simpa using this
        refine (HM.out _ (hRd.below b3 hRd.lt)).mono ?_
        rintro e w5 ⟨rfl, hR5, hg5⟩
        have hgrd : gr < wd.heap.size := by omega
        have r10 := r10.grown hg5 (by simp; omega)
        have r11 := r11.grown hg5 (by simp; omega)
        have r12 := r12.grown hg5 (by simp; omega)
        have hS5 := (hSd.below b3 hSd.lt).grown hg5 (by simp; omega)
        have hC5 := (hCd.below b3 hCd.lt).grown hg5 (by simp; omega)
        have hM5 := (hMd.below b3 hMd.lt).grown hg5 (by simp; omega)
        have BB5 : Hid (Below w.heap.size w w5) := (show Below _ _ _ from (BD.out.trans (b3.mono BD.out.size)).grown hg5 (Nat.le_trans BD.out.size b3.size) (fun j hj => by simp at hj; omega))
        have c12 : w5.cell? ⟨wd.heap.size + 1 + 1, 0, none⟩ = some (.int .u64 0) := r12.cell 0
        have f12 := r12.frozen 0
        clear hW3 b3 hg5 HM hRd hSd hCd hMd hAd ha0 BD bd0
        go_upto_region 21 with (fail)
        obtain ⟨w6, hw6⟩ : ∃ w6, w6 = w5.setCell ⟨wd.heap.size + 1 + 1, 0, none⟩ (.int .u64 ((num t : Nat) : Int)) := ⟨_, rfl⟩
        rw [← hw6]
        have g6 : w5.grownBy w6 (some (wd.heap.size + 1 + 1)) := by rw [hw6]; exact grown_store _ _ _ _
        have r12 : Row w6 (wd.heap.size + 1 + 1) 44 [.int .u64 ((num t : Nat) : Int), .slice none 0 0] := by rw [hw6]; exact r12.store 0 _
        have r10 := r10.grown g6 (by simp; omega)
        have r11 := r11.grown g6 (by simp)
        have hR6 := hR5.grown g6 (by omega)
        have hS6 := hS5.grown g6 (by simp; omega)
        have hC6 := hC5.grown g6 (by simp; omega)
        have hM6 := hM5.grown g6 (by simp; omega)
        have hw0d : w.heap.size ≤ wd.heap.size := by have := BR.out.size; omega
        have BB6 : Hid (Below w.heap.size w w6) := (show Below _ _ _ from BB5.out.grown g6 BB5.out.size (fun j hj => by simp at hj; omega))
        have d0 : w6.cell? ⟨wd.heap.size + 1 + 1, 0, none⟩ = some (.int .u64 ((num t : Nat) : Int)) := r12.cell 0
        have d1 : w6.cell? ⟨wd.heap.size + 1 + 1, 1, none⟩ = some (.slice none 0 0) := r12.cell 1
        have d2 : w6.cell? ⟨wd.heap.size + 1, 0, none⟩ = some (.int .u64 ((num t : Nat) : Int)) := r11.cell 0
        have d3 : w6.cell? ⟨wd.heap.size + 1, 1, none⟩ = some (.slice A2 0 c3) := r11.cell 1
        have d4 : w6.cell? ⟨wd.heap.size, 0, none⟩ = some (.slice (some ⟨gc, 0, none⟩) nc nc) := r10.cell 0
        have d5 : w6.cell? ⟨wd.heap.size, 1, none⟩ = some (.int .i64 (at2 : Int)) := r10.cell 1
        have d6 : w6.cell? ⟨wd.heap.size, 2, none⟩ = some (.int .i64 err2) := r10.cell 2
        have mm0 : w6.cell? ⟨gm, 0, none⟩ = some (.slice (some ⟨gc, 0, none⟩) nc nc) := hM6.cell 0
        have mm1 : w6.cell? ⟨gm, 1, none⟩ = some (.int .i64 (at_ : Int)) := hM6.cell 1
        have mm2 : w6.cell? ⟨gm, 2, none⟩ = some (.int .i64 err) := hM6.cell 2
        have fm0 := hM6.frozen 0
        have fm1 := hM6.frozen 1
        have fm2 := hM6.frozen 2
        clear hw6 g6 c12 f12 hR5 hS5 hC5 hM5 BB5
        have hat6 : (at2 : Int) ≤ (nc : Int) := by have := HST.out; omega
        go_quiet ((first
          | (go_at_call 14; exact quiet_still (same_true none A2 [] 0 c3 0 0 _ rfl rfl (by omega) 0 0 (Bs.nil _ _ _) (Bs.nil _ _ _)))
          | (go_at_call 25; exact quiet_still (left_any gr l at2 nc err2 _ (hR6.drewN _) H1.out))
          | (go_at_call 26; exact quiet_same (err_any gr l at2 err2 _ (hR6.drewN _)))))
        go_wp2_with fail
        have hgrm : gr < gm := by omega
        go_roundw
        case rel =>
          refine ⟨k + 1, at2, err2, by omega, by go_num, HST, ?_, ?_, ?_, ?_, ?_⟩
          · exact (((hR6.drewN _).grown (grown_store _ _ _ _) hgrm).grown (grown_store _ _ _ _) hgrm).grown (grown_store _ _ _ _) hgrm
          · exact (((hS6.drewN _).far (by simp; omega) _).far (by simp; omega) _).far (by simp; omega) _
          · exact (((hC6.drewN _).far (by simp; omega) _).far (by simp; omega) _).far (by simp; omega) _
          · exact (((hM6.drewN _).store 0 _).store 1 _).store 2 _
          · exact (show Below _ _ _ from (((below_still BB6.out ⟨_, rfl⟩).setCell (by simp; omega) _).setCell (by simp; omega) _).setCell (by simp; omega) _)
        case measure => simp [intOf]; omega
      · rw [show ((1 : Nat) : Int) = 1 from rfl] at e5 HD
        rw [show sz 1 N = 2 from rfl] at HD HST
        have HM : Hid (∀ W, Rdr W gr l at_ err → Calls Try.prog 21 #[.pointer (some ⟨gr, 0, none⟩)] W fun e w' => e = .returned (.int .u16 ((num (Oct.step l at_ err 2).1 : Nat) : Int)) ∧ Rdr w' gr l (Oct.step l at_ err 2).2.1 (Oct.step l at_ err 2).2.2 ∧ W.grownBy w' (some gr)) := fun W hW => u16_any gr l at_ err W hW
        have HNL : Hid (InU64 (num (Oct.step l at_ err 2).1)) := (show _ < _ from Nat.lt_of_lt_of_le (step_num_lt l at_ err 2) (by decide))
        generalize Oct.step l at_ err 2 = st at HD HM HST HNL
        obtain ⟨t, at2, err2⟩ := st
        have hwr : IntKind.u64.wrap ((num t : Nat) : Int) = ((num t : Nat) : Int) := u64_wrap (Int.natCast_nonneg _) (Int.ofNat_lt.2 HNL.out)
        clear HNL
        go_wp2_with fail
        refine (HD.out _ ((Below.refl _ _).alloc (Nat.le_refl _) _)).mono ?_
        rintro e wd ⟨A2, m2, c3, he, hl2, hbs2, hblk, bd⟩
        have bd0 : Below wr.heap.size wr wd := ((Below.refl _ _).alloc (Nat.le_refl _) _).trans (bd.mono (by simp))
        have ltd : wr.heap.size < wd.heap.size := by have := bd.size; simp at this; omega
        obtain rfl : m2 = 0 := hl2.out.symm
        obtain rfl : e = .returned (.tuple #[.agg #[.slice (some ⟨gc, 0, none⟩) nc nc, .int .i64 (at2 : Int), .int .i64 err2], .agg #[.int .u64 ((num t : Nat) : Int), .slice A2 0 c3]]) := by simpa using he
        have BD : Hid (Below w.heap.size w wd) := (show Below _ _ _ from BR.out.trans (bd0.mono BR.out.size))
        have hRd := hRr.below bd0 hRr.lt
        have hSd := hSr2.below bd0 hSr2.lt
        have hCd := hCr.below bd0 hCr.lt
        have hMd := hMr.below bd0 hMr.lt
        have hAd : Row wd wr.heap.size 42 [.int .i64 1, .int .i64 N] := (Row.new wr _ [.int .i64 1, .int .i64 N]).below bd (by simp)
        have ha0 : wd.cell? ⟨wr.heap.size, 0, none⟩ = some (.int .i64 1) := hAd.cell 0
        have hgmd : gm < wd.heap.size := hMd.lt
        have ltd1 : wr.heap.size < wd.heap.size + 1 := by omega
        have ltd2 : wr.heap.size < wd.heap.size + 1 + 1 := by omega
        clear he hl2 hbs2 hblk bd HD
        go_wp2_with fail
        obtain ⟨W3, hW3⟩ : ∃ W3, W3 = ((wd.alloc (.cells #[.slice (some ⟨gc, 0, none⟩) nc nc, .int .i64 (at2 : Int), .int .i64 err2] 40)).alloc (.cells #[.int .u64 ((num t : Nat) : Int), .slice A2 0 c3] 44)).alloc (.cells #[.int .u64 0, .slice none 0 0] 44) := ⟨_, rfl⟩
        rw [← hW3]
        have b3 : Below wd.heap.size wd W3 := by rw [hW3]; exact (((Below.refl _ _).alloc (Nat.le_refl _) _).alloc (by simp) _).alloc (by simp; omega) _
        have r10 : Row W3 wd.heap.size 40 [.slice (some ⟨gc, 0, none⟩) nc nc, .int .i64 (at2 : Int), .int .i64 err2] := by
          rw [hW3]; exact ((Row.new wd _ [.slice (some ⟨gc, 0, none⟩) nc nc, .int .i64 (at2 : Int), .int .i64 err2]).alloc _).alloc _
        have r11 : Row W3 (wd.heap.size + 1) 44 [.int .u64 ((num t : Nat) : Int), .slice A2 0 c3] := by
          rw [hW3]
          have := (Row.new (wd.alloc (.cells #[.slice (some ⟨gc, 0, none⟩) nc nc, .int .i64 (at2 : Int), .int .i64 err2] 40)) 44 [.int .u64 ((num t : Nat) : Int), .slice A2 0 c3]).alloc (.cells #[.int .u64 0, .slice none 0 0] 44)
          simpa using this
        have r12 : Row W3 (wd.heap.size + 1 + 1) 44 [.int .u64 0, .slice none 0 0] := by
          rw [hW3]
          have := Row.new ((wd.alloc (.cells #[.slice (some ⟨gc, 0, none⟩) nc nc, .int .i64 (at2 : Int), .int .i64 err2] 40)).alloc (.cells #[.int .u64 ((num t : Nat) : Int), .slice A2 0 c3] 44)) 44 [.int .u64 0, .slice none 0 0]
          simpa using this
        refine (HM.out _ (hRd.below b3 hRd.lt)).mono ?_
        rintro e w5 ⟨rfl, hR5, hg5⟩
        have hgrd : gr < wd.heap.size := by omega
        have r10 := r10.grown hg5 (by simp; omega)
        have r11 := r11.grown hg5 (by simp; omega)
        have r12 := r12.grown hg5 (by simp; omega)
        have hS5 := (hSd.below b3 hSd.lt).grown hg5 (by simp; omega)
        have hC5 := (hCd.below b3 hCd.lt).grown hg5 (by simp; omega)
        have hM5 := (hMd.below b3 hMd.lt).grown hg5 (by simp; omega)
        have BB5 : Hid (Below w.heap.size w w5) := (show Below _ _ _ from (BD.out.trans (b3.mono BD.out.size)).grown hg5 (Nat.le_trans BD.out.size b3.size) (fun j hj => by simp at hj; omega))
        have c12 : w5.cell? ⟨wd.heap.size + 1 + 1, 0, none⟩ = some (.int .u64 0) := r12.cell 0
        have f12 := r12.frozen 0
        clear hW3 b3 hg5 HM hRd hSd hCd hMd hAd ha0 BD bd0
        go_upto_region 21 with (fail)
        obtain ⟨w6, hw6⟩ : ∃ w6, w6 = w5.setCell ⟨wd.heap.size + 1 + 1, 0, none⟩ (.int .u64 ((num t : Nat) : Int)) := ⟨_, rfl⟩
        rw [← hw6]
        have g6 : w5.grownBy w6 (some (wd.heap.size + 1 + 1)) := by rw [hw6]; exact grown_store _ _ _ _
        have r12 : Row w6 (wd.heap.size + 1 + 1) 44 [.int .u64 ((num t : Nat) : Int), .slice none 0 0] := by rw [hw6]; exact r12.store 0 _
        have r10 := r10.grown g6 (by simp; omega)
        have r11 := r11.grown g6 (by simp)
        have hR6 := hR5.grown g6 (by omega)
        have hS6 := hS5.grown g6 (by simp; omega)
        have hC6 := hC5.grown g6 (by simp; omega)
        have hM6 := hM5.grown g6 (by simp; omega)
        have hw0d : w.heap.size ≤ wd.heap.size := by have := BR.out.size; omega
        have BB6 : Hid (Below w.heap.size w w6) := (show Below _ _ _ from BB5.out.grown g6 BB5.out.size (fun j hj => by simp at hj; omega))
        have d0 : w6.cell? ⟨wd.heap.size + 1 + 1, 0, none⟩ = some (.int .u64 ((num t : Nat) : Int)) := r12.cell 0
        have d1 : w6.cell? ⟨wd.heap.size + 1 + 1, 1, none⟩ = some (.slice none 0 0) := r12.cell 1
        have d2 : w6.cell? ⟨wd.heap.size + 1, 0, none⟩ = some (.int .u64 ((num t : Nat) : Int)) := r11.cell 0
        have d3 : w6.cell? ⟨wd.heap.size + 1, 1, none⟩ = some (.slice A2 0 c3) := r11.cell 1
        have d4 : w6.cell? ⟨wd.heap.size, 0, none⟩ = some (.slice (some ⟨gc, 0, none⟩) nc nc) := r10.cell 0
        have d5 : w6.cell? ⟨wd.heap.size, 1, none⟩ = some (.int .i64 (at2 : Int)) := r10.cell 1
        have d6 : w6.cell? ⟨wd.heap.size, 2, none⟩ = some (.int .i64 err2) := r10.cell 2
        have mm0 : w6.cell? ⟨gm, 0, none⟩ = some (.slice (some ⟨gc, 0, none⟩) nc nc) := hM6.cell 0
        have mm1 : w6.cell? ⟨gm, 1, none⟩ = some (.int .i64 (at_ : Int)) := hM6.cell 1
        have mm2 : w6.cell? ⟨gm, 2, none⟩ = some (.int .i64 err) := hM6.cell 2
        have fm0 := hM6.frozen 0
        have fm1 := hM6.frozen 1
        have fm2 := hM6.frozen 2
        clear hw6 g6 c12 f12 hR5 hS5 hC5 hM5 BB5
        have hat6 : (at2 : Int) ≤ (nc : Int) := by have := HST.out; omega
        go_quiet ((first
          | (go_at_call 14; exact quiet_still (same_true none A2 [] 0 c3 0 0 _ rfl rfl (by omega) 0 0 (Bs.nil _ _ _) (Bs.nil _ _ _)))
          | (go_at_call 25; exact quiet_still (left_any gr l at2 nc err2 _ (hR6.drewN _) H1.out))
          | (go_at_call 26; exact quiet_same (err_any gr l at2 err2 _ (hR6.drewN _)))))
        go_wp2_with fail
        have hgrm : gr < gm := by omega
        go_roundw
        case rel =>
          refine ⟨k + 1, at2, err2, by omega, by go_num, HST, ?_, ?_, ?_, ?_, ?_⟩
          · exact (((hR6.drewN _).grown (grown_store _ _ _ _) hgrm).grown (grown_store _ _ _ _) hgrm).grown (grown_store _ _ _ _) hgrm
          · exact (((hS6.drewN _).far (by simp; omega) _).far (by simp; omega) _).far (by simp; omega) _
          · exact (((hC6.drewN _).far (by simp; omega) _).far (by simp; omega) _).far (by simp; omega) _
          · exact (((hM6.drewN _).store 0 _).store 1 _).store 2 _
          · exact (show Below _ _ _ from (((below_still BB6.out ⟨_, rfl⟩).setCell (by simp; omega) _).setCell (by simp; omega) _).setCell (by simp; omega) _)
        case measure => simp [intOf]; omega
      · rw [show ((2 : Nat) : Int) = 2 from rfl] at e5 HD
        rw [show sz 2 N = 4 from rfl] at HD HST
        have HM : Hid (∀ W, Rdr W gr l at_ err → Calls Try.prog 22 #[.pointer (some ⟨gr, 0, none⟩)] W fun e w' => e = .returned (.int .u32 ((num (Oct.step l at_ err 4).1 : Nat) : Int)) ∧ Rdr w' gr l (Oct.step l at_ err 4).2.1 (Oct.step l at_ err 4).2.2 ∧ W.grownBy w' (some gr)) := fun W hW => u32_any gr l at_ err W hW
        have HNL : Hid (InU64 (num (Oct.step l at_ err 4).1)) := (show _ < _ from Nat.lt_of_lt_of_le (step_num_lt l at_ err 4) (by decide))
        generalize Oct.step l at_ err 4 = st at HD HM HST HNL
        obtain ⟨t, at2, err2⟩ := st
        have hwr : IntKind.u64.wrap ((num t : Nat) : Int) = ((num t : Nat) : Int) := u64_wrap (Int.natCast_nonneg _) (Int.ofNat_lt.2 HNL.out)
        clear HNL
        go_wp2_with fail
        refine (HD.out _ ((Below.refl _ _).alloc (Nat.le_refl _) _)).mono ?_
        rintro e wd ⟨A2, m2, c3, he, hl2, hbs2, hblk, bd⟩
        have bd0 : Below wr.heap.size wr wd := ((Below.refl _ _).alloc (Nat.le_refl _) _).trans (bd.mono (by simp))
        have ltd : wr.heap.size < wd.heap.size := by have := bd.size; simp at this; omega
        obtain rfl : m2 = 0 := hl2.out.symm
        obtain rfl : e = .returned (.tuple #[.agg #[.slice (some ⟨gc, 0, none⟩) nc nc, .int .i64 (at2 : Int), .int .i64 err2], .agg #[.int .u64 ((num t : Nat) : Int), .slice A2 0 c3]]) := by simpa using he
        have BD : Hid (Below w.heap.size w wd) := (show Below _ _ _ from BR.out.trans (bd0.mono BR.out.size))
        have hRd := hRr.below bd0 hRr.lt
        have hSd := hSr2.below bd0 hSr2.lt
        have hCd := hCr.below bd0 hCr.lt
        have hMd := hMr.below bd0 hMr.lt
        have hAd : Row wd wr.heap.size 42 [.int .i64 2, .int .i64 N] := (Row.new wr _ [.int .i64 2, .int .i64 N]).below bd (by simp)
        have ha0 : wd.cell? ⟨wr.heap.size, 0, none⟩ = some (.int .i64 2) := hAd.cell 0
        have hgmd : gm < wd.heap.size := hMd.lt
        have ltd1 : wr.heap.size < wd.heap.size + 1 := by omega
        have ltd2 : wr.heap.size < wd.heap.size + 1 + 1 := by omega
        clear he hl2 hbs2 hblk bd HD
        go_wp2_with fail
        obtain ⟨W3, hW3⟩ : ∃ W3, W3 = ((wd.alloc (.cells #[.slice (some ⟨gc, 0, none⟩) nc nc, .int .i64 (at2 : Int), .int .i64 err2] 40)).alloc (.cells #[.int .u64 ((num t : Nat) : Int), .slice A2 0 c3] 44)).alloc (.cells #[.int .u64 0, .slice none 0 0] 44) := ⟨_, rfl⟩
        rw [← hW3]
        have b3 : Below wd.heap.size wd W3 := by rw [hW3]; exact (((Below.refl _ _).alloc (Nat.le_refl _) _).alloc (by simp) _).alloc (by simp; omega) _
        have r10 : Row W3 wd.heap.size 40 [.slice (some ⟨gc, 0, none⟩) nc nc, .int .i64 (at2 : Int), .int .i64 err2] := by
          rw [hW3]; exact ((Row.new wd _ [.slice (some ⟨gc, 0, none⟩) nc nc, .int .i64 (at2 : Int), .int .i64 err2]).alloc _).alloc _
        have r11 : Row W3 (wd.heap.size + 1) 44 [.int .u64 ((num t : Nat) : Int), .slice A2 0 c3] := by
          rw [hW3]
          have := (Row.new (wd.alloc (.cells #[.slice (some ⟨gc, 0, none⟩) nc nc, .int .i64 (at2 : Int), .int .i64 err2] 40)) 44 [.int .u64 ((num t : Nat) : Int), .slice A2 0 c3]).alloc (.cells #[.int .u64 0, .slice none 0 0] 44)
          simpa using this
        have r12 : Row W3 (wd.heap.size + 1 + 1) 44 [.int .u64 0, .slice none 0 0] := by
          rw [hW3]
          have := Row.new ((wd.alloc (.cells #[.slice (some ⟨gc, 0, none⟩) nc nc, .int .i64 (at2 : Int), .int .i64 err2] 40)).alloc (.cells #[.int .u64 ((num t : Nat) : Int), .slice A2 0 c3] 44)) 44 [.int .u64 0, .slice none 0 0]
          simpa using this
        refine (HM.out _ (hRd.below b3 hRd.lt)).mono ?_
        rintro e w5 ⟨rfl, hR5, hg5⟩
        have hgrd : gr < wd.heap.size := by omega
        have r10 := r10.grown hg5 (by simp; omega)
        have r11 := r11.grown hg5 (by simp; omega)
        have r12 := r12.grown hg5 (by simp; omega)
        have hS5 := (hSd.below b3 hSd.lt).grown hg5 (by simp; omega)
        have hC5 := (hCd.below b3 hCd.lt).grown hg5 (by simp; omega)
        have hM5 := (hMd.below b3 hMd.lt).grown hg5 (by simp; omega)
        have BB5 : Hid (Below w.heap.size w w5) := (show Below _ _ _ from (BD.out.trans (b3.mono BD.out.size)).grown hg5 (Nat.le_trans BD.out.size b3.size) (fun j hj => by simp at hj; omega))
        have c12 : w5.cell? ⟨wd.heap.size + 1 + 1, 0, none⟩ = some (.int .u64 0) := r12.cell 0
        have f12 := r12.frozen 0
        clear hW3 b3 hg5 HM hRd hSd hCd hMd hAd ha0 BD bd0
        go_upto_region 21 with (fail)
        obtain ⟨w6, hw6⟩ : ∃ w6, w6 = w5.setCell ⟨wd.heap.size + 1 + 1, 0, none⟩ (.int .u64 ((num t : Nat) : Int)) := ⟨_, rfl⟩
        rw [← hw6]
        have g6 : w5.grownBy w6 (some (wd.heap.size + 1 + 1)) := by rw [hw6]; exact grown_store _ _ _ _
        have r12 : Row w6 (wd.heap.size + 1 + 1) 44 [.int .u64 ((num t : Nat) : Int), .slice none 0 0] := by rw [hw6]; exact r12.store 0 _
        have r10 := r10.grown g6 (by simp; omega)
        have r11 := r11.grown g6 (by simp)
        have hR6 := hR5.grown g6 (by omega)
        have hS6 := hS5.grown g6 (by simp; omega)
        have hC6 := hC5.grown g6 (by simp; omega)
        have hM6 := hM5.grown g6 (by simp; omega)
        have hw0d : w.heap.size ≤ wd.heap.size := by have := BR.out.size; omega
        have BB6 : Hid (Below w.heap.size w w6) := (show Below _ _ _ from BB5.out.grown g6 BB5.out.size (fun j hj => by simp at hj; omega))
        have d0 : w6.cell? ⟨wd.heap.size + 1 + 1, 0, none⟩ = some (.int .u64 ((num t : Nat) : Int)) := r12.cell 0
        have d1 : w6.cell? ⟨wd.heap.size + 1 + 1, 1, none⟩ = some (.slice none 0 0) := r12.cell 1
        have d2 : w6.cell? ⟨wd.heap.size + 1, 0, none⟩ = some (.int .u64 ((num t : Nat) : Int)) := r11.cell 0
        have d3 : w6.cell? ⟨wd.heap.size + 1, 1, none⟩ = some (.slice A2 0 c3) := r11.cell 1
        have d4 : w6.cell? ⟨wd.heap.size, 0, none⟩ = some (.slice (some ⟨gc, 0, none⟩) nc nc) := r10.cell 0
        have d5 : w6.cell? ⟨wd.heap.size, 1, none⟩ = some (.int .i64 (at2 : Int)) := r10.cell 1
        have d6 : w6.cell? ⟨wd.heap.size, 2, none⟩ = some (.int .i64 err2) := r10.cell 2
        have mm0 : w6.cell? ⟨gm, 0, none⟩ = some (.slice (some ⟨gc, 0, none⟩) nc nc) := hM6.cell 0
        have mm1 : w6.cell? ⟨gm, 1, none⟩ = some (.int .i64 (at_ : Int)) := hM6.cell 1
        have mm2 : w6.cell? ⟨gm, 2, none⟩ = some (.int .i64 err) := hM6.cell 2
        have fm0 := hM6.frozen 0
        have fm1 := hM6.frozen 1
        have fm2 := hM6.frozen 2
        clear hw6 g6 c12 f12 hR5 hS5 hC5 hM5 BB5
        have hat6 : (at2 : Int) ≤ (nc : Int) := by have := HST.out; omega
        go_quiet ((first
          | (go_at_call 14; exact quiet_still (same_true none A2 [] 0 c3 0 0 _ rfl rfl (by omega) 0 0 (Bs.nil _ _ _) (Bs.nil _ _ _)))
          | (go_at_call 25; exact quiet_still (left_any gr l at2 nc err2 _ (hR6.drewN _) H1.out))
          | (go_at_call 26; exact quiet_same (err_any gr l at2 err2 _ (hR6.drewN _)))))
        go_wp2_with fail
        have hgrm : gr < gm := by omega
        go_roundw
        case rel =>
          refine ⟨k + 1, at2, err2, by omega, by go_num, HST, ?_, ?_, ?_, ?_, ?_⟩
          · exact (((hR6.drewN _).grown (grown_store _ _ _ _) hgrm).grown (grown_store _ _ _ _) hgrm).grown (grown_store _ _ _ _) hgrm
          · exact (((hS6.drewN _).far (by simp; omega) _).far (by simp; omega) _).far (by simp; omega) _
          · exact (((hC6.drewN _).far (by simp; omega) _).far (by simp; omega) _).far (by simp; omega) _
          · exact (((hM6.drewN _).store 0 _).store 1 _).store 2 _
          · exact (show Below _ _ _ from (((below_still BB6.out ⟨_, rfl⟩).setCell (by simp; omega) _).setCell (by simp; omega) _).setCell (by simp; omega) _)
        case measure => simp [intOf]; omega
      · rw [show ((3 : Nat) : Int) = 3 from rfl] at e5 HD
        rw [show sz 3 N = 8 from rfl] at HD HST
        have HM : Hid (∀ W, Rdr W gr l at_ err → Calls Try.prog 23 #[.pointer (some ⟨gr, 0, none⟩)] W fun e w' => e = .returned (.int .u64 ((num (Oct.step l at_ err 8).1 : Nat) : Int)) ∧ Rdr w' gr l (Oct.step l at_ err 8).2.1 (Oct.step l at_ err 8).2.2 ∧ W.grownBy w' (some gr)) := fun W hW => u64_any gr l at_ err W hW
        have HNL : Hid (InU64 (num (Oct.step l at_ err 8).1)) := (show _ < _ from Nat.lt_of_lt_of_le (step_num_lt l at_ err 8) (by decide))
        generalize Oct.step l at_ err 8 = st at HD HM HST HNL
        obtain ⟨t, at2, err2⟩ := st
        have hwr : IntKind.u64.wrap ((num t : Nat) : Int) = ((num t : Nat) : Int) := u64_wrap (Int.natCast_nonneg _) (Int.ofNat_lt.2 HNL.out)
        clear HNL
        go_wp2_with fail
        refine (HD.out _ ((Below.refl _ _).alloc (Nat.le_refl _) _)).mono ?_
        rintro e wd ⟨A2, m2, c3, he, hl2, hbs2, hblk, bd⟩
        have bd0 : Below wr.heap.size wr wd := ((Below.refl _ _).alloc (Nat.le_refl _) _).trans (bd.mono (by simp))
        have ltd : wr.heap.size < wd.heap.size := by have := bd.size; simp at this; omega
        obtain rfl : m2 = 0 := hl2.out.symm
        obtain rfl : e = .returned (.tuple #[.agg #[.slice (some ⟨gc, 0, none⟩) nc nc, .int .i64 (at2 : Int), .int .i64 err2], .agg #[.int .u64 ((num t : Nat) : Int), .slice A2 0 c3]]) := by simpa using he
        have BD : Hid (Below w.heap.size w wd) := (show Below _ _ _ from BR.out.trans (bd0.mono BR.out.size))
        have hRd := hRr.below bd0 hRr.lt
        have hSd := hSr2.below bd0 hSr2.lt
        have hCd := hCr.below bd0 hCr.lt
        have hMd := hMr.below bd0 hMr.lt
        have hAd : Row wd wr.heap.size 42 [.int .i64 3, .int .i64 N] := (Row.new wr _ [.int .i64 3, .int .i64 N]).below bd (by simp)
        have ha0 : wd.cell? ⟨wr.heap.size, 0, none⟩ = some (.int .i64 3) := hAd.cell 0
        have hgmd : gm < wd.heap.size := hMd.lt
        have ltd1 : wr.heap.size < wd.heap.size + 1 := by omega
        have ltd2 : wr.heap.size < wd.heap.size + 1 + 1 := by omega
        clear he hl2 hbs2 hblk bd HD
        go_wp2_with fail
        obtain ⟨W3, hW3⟩ : ∃ W3, W3 = ((wd.alloc (.cells #[.slice (some ⟨gc, 0, none⟩) nc nc, .int .i64 (at2 : Int), .int .i64 err2] 40)).alloc (.cells #[.int .u64 ((num t : Nat) : Int), .slice A2 0 c3] 44)).alloc (.cells #[.int .u64 0, .slice none 0 0] 44) := ⟨_, rfl⟩
        rw [← hW3]
        have b3 : Below wd.heap.size wd W3 := by rw [hW3]; exact (((Below.refl _ _).alloc (Nat.le_refl _) _).alloc (by simp) _).alloc (by simp; omega) _
        have r10 : Row W3 wd.heap.size 40 [.slice (some ⟨gc, 0, none⟩) nc nc, .int .i64 (at2 : Int), .int .i64 err2] := by
          rw [hW3]; exact ((Row.new wd _ [.slice (some ⟨gc, 0, none⟩) nc nc, .int .i64 (at2 : Int), .int .i64 err2]).alloc _).alloc _
        have r11 : Row W3 (wd.heap.size + 1) 44 [.int .u64 ((num t : Nat) : Int), .slice A2 0 c3] := by
          rw [hW3]
          have := (Row.new (wd.alloc (.cells #[.slice (some ⟨gc, 0, none⟩) nc nc, .int .i64 (at2 : Int), .int .i64 err2] 40)) 44 [.int .u64 ((num t : Nat) : Int), .slice A2 0 c3]).alloc (.cells #[.int .u64 0, .slice none 0 0] 44)
          simpa using this
        have r12 : Row W3 (wd.heap.size + 1 + 1) 44 [.int .u64 0, .slice none 0 0] := by
          rw [hW3]
          have := Row.new ((wd.alloc (.cells #[.slice (some ⟨gc, 0, none⟩) nc nc, .int .i64 (at2 : Int), .int .i64 err2] 40)).alloc (.cells #[.int .u64 ((num t : Nat) : Int), .slice A2 0 c3] 44)) 44 [.int .u64 0, .slice none 0 0]
          simpa using this
        refine (HM.out _ (hRd.below b3 hRd.lt)).mono ?_
        rintro e w5 ⟨rfl, hR5, hg5⟩
        have hgrd : gr < wd.heap.size := by omega
        have r10 := r10.grown hg5 (by simp; omega)
        have r11 := r11.grown hg5 (by simp; omega)
        have r12 := r12.grown hg5 (by simp; omega)
        have hS5 := (hSd.below b3 hSd.lt).grown hg5 (by simp; omega)
        have hC5 := (hCd.below b3 hCd.lt).grown hg5 (by simp; omega)
        have hM5 := (hMd.below b3 hMd.lt).grown hg5 (by simp; omega)
        have BB5 : Hid (Below w.heap.size w w5) := (show Below _ _ _ from (BD.out.trans (b3.mono BD.out.size)).grown hg5 (Nat.le_trans BD.out.size b3.size) (fun j hj => by simp at hj; omega))
        have c12 : w5.cell? ⟨wd.heap.size + 1 + 1, 0, none⟩ = some (.int .u64 0) := r12.cell 0
        have f12 := r12.frozen 0
        clear hW3 b3 hg5 HM hRd hSd hCd hMd hAd ha0 BD bd0
        go_upto_region 21 with (fail)
        obtain ⟨w6, hw6⟩ : ∃ w6, w6 = w5.setCell ⟨wd.heap.size + 1 + 1, 0, none⟩ (.int .u64 ((num t : Nat) : Int)) := ⟨_, rfl⟩
        rw [← hw6]
        have g6 : w5.grownBy w6 (some (wd.heap.size + 1 + 1)) := by rw [hw6]; exact grown_store _ _ _ _
        have r12 : Row w6 (wd.heap.size + 1 + 1) 44 [.int .u64 ((num t : Nat) : Int), .slice none 0 0] := by rw [hw6]; exact r12.store 0 _
        have r10 := r10.grown g6 (by simp; omega)
        have r11 := r11.grown g6 (by simp)
        have hR6 := hR5.grown g6 (by omega)
        have hS6 := hS5.grown g6 (by simp; omega)
        have hC6 := hC5.grown g6 (by simp; omega)
        have hM6 := hM5.grown g6 (by simp; omega)
        have hw0d : w.heap.size ≤ wd.heap.size := by have := BR.out.size; omega
        have BB6 : Hid (Below w.heap.size w w6) := (show Below _ _ _ from BB5.out.grown g6 BB5.out.size (fun j hj => by simp at hj; omega))
        have d0 : w6.cell? ⟨wd.heap.size + 1 + 1, 0, none⟩ = some (.int .u64 ((num t : Nat) : Int)) := r12.cell 0
        have d1 : w6.cell? ⟨wd.heap.size + 1 + 1, 1, none⟩ = some (.slice none 0 0) := r12.cell 1
        have d2 : w6.cell? ⟨wd.heap.size + 1, 0, none⟩ = some (.int .u64 ((num t : Nat) : Int)) := r11.cell 0
        have d3 : w6.cell? ⟨wd.heap.size + 1, 1, none⟩ = some (.slice A2 0 c3) := r11.cell 1
        have d4 : w6.cell? ⟨wd.heap.size, 0, none⟩ = some (.slice (some ⟨gc, 0, none⟩) nc nc) := r10.cell 0
        have d5 : w6.cell? ⟨wd.heap.size, 1, none⟩ = some (.int .i64 (at2 : Int)) := r10.cell 1
        have d6 : w6.cell? ⟨wd.heap.size, 2, none⟩ = some (.int .i64 err2) := r10.cell 2
        have mm0 : w6.cell? ⟨gm, 0, none⟩ = some (.slice (some ⟨gc, 0, none⟩) nc nc) := hM6.cell 0
        have mm1 : w6.cell? ⟨gm, 1, none⟩ = some (.int .i64 (at_ : Int)) := hM6.cell 1
        have mm2 : w6.cell? ⟨gm, 2, none⟩ = some (.int .i64 err) := hM6.cell 2
        have fm0 := hM6.frozen 0
        have fm1 := hM6.frozen 1
        have fm2 := hM6.frozen 2
        clear hw6 g6 c12 f12 hR5 hS5 hC5 hM5 BB5
        have hat6 : (at2 : Int) ≤ (nc : Int) := by have := HST.out; omega
        go_quiet ((first
          | (go_at_call 14; exact quiet_still (same_true none A2 [] 0 c3 0 0 _ rfl rfl (by omega) 0 0 (Bs.nil _ _ _) (Bs.nil _ _ _)))
          | (go_at_call 25; exact quiet_still (left_any gr l at2 nc err2 _ (hR6.drewN _) H1.out))
          | (go_at_call 26; exact quiet_same (err_any gr l at2 err2 _ (hR6.drewN _)))))
        go_wp2_with fail
        have hgrm : gr < gm := by omega
        go_roundw
        case rel =>
          refine ⟨k + 1, at2, err2, by omega, by go_num, HST, ?_, ?_, ?_, ?_, ?_⟩
          · exact (((hR6.drewN _).grown (grown_store _ _ _ _) hgrm).grown (grown_store _ _ _ _) hgrm).grown (grown_store _ _ _ _) hgrm
          · exact (((hS6.drewN _).far (by simp; omega) _).far (by simp; omega) _).far (by simp; omega) _
          · exact (((hC6.drewN _).far (by simp; omega) _).far (by simp; omega) _).far (by simp; omega) _
          · exact (((hM6.drewN _).store 0 _).store 1 _).store 2 _
          · exact (show Below _ _ _ from (((below_still BB6.out ⟨_, rfl⟩).setCell (by simp; omega) _).setCell (by simp; omega) _).setCell (by simp; omega) _)
        case measure => simp [intOf]; omega
      · rw [show ((4 : Nat) : Int) = 4 from rfl] at e5 HD
        rw [show sz 4 N = N from rfl] at HD HST
        have HM : Hid (∀ W, Rdr W gr l at_ err → Calls Try.prog 24 #[.pointer (some ⟨gr, 0, none⟩), .int .i64 N] W fun e w' => ∃ A m c, e = .returned (.slice A m c) ∧ Hid ((Oct.step l at_ err N).1.length = m) ∧ (A = none → c = 0) ∧ Bs w' w'.heap.size A (Oct.step l at_ err N).1 ∧ Rdr w' gr l (Oct.step l at_ err N).2.1 (Oct.step l at_ err N).2.2 ∧ W.grownBy w' (some gr) ∧ (∀ b o, A = some ⟨b, o, none⟩ → W.heap.size ≤ b)) := fun W hW => raw_any gr l at_ err N W hW (by rw [H1.out]; omega)
        have HNL : Hid ((Oct.step l at_ err N).1.length ≤ nc) := (show _ ≤ _ by rw [← H1.out]; exact step_le l at_ err N)
        generalize Oct.step l at_ err N = st at HD HM HST HNL
        obtain ⟨t, at2, err2⟩ := st
        go_wp2_with fail
        refine (HD.out _ ((Below.refl _ _).alloc (Nat.le_refl _) _)).mono ?_
        rintro e wd ⟨A2, m2, c3, he, hl2, hbs2, hblk, bd⟩
        have bd0 : Below wr.heap.size wr wd := ((Below.refl _ _).alloc (Nat.le_refl _) _).trans (bd.mono (by simp))
        have ltd : wr.heap.size < wd.heap.size := by have := bd.size; simp at this; omega
        have hm2 : m2 ≤ nc := by rw [← hl2.out]; exact HNL.out
        have HB2 : Hid (Bs wd wd.heap.size A2 t) := hbs2
        have HL2 : Hid (t.length = m2) := hl2
        have HK2 := Lib.hid hblk
        obtain rfl : e = .returned (.tuple #[.agg #[.slice (some ⟨gc, 0, none⟩) nc nc, .int .i64 (at2 : Int), .int .i64 err2], .agg #[.int .u64 0, .slice A2 m2 c3]]) := by simpa using he
        have BD : Hid (Below w.heap.size w wd) := (show Below _ _ _ from BR.out.trans (bd0.mono BR.out.size))
        have hRd := hRr.below bd0 hRr.lt
        have hSd := hSr2.below bd0 hSr2.lt
        have hCd := hCr.below bd0 hCr.lt
        have hMd := hMr.below bd0 hMr.lt
        have hAd : Row wd wr.heap.size 42 [.int .i64 4, .int .i64 N] := (Row.new wr _ [.int .i64 4, .int .i64 N]).below bd (by simp)
        have ha0 : wd.cell? ⟨wr.heap.size, 0, none⟩ = some (.int .i64 4) := hAd.cell 0
        have ha1 : wd.cell? ⟨wr.heap.size, 1, none⟩ = some (.int .i64 N) := hAd.cell 1
        have hgmd : gm < wd.heap.size := hMd.lt
        have ltd1 : wr.heap.size < wd.heap.size + 1 := by omega
        have ltd2 : wr.heap.size < wd.heap.size + 1 + 1 := by omega
        clear he hl2 hbs2 hblk bd HD
        go_wp2_with fail
        obtain ⟨W3, hW3⟩ : ∃ W3, W3 = ((wd.alloc (.cells #[.slice (some ⟨gc, 0, none⟩) nc nc, .int .i64 (at2 : Int), .int .i64 err2] 40)).alloc (.cells #[.int .u64 0, .slice A2 m2 c3] 44)).alloc (.cells #[.int .u64 0, .slice none 0 0] 44) := ⟨_, rfl⟩
        rw [← hW3]
        have b3 : Below wd.heap.size wd W3 := by rw [hW3]; exact (((Below.refl _ _).alloc (Nat.le_refl _) _).alloc (by simp) _).alloc (by simp; omega) _
        have r10 : Row W3 wd.heap.size 40 [.slice (some ⟨gc, 0, none⟩) nc nc, .int .i64 (at2 : Int), .int .i64 err2] := by
          rw [hW3]; exact ((Row.new wd _ [.slice (some ⟨gc, 0, none⟩) nc nc, .int .i64 (at2 : Int), .int .i64 err2]).alloc _).alloc _
        have r11 : Row W3 (wd.heap.size + 1) 44 [.int .u64 0, .slice A2 m2 c3] := by
          rw [hW3]
          have := (Row.new (wd.alloc (.cells #[.slice (some ⟨gc, 0, none⟩) nc nc, .int .i64 (at2 : Int), .int .i64 err2] 40)) 44 [.int .u64 0, .slice A2 m2 c3]).alloc (.cells #[.int .u64 0, .slice none 0 0] 44)
          simpa using this
        have r12 : Row W3 (wd.heap.size + 1 + 1) 44 [.int .u64 0, .slice none 0 0] := by
          rw [hW3]
          have := Row.new ((wd.alloc (.cells #[.slice (some ⟨gc, 0, none⟩) nc nc, .int .i64 (at2 : Int), .int .i64 err2] 40)).alloc (.cells #[.int .u64 0, .slice A2 m2 c3] 44)) 44 [.int .u64 0, .slice none 0 0]
          simpa using this
        have r12W := r12.lt
        refine (HM.out _ (hRd.below b3 hRd.lt)).mono ?_
        rintro e w5 ⟨A3, m3, c4, rfl, hl3, hA3, hbs3, hR5, hg5, hnew⟩
        have hm3 : m3 ≤ nc := by rw [← hl3.out]; exact HNL.out
        clear hA3
        have hgrd : gr < wd.heap.size := by omega
        have r10 := r10.grown hg5 (by simp; omega)
        have r11 := r11.grown hg5 (by simp; omega)
        have r12 := r12.grown hg5 (by simp; omega)
        have hS5 := (hSd.below b3 hSd.lt).grown hg5 (by simp; omega)
        have hC5 := (hCd.below b3 hCd.lt).grown hg5 (by simp; omega)
        have hM5 := (hMd.below b3 hMd.lt).grown hg5 (by simp; omega)
        have BB5 : Hid (Below w.heap.size w w5) := (show Below _ _ _ from (BD.out.trans (b3.mono BD.out.size)).grown hg5 (Nat.le_trans BD.out.size b3.size) (fun j hj => by simp at hj; omega))
        have c12 : w5.cell? ⟨wd.heap.size + 1 + 1, 1, none⟩ = some (.slice none 0 0) := r12.cell 1
        have f12 := r12.frozen 1
        have hnew' : ∀ b o, A3 = some ⟨b, o, none⟩ → b ≠ wd.heap.size + 1 + 1 := fun b o e => by have h1 := hnew b o e; have h2 := r12W; omega
        have hb25 : Bs w5 wd.heap.size A2 t := (HB2.out.below b3).keep2 fun b o e hlt => hg5.block b (Nat.lt_of_lt_of_le hlt b3.size) (by
          obtain ⟨a, ha, hb⟩ := HK2.out _ e
          obtain rfl := Option.some.inj ha
          simp at hb
          simp; omega)
        have HB25 := Lib.hid hb25
        have HB35 := Lib.hid hbs3
        have HN5 := Lib.hid hnew'
        have hsz5 : wd.heap.size ≤ w5.heap.size := Nat.le_trans b3.size hg5.size
        clear hb25 hbs3 hnew' hnew
        clear hW3 b3 hg5 HM hRd hSd hCd hMd hAd ha0 ha1 BD bd0
        go_upto_region 21 with (fail)
        obtain ⟨w6, hw6⟩ : ∃ w6, w6 = w5.setCell ⟨wd.heap.size + 1 + 1, 1, none⟩ (.slice A3 m3 c4) := ⟨_, rfl⟩
        rw [← hw6]
        have g6 : w5.grownBy w6 (some (wd.heap.size + 1 + 1)) := by rw [hw6]; exact grown_store _ _ _ _
        have r12 : Row w6 (wd.heap.size + 1 + 1) 44 [.int .u64 0, .slice A3 m3 c4] := by rw [hw6]; exact r12.store 1 _
        have HB26 : Hid (Bs w6 wd.heap.size A2 t) := HB25.out.keep2 fun b o e hlt => g6.block b (by omega) (by simp; omega)
        have HB36 : Hid (Bs w6 w5.heap.size A3 t) := HB35.out.keep2 fun b o e hlt => g6.block b hlt (by have := HN5.out b o e; simp; omega)
        have r10 := r10.grown g6 (by simp; omega)
        have r11 := r11.grown g6 (by simp)
        have hR6 := hR5.grown g6 (by omega)
        have hS6 := hS5.grown g6 (by simp; omega)
        have hC6 := hC5.grown g6 (by simp; omega)
        have hM6 := hM5.grown g6 (by simp; omega)
        have hw0d : w.heap.size ≤ wd.heap.size := by have := BR.out.size; omega
        have BB6 : Hid (Below w.heap.size w w6) := (show Below _ _ _ from BB5.out.grown g6 BB5.out.size (fun j hj => by simp at hj; omega))
        have d0 : w6.cell? ⟨wd.heap.size + 1 + 1, 0, none⟩ = some (.int .u64 0) := r12.cell 0
        have d1 : w6.cell? ⟨wd.heap.size + 1 + 1, 1, none⟩ = some (.slice A3 m3 c4) := r12.cell 1
        have d2 : w6.cell? ⟨wd.heap.size + 1, 0, none⟩ = some (.int .u64 0) := r11.cell 0
        have d3 : w6.cell? ⟨wd.heap.size + 1, 1, none⟩ = some (.slice A2 m2 c3) := r11.cell 1
        have d4 : w6.cell? ⟨wd.heap.size, 0, none⟩ = some (.slice (some ⟨gc, 0, none⟩) nc nc) := r10.cell 0
        have d5 : w6.cell? ⟨wd.heap.size, 1, none⟩ = some (.int .i64 (at2 : Int)) := r10.cell 1
        have d6 : w6.cell? ⟨wd.heap.size, 2, none⟩ = some (.int .i64 err2) := r10.cell 2
        have mm0 : w6.cell? ⟨gm, 0, none⟩ = some (.slice (some ⟨gc, 0, none⟩) nc nc) := hM6.cell 0
        have mm1 : w6.cell? ⟨gm, 1, none⟩ = some (.int .i64 (at_ : Int)) := hM6.cell 1
        have mm2 : w6.cell? ⟨gm, 2, none⟩ = some (.int .i64 err) := hM6.cell 2
        have fm0 := hM6.frozen 0
        have fm1 := hM6.frozen 1
        have fm2 := hM6.frozen 2
        clear hw6 g6 c12 f12 hR5 hS5 hC5 hM5 BB5
        have hat6 : (at2 : Int) ≤ (nc : Int) := by have := HST.out; omega
        go_quiet ((first
          | (go_at_call 14; exact quiet_still (same_true A3 A2 t c4 c3 m3 m2 _ hl3.out HL2.out (by omega) _ _ (HB36.out.drewN _) (HB26.out.drewN _)))
          | (go_at_call 25; exact quiet_still (left_any gr l at2 nc err2 _ (hR6.drewN _) H1.out))
          | (go_at_call 26; exact quiet_same (err_any gr l at2 err2 _ (hR6.drewN _)))))
        go_wp2_with fail
        have hgrm : gr < gm := by omega
        go_roundw
        case rel =>
          refine ⟨k + 1, at2, err2, by omega, by go_num, HST, ?_, ?_, ?_, ?_, ?_⟩
          · exact (((hR6.drewN _).grown (grown_store _ _ _ _) hgrm).grown (grown_store _ _ _ _) hgrm).grown (grown_store _ _ _ _) hgrm
          · exact (((hS6.drewN _).far (by simp; omega) _).far (by simp; omega) _).far (by simp; omega) _
          · exact (((hC6.drewN _).far (by simp; omega) _).far (by simp; omega) _).far (by simp; omega) _
          · exact (((hM6.drewN _).store 0 _).store 1 _).store 2 _
          · exact (show Below _ _ _ from (((below_still BB6.out ⟨_, rfl⟩).setCell (by simp; omega) _).setCell (by simp; omega) _).setCell (by simp; omega) _)
        case measure => simp [intOf]; omega
    · obtain rfl : k = n2 := by omega
      go_wp2_with fail
      refine (left_row gs As_ nc cs 0 0 wr hSr2 (Nat.zero_le _) (by omega)).mono ?_
      rintro e wz ⟨rfl, z, rfl⟩
      rw [show (nc : Int) - ((0 : Nat) : Int) = (nc : Int) from by simp]
      go_wp2_with fail
      refine (err_row gs As_ nc cs 0 0 _ (hSr2.drewN z)).mono ?_
      rintro e wy ⟨rfl, rfl⟩
      go_wp2
      go_ret
      exact ⟨rfl, below_still BR.out ⟨z, rfl⟩⟩

theorem fields42 : ∃ f0 f1 : Field, Try.prog.underlying 42 = some (.struct #[f0, f1]) ∧ f0.offset = 0 ∧ f1.offset = 1 ∧ f0.type = 3 ∧ f1.type = 3 := ⟨_, _, Try.underlying42, rfl, rfl, rfl, rfl⟩
theorem cells42 : Try.prog.cellsOf 42 = 2 := by kernel_rfl
theorem cells3 : Try.prog.cellsOf 3 = 1 := by kernel_rfl

theorem open_asks {H : Type} {enc : TypeId × Value → H} {W : World} {base : Nat} {v : Value} {d : DataW H} {ps : List MemPlace} (hval : Value.okWide Try.prog W .any base 35 v) (h : DataW.Trod enc Try.prog W 0 (fun _ => true) true 35 v d ps) :
    ∃ A len cap q, v = .slice A len cap ∧ q.length = len ∧ len ≤ cap ∧ cap ≤ maxLen ∧ As W W.heap.size A q ∧ (∀ x ∈ q, In64 x.1 ∧ In64 x.2) := by
  obtain ⟨f0, f1, hs, o0, o1, t0, t1⟩ := fields42
  obtain ⟨a0, len0, cap0, rfl⟩ := okWide_slice Try.underlying35 hval
  obtain ⟨fuel, hf⟩ := h
  rcases Go.Deep.open_slice_pairs Try.underlying35 hs cells42 o0 o1 (by rw [t0]; exact cells3) (by rw [t1]; exact cells3) hf with ⟨hcs, _⟩ | ⟨a, len, cap, m, n, V0, V1, D0, D1, P0, P1, hcs, _, hl, hm, hmm, _, hx⟩
  · simp [Value.cells] at hcs
    obtain ⟨rfl, rfl, rfl⟩ := hcs
    exact ⟨none, 0, 0, [], rfl, rfl, Nat.le_refl _, Nat.zero_le _, fun hp => absurd hp (by simp), fun x hx => by cases hx⟩
  · simp [Value.cells] at hcs
    obtain ⟨rfl, rfl, rfl⟩ := hcs
    have hm' : m = cap0 := by simpa using hmm
    subst hm'
    have hint : ∀ i, i < m → (∃ z, V0 i = .int .i64 z ∧ In64 z) ∧ (∃ z, V1 i = .int .i64 z ∧ In64 z) := by
      intro i hi
      obtain ⟨_, _, h0, h1⟩ := hx i hi
      rw [t0] at h0
      rw [t1] at h1
      obtain ⟨z0, e0, _, w0⟩ := DataW.trod_int Try.underlying3 h0
      obtain ⟨z1, e1, _, w1⟩ := DataW.trod_int Try.underlying3 h1
      have g0 : -9223372036854775808 ≤ z0 ∧ z0 ≤ 9223372036854775807 := by simpa [Lit.wf, IntKind.min, IntKind.max, IntKind.signed, IntKind.bits] using w0
      have g1 : -9223372036854775808 ≤ z1 ∧ z1 ≤ 9223372036854775807 := by simpa [Lit.wf, IntKind.min, IntKind.max, IntKind.signed, IntKind.bits] using w1
      exact ⟨⟨z0, by simpa using e0, g0⟩, ⟨z1, by simpa using e1, g1⟩⟩
    refine ⟨some a, len0, m, (List.range len0).map (fun i => (intOf (V0 i), intOf (V1 i))), rfl, by simp, hl, hm, ?_, ?_⟩
    · intro hp
      have hp' : 0 < len0 := by simpa using hp
      have hc0 := (hx 0 (by omega)).1
      obtain ⟨b, off, spot⟩ := a
      have hspot : spot = none := by simpa [Addr.add] using World.cell?_spot hc0
      subst hspot
      refine ⟨b, off, rfl, World.block_lt_of_cell? W _ (by simpa [Addr.add_lit] using hc0), fun i hi => ?_⟩
      have hi' : i < len0 := by simpa using hi
      obtain ⟨q0, q1, _, _⟩ := hx i (by omega)
      obtain ⟨⟨z0, e0, _⟩, ⟨z1, e1, _⟩⟩ := hint i (by omega)
      rw [Addr.add_lit] at q0 q1
      have eg : ((List.range len0).map (fun i => (intOf (V0 i), intOf (V1 i)))).getD i (0, 0) = (z0, z1) := by
        simp [List.getD_eq_getElem?_getD, hi', e0, e1, intOf]
      rw [eg, q0, ← Nat.add_assoc] at *
      rw [q1, e0, e1]
      exact ⟨rfl, rfl⟩
    · intro x hx'
      obtain ⟨i, hi, rfl⟩ := List.mem_map.1 hx'
      obtain ⟨⟨z0, e0, g0⟩, ⟨z1, e1, g1⟩⟩ := hint i (by have := List.mem_range.1 hi; omega)
      simp only [e0, e1, intOf]
      exact ⟨g0, g1⟩

theorem resT_OctetReads : Try.f5.resultTypes = #[4] := by kernel_rfl
set_option maxRecDepth 100000 in
theorem lifted_OctetReads (os : Os) (started : os.Started) (H : Type) (enc : TypeId × Value → H) :
    ReturnsInHanded {} Try.checked os 5 .any (Rows.octetReadsSpec.pre6 enc Try.prog Try.f5 Rows.octetReadsRow.domain false) (Rows.octetReadsSpec.post enc Try.prog Try.f5 false true false false) := by
  refine Lift.law_lift (C := Try.checked) (s := Rows.octetReadsSpec) (tb := 4) own laidOut started (by kernel_rfl) Try.func5
    (ChangeSpec.witness6 (enc := enc) (C := Try.checked) false ⟨#[], #[.slice none 0 0, .slice none 0 0], []⟩ 8 (by kernel_rfl) (by kernel_rfl) (by kernel_rfl) (by kernel_rfl))
    rfl resT_OctetReads Try.underlying4 (by
      have hr : ∀ t ∈ ([22, 35] : List TypeId), Try.prog.readableRec t = true ∧ t < Try.prog.types.size := by
        intro t ht
        simp only [List.mem_cons, List.not_mem_nil, or_false] at ht
        rcases ht with rfl | rfl <;> exact ⟨by kernel_rfl, of_decide_eq_true (by kernel_rfl)⟩
      intro t ht
      exact hr t (by
        have ht' : t ∈ Try.f5.params.toList := ht
        rw [Try.params5] at ht'
        exact ht')) ?_
  intro W base args ds p hval0 hA0 hsz0
  have hval : ∀ (j : Nat) t v, Try.f5.params[j]? = some t → args[j]? = some v → Value.okWide Try.prog W .any base t v := hval0
  have hA : DataW.TrodAll enc Try.prog W 0 (fun _ => true) true Try.f5.params.toList args.toList ds p := hA0
  have hsz : (DataW.weightsEach Try.prog Try.f5.params.toList ds).all (· ≤ reachBytes) = true := hsz0
  clear hval0 hA0 hsz0
  rw [Try.params5] at hA hval hsz
  obtain ⟨v0, vs0, d0, ds0, p0, q0, hargs, rfl, rfl, h0, r0⟩ := trodAll_cons hA
  obtain ⟨v1, vs1, d1, ds1, p1, q1, rfl, rfl, rfl, h1, r1⟩ := trodAll_cons r0
  obtain ⟨rfl, rfl, rfl⟩ := trodAll_nil r1
  obtain rfl : args = #[v0, v1] := by cases args; simp_all
  obtain ⟨A0, len0, cap0, l0, rfl, hl0, hlc0, hcm0, hn0, hb0, hd0⟩ := Lift.open_bytes Try.underlying22 Try.underlying5 (by kernel_rfl) (hval 0 22 v0 rfl rfl) h0
  have hc0 : cap0 ≤ 140737488351232 := Lift.bytes_reach bytes1 hsz (j := 0) rfl rfl Try.underlying22 hd0
  obtain ⟨A1, len1, cap1, l1, rfl, hl1, hlc1, hcm1, hb1, hin1⟩ := open_asks (hval 1 35 v1 rfl rfl) h1
  exact ⟨rfl, walk A0 A1 len0 len1 cap0 cap1 l0 l1 W hl0 hl1 (by omega) (by unfold maxLen at hcm1; omega) hb0 hb1 hn0 hin1⟩

theorem proved_OctetReads : Rows.OctetReadsSaid :=
  OpenClaim.holds_of_wide 5 Try.f5 rfl rfl rfl rfl rfl rfl rfl ⟨rfl, rfl, rfl, rfl, rfl⟩ rfl rfl rfl rfl rfl (by kernel_rfl) Try.func5 (by kernel_rfl)
    (of_decide_eq_true (by kernel_rfl)) (by unfold Func.isWrapper; first | (rw [if_pos (by decide +kernel)]; kernel_rfl) | (rw [if_neg (by decide +kernel)]; exact ⟨rfl, rfl⟩))
    (fun os started H enc _ => lifted_OctetReads os started H enc)
end Go.Proofs.Ytihphbeehadgmaa.OctReads
