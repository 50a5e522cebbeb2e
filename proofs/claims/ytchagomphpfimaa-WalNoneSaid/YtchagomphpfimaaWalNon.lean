/-
  WalNone: without a disk there is no log, and a nil one tells nothing. No condition.
-/
import Derived.Deep.Grids
import Derived.Test.YtchagomphpfimaaCw6
namespace Go.Proofs.Ytchagomphpfimaa.WalNon
set_option maxRecDepth 100000
open Go.RowKit Go.Shelf Go.Proofs.Ytchagomphpfimaa.Wd Go.Proofs.Ytchagomphpfimaa.Dsk Go.Proofs.Ytchagomphpfimaa.Oct Go.Proofs.Ytchagomphpfimaa.Sum Go.Proofs.Ytchagomphpfimaa.Beq Go.Proofs.Ytchagomphpfimaa.Wl Go.ChangeShapes Go.WideShapes Go.ChangeAt

theorem own : ownKnob Try.prog.godebug = none := by kernel_rfl
theorem laidOut : laidOutB Try.prog = true := by kernel_rfl
theorem bytes1 : Try.prog.bytesOf 5 = 1 := by kernel_rfl

attribute [local go_sem] Oper.semAt_some

theorem bs_take {w : World} {B : Nat} {A : Option Addr} {l : List UInt8} (h : Bs w B A l) (m : Nat) : Bs w B A (l.take m) := fun hp => by
  have hl : 0 < l.length := by rw [List.length_take] at hp; omega
  obtain ⟨b, o, h1, h2, h3⟩ := h hl
  refine ⟨b, o, h1, h2, fun i hi => ?_⟩
  rw [List.length_take] at hi
  rw [h3 i (by omega)]
  congr 4
  rw [List.getD_eq_getElem?_getD, List.getD_eq_getElem?_getD, List.getElem?_take_of_lt (by omega)]
def NnI (w6 : World) (pre : List EA) (W : World) : Prop := pre = [] ∧ Below w6.heap.size w6 W
set_option maxHeartbeats 8000000 in
theorem walk (A0 : Option Addr) (len0 cap0 : Nat) (l0 : List UInt8) (area : Int) (w : World) (hl0 : l0.length = len0) (hlc0 : len0 ≤ cap0) (hcm : cap0 ≤ 140737488351232) (hb0 : Bs w w.heap.size A0 l0) (hn0 : A0 = none → cap0 = 0) :
    Calls Try.prog 4 #[.slice A0 len0 cap0, .int .i64 area] w fun e w' => e = .returned (.bool true) ∧ Below w.heap.size w w' := by
  have mixed : Try.prog.follows .mixedOrders = true := by kernel_rfl
  obtain ⟨i0, hi0, hz0, hz1, hz2⟩ := info_parts info5
  have HL := Lib.hid hl0
  have HB := Lib.hid hb0
  have HN := Lib.hid hn0
  obtain ⟨m, hm⟩ : ∃ m, m = min len0 100 := ⟨_, rfl⟩
  have hml : m ≤ len0 := by omega
  have hm100 : m ≤ 100 := by omega
  have hmi : (if (len0 : Int) ≤ 100 then (len0 : Int) else 100) = (m : Int) := by rw [hm]; split <;> omega
  have hmi2 : (if (100 : Int) < (len0 : Int) then (100 : Int) else (len0 : Int)) = (m : Int) := by rw [hm]; split <;> omega
  have hmi3 : (if (100 : Int) ≤ (len0 : Int) then (100 : Int) else (len0 : Int)) = (m : Int) := by rw [hm]; split <;> omega
  have hmi4 : (if (len0 : Int) < 100 then (len0 : Int) else 100) = (m : Int) := by rw [hm]; split <;> omega
  clear hb0 hn0 hl0 hm
  refine (callsIn_wide (n := 9)).1 ?_
  refine callsIn_of_wp_marks Try.func4 rfl trivial ?_ rfl
  refine wpIn_wide.2 ?_
  simp only [Try.ntmps4, List.size_toArray, List.length_cons, List.length_nil, Nat.reduceAdd, Nat.reduceSub, Array.replicate_succ, Array.replicate_zero, List.push_toArray, List.append_toArray, List.nil_append, List.cons_append]
  go_wp2_with fail
  have hb1 : Below w.heap.size w (w.alloc (.cells #[.bool false] 4)) := (Below.refl _ _).alloc (Nat.le_refl _) _
  have hr1 : Row (w.alloc (.cells #[.bool false] 4)) w.heap.size 4 [.bool false] := Row.new w _ _
  generalize w.alloc (.cells #[.bool false] 4) = w1 at hb1 hr1 ⊢
  have HB1 := Lib.hid hb1
  have HR1 := Lib.hid hr1
  clear hb1 hr1
  refine (wakes_any w1).mono ?_
  rintro e w2 ⟨rfl, hb2⟩
  have HB2 := Lib.hid (HB1.out.trans (hb2.mono HB1.out.size))
  have HR2 := Lib.hid (HR1.out.below hb2 HR1.out.lt)
  clear hb2
  have OW : Hid ((w2.alloc (.cells #[] 5)).ownsRow w2.heap.size 5 1 (.slice (some ⟨w2.heap.size, 0, none⟩) 0 0) 0 []) := World.ownsRow_made w2 #[] 0 (Nat.le_refl _) (Nat.zero_le _) rfl
  have OB : Hid (Bs (w2.alloc (.cells #[] 5)) w.heap.size A0 (l0.take m)) := bs_take ((HB.out.below HB2.out).alloc HB2.out.size _) m
  have HLM : Hid ((l0.take m).length = m) := Lib.hid (by rw [List.length_take, HL.out]; omega)
  have OS : w2.heap.size ≤ (w2.alloc (.cells #[] 5)).heap.size := by simp
  go_wp2_with (at_builtin; refine wpList_append_bs (by rfl) _ _ 37 rfl w2.heap.size 5 i0 (.int .u8 0) Try.underlying37 hi0 hz0 hz1 hz2 rfl (.slice (some ⟨w2.heap.size, 0, none⟩) 0 0) 0 [] rfl OW.out A0 m cap0 (l0.take m) rfl HLM.out w.heap.size OB.out HN.out (by omega) OS ?_; intro v w3 hown3 hg3; obtain ⟨A3, c3, rfl, hl3, hn3, hc3, hA3, hbs3, _⟩ := own_bs (l := l0.take m) (by simpa using hown3); clear hown3; have HL3 := Lib.hid hl3; have HA3 := Lib.hid hA3; clear hl3 hA3)
  have hb23 : Below w2.heap.size w2 w3 := ((Below.refl _ _).alloc (Nat.le_refl _) _).grown hg3 (by simp) (fun j hj => by simp [Value.ownBlock] at hj; omega)
  have HB3 := Lib.hid (HB2.out.trans (hb23.mono HB2.out.size))
  have HR3 := Lib.hid (HR2.out.below hb23 HR2.out.lt)
  have HBO3 := Lib.hid (bs_take (HB.out.below HB3.out) m)
  have HBS3 := Lib.hid hbs3
  clear hg3 hb23 hbs3 OB OW OS
  go_wp2_with fail
  refine (format_nil area w3).mono ?_
  rintro e w4 ⟨rfl, hb4⟩
  have HB4 := Lib.hid hb4
  clear hb4
  go_wp2_with fail
  refine (open_nil w4).mono ?_
  rintro e w5 ⟨rfl, hb5⟩
  have HB5 := Lib.hid (HB4.out.trans (hb5.mono HB4.out.size))
  clear hb5 HB4
  go_wp2_with fail
  refine (all_nil w5).mono ?_
  rintro e w6 ⟨rfl, hb6, hr6⟩
  have HB36 := Lib.hid (HB5.out.trans (hb6.mono HB5.out.size))
  have HR6 := Lib.hid (HR3.out.below HB36.out HR3.out.lt)
  obtain ⟨Bf, hBf⟩ : ∃ Bf, w5.heap.size = Bf := ⟨_, rfl⟩
  rw [hBf] at hr6 ⊢
  have HRF := Lib.hid hr6
  clear hb6 hBf hr6 HB5
  go_wp2_with fail
  refine (wpIn_wide (n := 9)).1 ?_
  refine range_feeds (n := 9) (by omega) (gf := 65) (lb := #[.pointer (some ⟨Bf, 0, none⟩)]) rfl (enters_of Try.func65 (by kernel_rfl) rfl)
    (encs := encA) (G := GA) (T := TA [] w6.heap.size) (Ok := fun _ => True) (Kp := KpA (fun k => k = Bf)) (S := fun xs _ => xs.length = 0) (Sp := fun _ _ => True) ?feeds (fun h k => h.trans k) ?hKb (fun _ => rfl)
    (NnI w6) (fun _ _ => False) ?hG ?hIa ?hI ?hIx ?hIp ?hIxp ?h0 (fun _ _ _ _ => False) ?hAx ?assign ?body ?done ?stop
  case feeds => exact all_feeds Bf 8 0 none [] (fun k => k = Bf) w6 (by omega) (by decide) ⟨HRF.out.cell 0, rfl, fun k hk => by rw [hk]; exact HRF.out.lt, fun i hi => absurd hi (Nat.not_lt_zero _)⟩
  case hKb =>
    intro W l o o' hl ho hc
    exact ⟨fun k hk => World.putObj_heap_other (by have := HRF.out.lt; omega), (grownBy_putObj' W l o').size⟩
  case hG =>
    intro X Y k o hg hk ho hc
    exact (hg.block k (Array.getElem?_eq_some_iff.1 ho).1).trans ho
  case hIa =>
    rintro s W o ⟨h1, h2⟩
    exact ⟨h1, h2.alloc h2.size _⟩
  case hI =>
    rintro s X Y ⟨h1, h2⟩ hb
    exact ⟨h1, h2.trans (hb.mono h2.size)⟩
  case hIx => exact fun _ _ _ h _ => h
  case hIp =>
    rintro s W l o o' hl ho hc ⟨h1, h2⟩
    exact ⟨h1, h2.grown (grownBy_putObj' W l o') h2.size (fun q e => by have := Option.some.inj e; omega)⟩
  case hIxp => exact fun _ _ _ _ _ _ _ _ h => h
  case h0 => exact ⟨rfl, Below.refl _ _⟩
  case hAx => exact fun _ _ _ _ _ _ _ _ _ _ _ h => h
  case assign => exact fun l pre x W K ht _ _ => absurd ht.lt (Nat.not_lt_zero _)
  case body => exact fun _ _ _ _ _ _ _ _ h => h.elim
  case stop => exact fun _ _ _ _ _ _ h => h.elim
  case done =>
    rintro D xs W W' hD hS ⟨_, hb⟩ hg hdf
    have HD := Lib.hid hdf
    have HBW := Lib.hid (HB36.out.trans (hb.mono HB36.out.size))
    have HRW := Lib.hid (HR6.out.below hb HR6.out.lt)
    have HDW : Hid (w.heap.size < D) := Lib.hid (by have := HR6.out.lt; omega)
    have hc0 : W'.cell? ⟨w.heap.size, 0, none⟩ = some (.bool false) := HRW.out.cell 0
    have hf0 := HRW.out.frozen 0
    have heq := bytesEq_any A3 A0 m c3 m cap0 (l0.take m) (l0.take m) w3.heap.size w.heap.size W' HL3.out HLM.out (HBS3.out.below HBW.out) (HBO3.out.below (HBW.out.mono HB3.out.size))
    rw [show decide (l0.take m = l0.take m) = true by simp] at heq
    have HEQ := Lib.hid heq
    clear heq
    clear hdf hb hg hS HR6 HB36 HRF
    go_wp2_with fail
    refine (append_nil A3 m c3 W').mono ?_
    rintro e wx ⟨rfl, rfl⟩
    go_wp2_with fail
    refine (checkpoint_nil A3 m c3 W').mono ?_
    rintro e wx ⟨rfl, rfl⟩
    go_wp2_with fail
    refine (snapshot_nil W').mono ?_
    rintro e wx ⟨rfl, rfl⟩
    go_wp2_with fail
    refine (Wl.len_nil W').mono ?_
    rintro e wx ⟨rfl, rfl⟩
    go_wp2_with fail
    refine (Wl.left_nil W').mono ?_
    rintro e wx ⟨rfl, rfl⟩
    go_wp2_with fail
    refine (turn_nil W').mono ?_
    rintro e wx ⟨rfl, rfl⟩
    go_wp2_with fail
    refine (broken_nil W').mono ?_
    rintro e wx ⟨rfl, rfl⟩
    go_wp2_with fail
    refine (disk_nil W').mono ?_
    rintro e wx ⟨rfl, rfl⟩
    go_wp2_with fail
    refine HEQ.out.mono ?_
    rintro e wx ⟨rfl, rfl⟩
    have hset := HRW.out.store 0 (.bool true)
    have hgs := grownBy_setCell' W' w.heap.size (.bool true)
    have HST : Hid (Row (W'.setCell ⟨w.heap.size, 0, none⟩ (.bool true)) w.heap.size 4 [.bool true]) := Lib.hid (by simpa using hset)
    have HBT : Hid (Below w.heap.size w (W'.setCell ⟨w.heap.size, 0, none⟩ (.bool true))) := Lib.hid ((HB3.out.trans (HBW.out.mono HB3.out.size)).grown hgs (Nat.le_trans HB3.out.size HBW.out.size) (fun q e => by have := Option.some.inj e; omega))
    have HDT : Hid ((W'.setCell ⟨w.heap.size, 0, none⟩ (.bool true)).heap[D]? = some (.deferred (some []))) := Lib.hid ((hgs.block D (Array.getElem?_eq_some_iff.1 HD.out).1 (fun e => by have := Option.some.inj e; have := HDW.out; omega)).trans HD.out)
    clear hset hgs
    go_wp2_with fail
    generalize W'.setCell ⟨w.heap.size, 0, none⟩ (.bool true) = WT at HST HBT HDT ⊢
    refine ⟨by simp, .inl ⟨_, _, rfl, run_takeDeferred HDT.out, ?_⟩⟩
    have h2' := row_putL (ob' := .deferred none) HST.out HDT.out rfl
    have hgp := grownBy_putObj' WT D (.deferred none)
    exact ⟨.bool true, results_cell (p := 4) (ty := 4) rfl _ _ ⟨w.heap.size, 0, none⟩ _ rfl (load_bool h2'), rfl, HBT.out.grown hgp HBT.out.size (fun q e => by have := Option.some.inj e; have := HDW.out; omega)⟩

theorem resT_WalNone : Try.f4.resultTypes = #[4] := by kernel_rfl
set_option maxRecDepth 100000 in
theorem lifted_WalNone (os : Os) (started : os.Started) (H : Type) (enc : TypeId × Value → H) :
    ReturnsInHanded {} Try.checked os 4 .any (Rows.walNoneSpec.pre6 enc Try.prog Try.f4 Rows.walNoneRow.domain false) (Rows.walNoneSpec.post enc Try.prog Try.f4 false true false false) := by
  refine Lift.law_lift (C := Try.checked) (s := Rows.walNoneSpec) (tb := 4) own laidOut started (by kernel_rfl) Try.func4
    (ChangeSpec.witness6 (enc := enc) (C := Try.checked) false ⟨#[], #[.slice none 0 0, .int .i64 0], []⟩ 8 (by kernel_rfl) (by kernel_rfl) (by kernel_rfl) (by kernel_rfl))
    rfl resT_WalNone Try.underlying4 (by
      have hr : ∀ t ∈ ([37, 3] : List TypeId), Try.prog.readableRec t = true ∧ t < Try.prog.types.size := by
        intro t ht
        simp only [List.mem_cons, List.not_mem_nil, or_false] at ht
        rcases ht with rfl | rfl <;> exact ⟨by kernel_rfl, of_decide_eq_true (by kernel_rfl)⟩
      intro t ht
      exact hr t (by
        have ht' : t ∈ Try.f4.params.toList := ht
        rw [Try.params4] at ht'
        exact ht')) ?_
  intro W base args ds p hval0 hA0 hsz0
  have hval : ∀ (j : Nat) t v, Try.f4.params[j]? = some t → args[j]? = some v → Value.okWide Try.prog W .any base t v := hval0
  have hA : DataW.TrodAll enc Try.prog W 0 (fun _ => true) true Try.f4.params.toList args.toList ds p := hA0
  have hsz : (DataW.weightsEach Try.prog Try.f4.params.toList ds).all (· ≤ reachBytes) = true := hsz0
  clear hval0 hA0 hsz0
  rw [Try.params4] at hA hval hsz
  obtain ⟨v0, vs0, d0, ds0, p0, q0, hargs, rfl, rfl, h0, r0⟩ := trodAll_cons hA
  obtain ⟨v1, vs1, d1, ds1, p1, q1, rfl, rfl, rfl, h1, r1⟩ := trodAll_cons r0
  obtain ⟨rfl, rfl, rfl⟩ := trodAll_nil r1
  obtain rfl : args = #[v0, v1] := by cases args; simp_all
  obtain ⟨A0, len0, cap0, l0, rfl, hl0, hlc0, hcm0, hn0, hb0, hd0⟩ := Lift.open_bytes Try.underlying37 Try.underlying5 (by kernel_rfl) (hval 0 37 v0 rfl rfl) h0
  have hc0 : cap0 ≤ 140737488351232 := Lift.bytes_reach bytes1 hsz (j := 0) rfl rfl Try.underlying37 hd0
  obtain ⟨a1, rfl, rfl, rfl, w1⟩ := open_int Try.underlying3 (hval 1 3 v1 rfl rfl) h1
  exact ⟨rfl, walk A0 len0 cap0 l0 a1 W hl0 hlc0 hc0 hb0 hn0⟩

theorem proved_WalNone : Rows.WalNoneSaid :=
  OpenClaim.holds_of_wide 4 Try.f4 rfl rfl rfl rfl rfl rfl rfl ⟨rfl, rfl, rfl, rfl, rfl⟩ rfl rfl rfl rfl rfl (by kernel_rfl) Try.func4 (by kernel_rfl)
    (of_decide_eq_true (by kernel_rfl)) (by unfold Func.isWrapper; first | (rw [if_pos (by decide +kernel)]; kernel_rfl) | (rw [if_neg (by decide +kernel)]; exact ⟨rfl, rfl⟩))
    (fun os started H enc _ => lifted_WalNone os started H enc)
end Go.Proofs.Ytchagomphpfimaa.WalNon
