/-
  HeapPages: what pages have, where the next one goes, and which rows there are; for every pages and rows. No condition.
-/
import Derived.Test.YtnojkoefdigcnaaHp8
import Derived.Test.YtnojkoefdigcnaaHpO
import Derived.Test.YtnojkoefdigcnaaHpS
import Derived.Test.YtnojkoefdigcnaaHpV
import Derived.Test.YtnojkoefdigcnaaHpR
import Derived.Test.YtnojkoefdigcnaaHpP
import Derived.Test.YtnojkoefdigcnaaHpI
import Derived.Test.YtnojkoefdigcnaaHpW
import Derived.Test.YtnojkoefdigcnaaHpX
import Derived.Test.YtnojkoefdigcnaaHpZ
import Derived.Deep.RegionHeld
import Derived.Deep.Cut
import Derived.Deep.CutRange
import Derived.Deep.CutBlock
import Derived.LoopTactic
import Derived.BigQuiet
import Derived.WalkLawsBesides
namespace Go.Proofs.Ytnojkoefdigcnaa.HeapPages
set_option maxRecDepth 100000
open Go.RowKit Go.ChangeShapes Go.WideShapes Go.ChangeAt Go.Proofs.Ytnojkoefdigcnaa.Pg Go.Proofs.Ytnojkoefdigcnaa.Rec Go.Proofs.Ytnojkoefdigcnaa.Wd Go.Proofs.Ytnojkoefdigcnaa.Wi Go.Proofs.Ytnojkoefdigcnaa.Ky Go.Proofs.Ytnojkoefdigcnaa.Oct Go.Proofs.Ytnojkoefdigcnaa.Lift Go.Proofs.Ytnojkoefdigcnaa.Hp

theorem own : ownKnob Try.prog.godebug = none := by kernel_rfl
theorem laidOut : laidOutB Try.prog = true := by kernel_rfl
theorem bytes1 : Try.prog.bytesOf 5 = 1 := by kernel_rfl

theorem itL_ref {ms : List PM} (h : itE ms = 0) : refI ms = itL ms := by
  unfold refI itL
  rw [if_pos h, List.filter_eq_self]
  intro x hx
  unfold itE at h
  split at h
  · split at h
    · rename_i h2
      rw [List.all_eq_true] at h2
      exact h2 x hx
    · cases h
  · cases h
theorem vers_ref (ms : List PM) (row : Nat) : (refI ms).filter (fun x => !otherB row x && decide (itE ms = 0)) = (itL ms).filter (fun x => !otherB row x) := by
  by_cases h : itE ms = 0
  · rw [itL_ref h]
    congr 1
    funext x
    simp [h]
  · have h2 : itL ms = [] := by unfold itL; rw [if_neg h]
    rw [h2]
    simp [h]
structure U32s (W : World) (B : Nat) (A : Option Addr) (xs : List Nat) : Prop where
  at_ : ∀ (k x : Nat), xs[k]? = some x → ∃ b o, A = some ⟨b, o, none⟩ ∧ b < B ∧ W.cell? ⟨b, o + k, none⟩ = some (.int .u32 (x : Int))
section
variable {H : Type} {enc : TypeId × Value → H} {P : Program}
theorem open_u32s {W : World} {base : Nat} {t e : TypeId} {v : Value} {d : DataW H} {ps : List MemPlace} (ht : P.underlying t = some (.slice e)) (he : P.underlying e = some (.int .u32)) (hc : P.cellsOf e = 1)
    (hval : Value.okWide P W .any base t v) (h : DataW.Trod enc P W 0 (fun _ => true) true t v d ps) :
    ∃ A len cap xs, v = .slice A len cap ∧ xs.length = len ∧ U32s W W.heap.size A xs := by
  obtain ⟨a0, len0, cap0, rfl⟩ := okWide_slice ht hval
  obtain ⟨fuel, hf⟩ := h
  rcases open_ints ht he hc hf with ⟨hcs, _⟩ | ⟨x, l, c, zs, hcs, _, hl, hm, hz, hx, hcell, hwz⟩
  · simp [Value.cells] at hcs
    obtain ⟨rfl, rfl, rfl⟩ := hcs
    exact ⟨none, 0, 0, [], rfl, rfl, ⟨fun k x h => by cases h⟩⟩
  · simp [Value.cells] at hcs
    obtain ⟨rfl, rfl, rfl⟩ := hcs
    have hz' : zs.length = cap0 := by simpa using hz
    have hw' : ∀ z ∈ zs, 0 ≤ z := fun z hzm => by
      have := hwz z hzm
      have h2 : 0 ≤ z ∧ z ≤ 4294967295 := by simpa [Lit.wf, IntKind.min, IntKind.max, IntKind.signed, IntKind.bits] using this
      exact h2.1
    refine ⟨some x, len0, cap0, (zs.take len0).map Int.toNat, rfl, by simp; omega, ⟨fun k y hk => ?_⟩⟩
    rw [List.getElem?_map] at hk
    have hkl : k < len0 := by
      by_cases hh : k < len0
      · exact hh
      · rw [List.getElem?_eq_none (by simp; omega)] at hk; cases hk
    have h1 := hcell k (by omega)
    obtain ⟨b, off, spot⟩ := x
    have hc0 := hcell 0 (by omega)
    have hspot : spot = none := by simpa [Addr.add] using World.cell?_spot hc0
    subst hspot
    rw [Addr.add_lit] at h1
    have hkz : k < zs.length := by omega
    rw [List.getElem?_take, if_pos hkl, List.getElem?_eq_getElem hkz] at hk
    refine ⟨b, off, rfl, World.block_lt_of_cell? W _ h1, ?_⟩
    rw [h1]
    have e2 : zs.getD k 0 = zs[k] := by simp [List.getD_eq_getElem?_getD, hkz]
    rw [e2]
    simp only [Option.map_some, Option.some.injEq] at hk
    rw [← hk, Int.toNat_of_nonneg (hw' _ (List.getElem_mem hkz))]
end
/-- what Room answers, by letters -/
def RoomX (W : World) (E : Int) (m : Nat) (rm : List Nat) (e : Ending) (w' : World) : Prop := ∃ RA rn, e = .returned (.tuple #[.slice RA rn rn, .int .i64 E]) ∧ Hid (¬ E = 0 → rn = 0) ∧ Hid (E = 0 → rn = m ∧ ∃ g, RA = some ⟨g, 0, none⟩ ∧ W.heap.size ≤ g ∧ Row w' g 3 (ivals rm)) ∧ Below W.heap.size W w'
theorem room_x {W w' : World} {l : List PM} {m : Nat} {e : Ending} (h : RoomR W l e w') (hm : l.length = m) : RoomX W (itE l) m (roomM l) e w' := by
  rcases h with ⟨h1, rfl, hb⟩ | ⟨h1, g, rfl, hg, hr, hb⟩
  · exact ⟨none, 0, rfl, Lib.hid (fun _ => rfl), Lib.hid (fun h => absurd h h1), hb⟩
  · rw [hm, h1]
    exact ⟨_, m, rfl, Lib.hid (fun h => absurd rfl h), Lib.hid (fun _ => ⟨rfl, g, rfl, hg, hr⟩), hb⟩
def RefX (W : World) (R : List EH) (e : Ending) (w' : World) : Prop := ∃ A c m, e = .returned (.slice A m c) ∧ Hid (m = R.length) ∧ OwnI w' W.heap.size (.slice A m c) R ∧ Below W.heap.size W w'
def VerX (W : World) (L : List EH) (E : Int) (row : Nat) (e : Ending) (w' : World) : Prop := ∃ A m c, e = .returned (.tuple #[.slice A m c, .int .i64 E]) ∧ Hid (m = (L.filter (fun x => !otherB row x)).length) ∧ OwnI w' W.heap.size (.slice A m c) (L.filter (fun x => !otherB row x)) ∧ Below W.heap.size W w'
def ItX (W : World) (L : List EH) (E : Int) (e : Ending) (w' : World) : Prop := ∃ A c, e = .returned (.tuple #[.slice A L.length c, .int .i64 E]) ∧ OwnI w' W.heap.size (.slice A L.length c) L ∧ Below W.heap.size W w'
def RRoomX (W : World) (rm : List Nat) (m : Nat) (e : Ending) (w' : World) : Prop := ∃ A c, e = .returned (.slice A m c) ∧ w'.ownsRow W.heap.size 3 1 (.slice A m c) m (ivals rm) ∧ Below W.heap.size W w'
theorem roomM_len (l : List PM) : (roomM l).length = l.length := by simp [roomM]
theorem at8 {k : Nat} (h : ¬ k = 8) : ¬ (k : Int) = 8 := by omega
theorem filter_next {L : List EH} {F : EH → Bool} {k : Nat} {x : EH} (h : L[k]? = some x) : (L.take (k + 1)).filter F = (L.take k).filter F ++ (if F x then [x] else []) := by
  obtain ⟨hk, rfl⟩ := List.getElem?_eq_some_iff.1 h
  rw [List.take_succ_eq_append_getElem hk, List.filter_append, List.filter_cons, List.filter_nil]
set_option maxHeartbeats 16000000 in
theorem walk (l : List PX) (A : Option Addr) (n c : Nat) (rs : List Nat) (A2 : Option Addr) (n2 c2 : Nat) (w : World) (hn : l.length = n) (hP : Pgs w w.heap.size A l) (hn2 : rs.length = n2) (hU : U32s w w.heap.size A2 rs) :
    Calls Try.prog 4 #[.slice A n c, .slice A2 n2 c2] w fun e w' => e = .returned (.bool true) ∧ Below w.heap.size w w' := by
  have HW := Lib.hid wakes_any
  have HSH := Lib.hid (fun (W : World) (hb : Below w.heap.size w W) => short_any l A n c W hn ((hP.below hb).more hb.size))
  have HN2 := Lib.hid hn2
  have HU := Lib.hid hU
  clear hn hP hn2 hU
  generalize l.map pmOf = ms at HSH
  go_enter Try.func4, Try.ntmps4
  go_wp2_with fail
  refine (HW.out _).mono ?_
  rintro e w1 ⟨rfl, hb⟩
  have B1 := Lib.hid hb
  clear hb HW
  go_wp2_with fail
  refine (HSH.out _ B1.out).mono ?_
  rintro e w2 ⟨A5, c5, xs, rfl, hps, hmap, hb⟩
  have B2 := Lib.hid (B1.out.trans (hb.mono B1.out.size))
  clear hb
  have hlx : xs.length ≤ 33 := by
    have := congrArg List.length hmap
    simp only [List.length_map, List.length_take] at this
    omega
  obtain ⟨m, hm⟩ : ∃ m, m = xs.length := ⟨_, rfl⟩
  rw [← hm] at hps hlx ⊢
  have HM := Lib.hid hm.symm
  have HPS := Lib.hid hps
  have HMP := Lib.hid hmap
  clear hm hps hmap
  go_wp2_with fail
  refine (HSH.out _ B2.out).mono ?_
  rintro e w3 ⟨A6, c6, ys, rfl, hps2, hmap2, hb⟩
  have B3 := Lib.hid (B2.out.trans (hb.mono B2.out.size))
  have HYX : Hid (ys.map pmOf = xs.map pmOf) := Lib.hid (hmap2.trans HMP.out.symm)
  have hly : ys.length = m := by
    have := congrArg List.length HYX.out
    simpa [HM.out] using this
  rw [hly] at hps2 ⊢
  have HMY := Lib.hid hly
  have HPS3 := Lib.hid (HPS.out.below hb)
  have HPY := Lib.hid hps2
  have HLN := Lib.hid HPS3.out.lens
  clear hps2 hmap2 hb HSH HMP HPS B1 B2 hly
  have D3 : Hid (Below w3.heap.size w3 w3) := Lib.hid (Below.refl _ _)
  obtain ⟨ns, hns⟩ : ∃ ns, ns = xs.map pmOf := ⟨_, rfl⟩
  have HNL : Hid (ns.length = m) := Lib.hid (by rw [hns, List.length_map, HM.out])
  have HWR : Hid (∀ (W : World), Below w3.heap.size w3 W → Calls Try.prog 17 #[.slice A6 m c6] W fun e w' => e = .returned (.int .i64 (itE ns)) ∧ Below W.heap.size W w') := Lib.hid (fun W hb => by have := wrong_any ys A6 m c6 W HMY.out (by omega) ((HPY.out.below hb).pgs HMY.out); rw [HYX.out, ← hns] at this; exact this)
  have HPL : Hid (∀ (W : World), Below w3.heap.size w3 W → Calls Try.prog 18 #[.slice A5 m c5] W fun e w' => e = .returned (.tuple #[.agg #[.int .i64 (placeV ns).1, .int .i64 (placeV ns).2.1], .int .i64 (placeV ns).2.2]) ∧ Below W.heap.size W w') := Lib.hid (fun W hb => by have := place_any xs A5 m c5 W HM.out (by omega) ((HPS3.out.below hb).pgs HM.out) HLN.out; rw [← hns] at this; exact this)
  have HRM : Hid (∀ (W : World), Below w3.heap.size w3 W → Calls Try.prog 19 #[.slice A5 m c5] W (RoomX W (itE ns) m (roomM ns))) := Lib.hid (fun W hb => by have := room_any xs A5 m c5 W HM.out (by omega) ((HPS3.out.below hb).pgs HM.out) HLN.out; rw [← hns] at this; exact this.mono fun e w' h => room_x h HNL.out)
  have HIT : Hid (∀ (W : World), Below w3.heap.size w3 W → Calls Try.prog 20 #[.slice A5 m c5] W (ItX W (itL ns) (itE ns))) := Lib.hid (fun W hb => by have := items_any xs A5 m c5 W HM.out (by omega) ((HPS3.out.below hb).pgs HM.out) HLN.out; rw [← hns] at this; exact this)
  have HNX : Hid (∀ (W : World), Below w3.heap.size w3 W → Calls Try.prog 21 #[.slice A5 m c5] W fun e w' => e = .returned (.tuple #[.int .u32 (nextV ns).1, .int .i64 (nextV ns).2]) ∧ Below W.heap.size W w') := Lib.hid (fun W hb => by have := next_any xs A5 m c5 W HM.out (by omega) ((HPS3.out.below hb).pgs HM.out) HLN.out; rw [← hns] at this; exact this)
  have HWH : Hid (∀ (W : World), Below w3.heap.size w3 W → Calls Try.prog 22 #[.slice A5 m c5, .slice A6 m c6] W fun e w' => e = .returned (.bool true) ∧ Below W.heap.size W w') := Lib.hid (fun W hb => whole_true xs ys A5 A6 m c5 c6 W HM.out (by omega) HYX.out.symm ((HPS3.out.below hb).pgs HM.out) ((HPY.out.below hb).pgs HMY.out))
  have HVR : Hid (∀ (row : Nat) (W : World), Below w3.heap.size w3 W → Calls Try.prog 23 #[.slice A5 m c5, .int .u32 (row : Int)] W (VerX W (itL ns) (itE ns) row)) := Lib.hid (fun row W hb => by have := versions_any xs A5 m c5 row W HM.out (by omega) ((HPS3.out.below hb).pgs HM.out) HLN.out; rw [← hns] at this; exact this)
  have HRI : Hid (∀ (W : World), Below w3.heap.size w3 W → Calls Try.prog 24 #[.slice A6 m c6] W (RefX W (refI ns))) := Lib.hid (fun W hb => by have := ritems_any ys A6 m c6 W HMY.out (by omega) ((HPY.out.below hb).pgs HMY.out); rw [HYX.out, ← hns] at this; exact this)
  have HRP : Hid (∀ (W : World), Below w3.heap.size w3 W → Calls Try.prog 26 #[.slice A6 m c6] W fun e w' => e = .returned (.tuple #[.agg #[.int .i64 (placeR ns).1, .int .i64 (placeR ns).2.1], .bool (placeR ns).2.2]) ∧ Below W.heap.size W w') := Lib.hid (fun W hb => by have := rplace_any ys A6 m c6 W HMY.out (by omega) ((HPY.out.below hb).pgs HMY.out); rw [HYX.out, ← hns] at this; exact this)
  have HRR : Hid (∀ (W : World), Below w3.heap.size w3 W → Calls Try.prog 27 #[.slice A6 m c6] W (RRoomX W (roomM ns) m)) := Lib.hid (fun W hb => by have := rroom_any ys A6 m c6 W HMY.out (by omega) ((HPY.out.below hb).pgs HMY.out); rw [HYX.out, ← hns] at this; unfold RRoomR at this; rw [HNL.out] at this; exact this)
  have HEP : Hid (placeV ns = if itE ns = 0 then (match placeM ns with | some q => (q.1, q.2, 0) | none => (0, 0, 6)) else (0, 0, itE ns)) := Lib.hid rfl
  have HER : Hid (placeR ns = match placeM ns with | some q => (q.1, q.2, true) | none => (0, 0, false)) := Lib.hid rfl
  have HNV : Hid (nextV ns = if itE ns = 0 then (if topM (itL ns) = 4294967295 then (0, 6) else ((topM (itL ns) : Int) + 1, 0)) else (0, itE ns)) := Lib.hid rfl
  have HTL := Lib.hid (top_lt (itL ns) (fun x hx => itL_r hx))
  have HLL : Hid ((itL ns).length ≤ 1000) := Lib.hid (by have := itL_len ns; rw [HNL.out] at this; omega)
  have HRL : Hid ((refI ns).length ≤ 1000) := Lib.hid (by have := refI_len ns; rw [HNL.out] at this; omega)
  have HL0 : Hid (¬ itE ns = 0 → itL ns = []) := Lib.hid (fun h => by unfold itL; rw [if_neg h])
  have HRF : Hid (itE ns = 0 → refI ns = itL ns) := Lib.hid itL_ref
  have HVF := Lib.hid (vers_ref ns)
  have HRML : Hid ((roomM ns).length = m) := Lib.hid (by rw [roomM_len, HNL.out])
  clear HM HMY HPS3 HPY HYX HLN hns HNL
  obtain ⟨⟨v1, v2⟩, hv⟩ : ∃ V, V = nextV ns := ⟨_, rfl⟩
  rw [← hv] at HNV HNX
  clear hv
  obtain ⟨⟨pa, pb, pe⟩, hv⟩ : ∃ V, V = placeV ns := ⟨_, rfl⟩
  rw [← hv] at HEP HPL
  clear hv
  obtain ⟨⟨qa, qb, qo⟩, hv⟩ : ∃ V, V = placeR ns := ⟨_, rfl⟩
  rw [← hv] at HER HRP
  clear hv
  dsimp only at HNX HPL HRP
  generalize placeM ns = pm at HEP HER
  generalize itL ns = L at *
  generalize refI ns = R at *
  generalize roomM ns = rm at *
  generalize itE ns = E at *
  go_wp2_with fail
  refine (HWR.out _ D3.out).mono ?_
  rintro e w4 ⟨rfl, hb⟩
  have D4 := Lib.hid (D3.out.trans (hb.mono D3.out.size))
  clear hb D3 HWR
  go_wp2_with fail
  refine (HPL.out _ D4.out).mono ?_
  rintro e w5 ⟨rfl, hb⟩
  have D5 := Lib.hid (D4.out.trans (hb.mono D4.out.size))
  clear hb D4 HPL
  go_upto_region 6 with fail
  have HSP : Hid (Row (w5.alloc (.cells #[.int .i64 pa, .int .i64 pb] 49)) w5.heap.size 49 [.int .i64 pa, .int .i64 pb]) := Lib.hid (Row.new _ _ _)
  have D6 : Hid (Below w3.heap.size w3 (w5.alloc (.cells #[.int .i64 pa, .int .i64 pb] 49))) := Lib.hid (D5.out.alloc D5.out.size _)
  obtain ⟨gs, hgs⟩ : ∃ g, g = w5.heap.size := ⟨_, rfl⟩
  rw [← hgs] at HSP ⊢
  generalize w5.alloc (.cells #[.int .i64 pa, .int .i64 pb] 49) = w6 at HSP D6 ⊢
  clear hgs D5
  go_wp2_with fail
  refine (HRM.out _ D6.out).mono ?_
  rintro e w7 ⟨RA, rn, rfl, HR1, HR0, hb⟩
  have D7 := Lib.hid (D6.out.trans (hb.mono D6.out.size))
  have HSP7 := Lib.hid (HSP.out.below hb HSP.out.lt)
  clear hb D6 HRM HSP
  go_wp2_with fail
  refine (HIT.out _ D7.out).mono ?_
  rintro e w8 ⟨A12, c12, rfl, ho, hb⟩
  have D8 := Lib.hid (D7.out.trans (hb.mono D7.out.size))
  have HSP8 := Lib.hid (HSP7.out.below hb HSP7.out.lt)
  have HR8 : Hid (E = 0 → rn = m ∧ ∃ g, RA = some ⟨g, 0, none⟩ ∧ Row w8 g 3 (ivals rm)) := Lib.hid (fun h => by
    obtain ⟨h1, g, h2, -, h4⟩ := HR0.out h
    exact ⟨h1, g, h2, h4.below hb h4.lt⟩)
  obtain ⟨nl, hnl⟩ : ∃ nl, nl = L.length := ⟨_, rfl⟩
  have ho2 := ho
  rw [← hnl] at ho2 ⊢
  have HNL := Lib.hid hnl.symm
  have hnl1 : nl ≤ 1000 := by rw [hnl]; exact HLL.out
  have HO := Lib.hid ho2
  clear hb ho ho2 hnl D7 HIT HSP7 HR0
  go_wp2_with fail
  refine (HNX.out _ D8.out).mono ?_
  rintro e w9 ⟨rfl, hb⟩
  have D9 := Lib.hid (D8.out.trans (hb.mono D8.out.size))
  have HSP9 := Lib.hid (HSP8.out.below hb HSP8.out.lt)
  have HR9 : Hid (E = 0 → rn = m ∧ ∃ g, RA = some ⟨g, 0, none⟩ ∧ Row w9 g 3 (ivals rm)) := Lib.hid (fun h => by
    obtain ⟨h1, g, h2, h4⟩ := HR8.out h
    exact ⟨h1, g, h2, h4.below hb h4.lt⟩)
  have HO9 := Lib.hid (ownS_below HO.out hb)
  clear hb D8 HNX HSP8 HR8 HO
  go_wp2_with fail
  refine (HWH.out _ D9.out).mono ?_
  rintro e wx ⟨rfl, hb⟩
  have D0 := Lib.hid (D9.out.trans (hb.mono D9.out.size))
  have HSP0 := Lib.hid (HSP9.out.below hb HSP9.out.lt)
  have HR00 : Hid (E = 0 → rn = m ∧ ∃ g, RA = some ⟨g, 0, none⟩ ∧ Row wx g 3 (ivals rm)) := Lib.hid (fun h => by
    obtain ⟨h1, g, h2, h4⟩ := HR9.out h
    exact ⟨h1, g, h2, h4.below hb h4.lt⟩)
  have HO0 := Lib.hid (ownS_below HO9.out hb)
  clear hb D9 HWH HSP9 HR9 HO9
  have DX : Hid (Below wx.heap.size wx wx) := Lib.hid (Below.refl _ _)
  go_upto_block 0 with fail
  go_cut [60] from 16 to 107 (fun t wq => t = .bool true ∧ Below wx.heap.size wx wq)
  case first =>
    go_wp2_with fail
    go_loopw [64] (fun i wr => ∃ k : Nat, k ≤ n2 ∧ k ≤ 8 ∧ i = .int .i64 (k : Int) ∧ Hid (Below wx.heap.size wx wr)) (fun i _ => n2 - (intOf i).toNat)
    case atStart => exact ⟨0, by omega, by omega, rfl, DX⟩
    case round =>
      obtain ⟨k, hk, hk8, rfl, HD⟩ := hrel
      clear DX
      by_cases hlt : k < n2
      case neg =>
        have h1 : ¬ (k : Int) < (n2 : Int) := by omega
        go_wp2_with fail
        go_meet
        exact ⟨rfl, HD.out⟩
      have h1 : (k : Int) < (n2 : Int) := by omega
      obtain ⟨row, hx⟩ : ∃ x, rs[k]? = some x := ⟨_, List.getElem?_eq_getElem (by rw [HN2.out]; exact hlt)⟩
      obtain ⟨b_, o_, rfl, hblt, c00⟩ := HU.out.at_ k row hx
      have D3R := Lib.hid (D0.out.trans (HD.out.mono D0.out.size))
      have c0 : wr.cell? ⟨b_, o_ + k, none⟩ = some (.int .u32 (row : Int)) := ((B3.out.trans (D3R.out.mono B3.out.size)).cell (p := ⟨b_, o_ + k, none⟩) hblt).trans c00
      clear hx hblt c00
      by_cases h8 : k = 8
      · have h8i : ((k : Int) == 8) = true := by rw [h8]; rfl
        clear h8
        go_wp2_with fail
        go_meet
        exact ⟨rfl, HD.out⟩
      have h8i := at8 h8
      have hk7 : k ≤ 7 := by omega
      clear h8
      go_wp2_with fail
      clear c0
      refine (HVR.out row _ D3R.out).mono ?_
      rintro e wa ⟨Av, mv, cv, rfl, HMV, hov, hb⟩
      have D3A := Lib.hid (D3R.out.trans (hb.mono D3R.out.size))
      have DA := Lib.hid (HD.out.trans (hb.mono HD.out.size))
      have HOV := Lib.hid hov
      clear hb hov D3R HD
      go_wp2_with fail
      refine (HRI.out _ D3A.out).mono ?_
      rintro e wb ⟨Ar, cr, mr, rfl, HMR, hor, hb⟩
      have DB := Lib.hid (DA.out.trans (hb.mono DA.out.size))
      have HOV2 := Lib.hid (ownS_below HOV.out hb)
      have HOR := Lib.hid hor
      have hmr : mr ≤ 1000 := by rw [HMR.out]; exact HRL.out
      clear hb hor D3A DA HOV
      have HF := Lib.hid (HVF.out row)
      have HFX : Hid (∀ x : EH, (!otherB row x && decide (E = 0)) = (decide (x.t.r = row) && decide (E = 0))) := Lib.hid (fun x => by unfold otherB; by_cases h : x.t.r = row <;> simp [h])
      generalize hFF : (fun x => !otherB row x && decide (E = 0)) = F at HF
      have HFX2 : Hid (∀ x : EH, F x = (decide (x.t.r = row) && decide (E = 0))) := Lib.hid (fun x => by rw [← hFF]; exact HFX.out x)
      clear HFX hFF
      generalize L.filter (fun x => !otherB row x) = VL at HF HMV HOV2
      go_wp2_with fail
      have DBB : Hid (Below wb.heap.size wb wb) := Lib.hid (Below.refl _ _)
      have HU0 : Hid (OwnI wb wb.heap.size (.slice none 0 0) ((R.take 0).filter F)) := Lib.hid ⟨rfl, .inl ⟨rfl, rfl⟩⟩
      go_loopw [20, 80] (fun t i wr => ∃ (j : Nat) (u : Value), j ≤ mr ∧ i = .int .i64 (j : Int) ∧ t = u ∧ Hid (OwnI wr wb.heap.size u ((R.take j).filter F)) ∧ Hid (Below wb.heap.size wb wr)) (fun _ i _ => mr - (intOf i).toNat)
      case atStart => exact ⟨0, _, by omega, rfl, rfl, HU0, DBB⟩
      case round =>
        obtain ⟨j, u, hj, rfl, hu', HV, HI⟩ := hrel
        subst hu'
        clear DBB HU0
        by_cases hlj : j < mr
        case neg =>
          have h2 : ¬ (j : Int) < (mr : Int) := by omega
          have HV2 := HV
          rw [List.take_of_length_le (by rw [← HMR.out]; omega), HF.out] at HV2
          obtain ⟨Au, cu, hu, -, -, -⟩ := ownS_slice HV2.out
          subst hu
          have hmv := HMV.out
          subst hmv
          have HOV3 := Lib.hid (ownS_below HOV2.out HI.out)
          have DR := Lib.hid (DB.out.trans (HI.out.mono DB.out.size))
          obtain ⟨mv, hmv⟩ : ∃ mv, mv = VL.length := ⟨_, rfl⟩
          have hVL : mv ≤ 1000 := by
            rw [hmv, ← HF.out]
            exact Nat.le_trans (List.length_filter_le _ _) HRL.out
          have HSM := Lib.hid (rsame_true VL Av Au mv cv cu _ _ _ hmv.symm (by omega) (by rw [hmv]; exact HOV3.out) (by rw [hmv]; exact HV2.out))
          rw [← hmv] at ⊢
          have hEE : (E != E) = false := by simp
          clear HV HV2 HOV2 HOV3 HI HF HFX2 HMV HMR hmv DB
          go_wp2_with fail
          refine HSM.out.mono ?_
          rintro e wd ⟨rfl, hb⟩
          have DR2 := Lib.hid (DR.out.trans (hb.mono DR.out.size))
          clear hb HSM DR
          go_wp2_with fail
          go_roundw
          case rel => exact ⟨k + 1, by omega, by omega, by go_num, DR2⟩
          case measure => simp [intOf]; omega
        have h2 : (j : Int) < (mr : Int) := by omega
        obtain ⟨x, hx⟩ : ∃ x, R[j]? = some x := ⟨_, List.getElem?_eq_getElem (by rw [← HMR.out]; exact hlj)⟩
        obtain ⟨g, rfl, hgb, hgl, -, hc⟩ := ownI_at (ownS_below HOR.out HI.out) hx
        have HFN := Lib.hid (filter_next (F := F) hx)
        have HFX := Lib.hid (HFX2.out x)
        have HWA : Hid (Below wr.heap.size wr (wr.alloc (.cells x.cells.toArray 64))) := Lib.hid ((Below.refl _ _).alloc (Nat.le_refl _) _)
        have HRX : Hid (Row (wr.alloc (.cells x.cells.toArray 64)) wr.heap.size 64 x.cells) := Lib.hid (Row.new _ _ _)
        obtain ⟨x1, x2, ⟨r, a, b, x0, z1, y0, y1, v⟩, xe⟩ := x
        have c0 : wr.cell? ⟨g, j * 10, none⟩ = some (.int .i64 x1) := hc 0 _ rfl
        have c1 : wr.cell? ⟨g, j * 10 + 1, none⟩ = some (.int .i64 (x2 : Int)) := hc 1 _ rfl
        have c2 : wr.cell? ⟨g, j * 10 + 2, none⟩ = some (.int .u32 (r : Int)) := hc 2 _ rfl
        have c3 : wr.cell? ⟨g, j * 10 + 3, none⟩ = some (.int .u64 (a : Int)) := hc 3 _ rfl
        have c4 : wr.cell? ⟨g, j * 10 + 4, none⟩ = some (.int .u64 (b : Int)) := hc 4 _ rfl
        have c5 : wr.cell? ⟨g, j * 10 + 5, none⟩ = some (.int .i64 x0) := hc 5 _ rfl
        have c6 : wr.cell? ⟨g, j * 10 + 6, none⟩ = some (.int .i64 z1) := hc 6 _ rfl
        have c7 : wr.cell? ⟨g, j * 10 + 7, none⟩ = some (.int .i64 y0) := hc 7 _ rfl
        have c8 : wr.cell? ⟨g, j * 10 + 8, none⟩ = some (.int .i64 y1) := hc 8 _ rfl
        have c9 : wr.cell? ⟨g, j * 10 + 9, none⟩ = some (.int .i64 v) := hc 9 _ rfl
        clear hc hgb hgl hx
        dsimp only at HFX
        unfold EH.cells Tu.cells at HWA HRX
        dsimp only at HWA HRX
        go_upto_region 20 with fail
        clear c0 c1 c2 c3 c4 c5 c6 c7 c8 c9
        generalize wr.alloc (.cells #[.int .i64 x1, .int .i64 (x2 : Int), .int .u32 (r : Int), .int .u64 (a : Int), .int .u64 (b : Int), .int .i64 x0, .int .i64 z1, .int .i64 y0, .int .i64 y1, .int .i64 v] 64) = wn at HWA HRX ⊢
        obtain ⟨gx, hgx⟩ : ∃ g, g = wr.heap.size := ⟨_, rfl⟩
        rw [← hgx] at HRX ⊢
        clear hgx
        have HIN := Lib.hid (HI.out.trans (HWA.out.mono HI.out.size))
        have HVN := Lib.hid (ownS_below HV.out HWA.out)
        clear HI HV HWA
        have q0 := HRX.out.cell 0
        have q1 := HRX.out.cell 1
        have q2 := HRX.out.cell 2
        have q3 := HRX.out.cell 3
        have q4 := HRX.out.cell 4
        have q5 := HRX.out.cell 5
        have q6 := HRX.out.cell 6
        have q7 := HRX.out.cell 7
        have q8 := HRX.out.cell 8
        have q9 := HRX.out.cell 9
        simp only [List.getElem?_cons_zero, List.getElem?_cons_succ] at q0 q1 q2 q3 q4 q5 q6 q7 q8 q9
        by_cases hr : r = row
        case neg =>
          have hri : ((r : Int) == (row : Int)) = false := by rw [beq_eq_false_iff_ne]; omega
          have hq : F ⟨x1, x2, ⟨r, a, b, x0, z1, y0, y1, v⟩, xe⟩ = false := by rw [HFX.out]; simp [hr]
          have HVM := HVN
          rw [show List.filter F (List.take j R) = List.filter F (List.take (j + 1) R) by rw [HFN.out, hq]; simp] at HVM
          clear hr hq HVN HFN HFX
          go_wp2_with fail
          go_roundw
          case rel => exact ⟨j + 1, _, by omega, by go_num, rfl, HVM, HIN⟩
          case measure => simp [intOf]; omega
        subst hr
        by_cases he : E = 0
        case neg =>
          have hri : ((r : Int) == (r : Int)) = true := by simp
          have hei : (E == 0) = false := by simpa using he
          have hq : F ⟨x1, x2, ⟨r, a, b, x0, z1, y0, y1, v⟩, xe⟩ = false := by rw [HFX.out]; simp [he]
          have HVM := HVN
          rw [show List.filter F (List.take j R) = List.filter F (List.take (j + 1) R) by rw [HFN.out, hq]; simp] at HVM
          clear he hq HVN HFN HFX
          go_wp2_with fail
          go_roundw
          case rel => exact ⟨j + 1, _, by omega, by go_num, rfl, HVM, HIN⟩
          case measure => simp [intOf]; omega
        subst he
        have hq : F ⟨x1, x2, ⟨r, a, b, x0, z1, y0, y1, v⟩, xe⟩ = true := by rw [HFX.out]; simp
        rw [hq, if_pos rfl] at HFN
        have HLX : Hid ((List.filter F (List.take j R)).length ≤ 100000) := Lib.hid (by
          have h5 := List.length_filter_le F (List.take j R)
          rw [List.length_take] at h5
          omega)
        generalize List.filter F (List.take j R) = X at HVN HLX HFN
        clear hq HFX
        obtain ⟨Av2, cv2, hu, -, -, -⟩ := ownS_slice HVN.out
        subst hu
        have hwb : Below wn.heap.size wn (wn.alloc (.cells #[.int .i64 x1, .int .i64 (x2 : Int), .int .u32 (r : Int), .int .u64 (a : Int), .int .u64 (b : Int), .int .i64 x0, .int .i64 z1, .int .i64 y0, .int .i64 y1, .int .i64 v] 64)) := (Below.refl _ _).alloc (Nat.le_refl _) _
        have HV7 := Lib.hid (ownS_below HVN.out hwb)
        have HI7 := Lib.hid (HIN.out.trans (hwb.mono HIN.out.size))
        have HCL : Hid (∀ jj u, (EH.cells ⟨x1, x2, ⟨r, a, b, x0, z1, y0, y1, v⟩, xe⟩)[jj]? = some u → (wn.alloc (.cells #[.int .i64 x1, .int .i64 (x2 : Int), .int .u32 (r : Int), .int .u64 (a : Int), .int .u64 (b : Int), .int .i64 x0, .int .i64 z1, .int .i64 y0, .int .i64 y1, .int .i64 v] 64)).cell? ((⟨wn.heap.size, 0, none⟩ : Addr).add jj) = some u) := Lib.hid (fun jj u hu => by
          rw [Addr.add_lit, Nat.zero_add]
          exact ((Row.new wn 64 [.int .i64 x1, .int .i64 (x2 : Int), .int .u32 (r : Int), .int .u64 (a : Int), .int .u64 (b : Int), .int .i64 x0, .int .i64 z1, .int .i64 y0, .int .i64 y1, .int .i64 v]).cell jj).trans hu)
        have HS7 : Hid (wb.heap.size ≤ (wn.alloc (.cells #[.int .i64 x1, .int .i64 (x2 : Int), .int .u32 (r : Int), .int .u64 (a : Int), .int .u64 (b : Int), .int .i64 x0, .int .i64 z1, .int .i64 y0, .int .i64 y1, .int .i64 v] 64)).heap.size) := Lib.hid HI7.out.size
        clear hwb HVN HIN HRX
        go_upto_region 22 with (first
          | ((with_reducible refine wpList_append_st (o := ⟨some 96, _, _, _, _, _⟩) ?_ (.tmp 93) (.tmp 95) ?_ wb.heap.size (.slice Av2 X.length cv2) X ?_ HV7.out ⟨wn.heap.size, 0, none⟩ 1 ⟨x1, x2, ⟨r, a, b, x0, z1, y0, y1, v⟩, xe⟩ ?_ HCL.out HLX.out HS7.out ?_); rotate_left 4; intro v11 w11 hp11 hg11))
        all_goals try (first | rfl | (simp [Act.eval, go_sem]; done))
        have HV11 : Hid (OwnI w11 wb.heap.size v11 (List.filter F (List.take (j + 1) R))) := Lib.hid (by rw [HFN.out]; exact hp11)
        have HI11 := Lib.hid (HI7.out.grown hg11 HI7.out.size (fun k hk => (ownS_type HV7.out hk).2.1))
        clear hp11 hg11 HV7 HI7 HCL q0 q1 q2 q3 q4 q5 q6 q7 q8 q9
        go_wp2_with fail
        go_roundw
        case rel => exact ⟨j + 1, _, by omega, by go_num, rfl, HV11, HI11⟩
        case measure => simp [intOf]; omega
  case rest =>
    rename World => wc
    obtain ⟨rfl, hbc⟩ := hcut
    have HSPC := Lib.hid (HSP0.out.below hbc HSP0.out.lt)
    have D3C := Lib.hid (D0.out.trans (hbc.mono D0.out.size))
    have HRC : Hid (E = 0 → rn = m ∧ ∃ g, RA = some ⟨g, 0, none⟩ ∧ Row wc g 3 (ivals rm)) := Lib.hid (fun h => by
      obtain ⟨h1, g, h2, h4⟩ := HR00.out h
      exact ⟨h1, g, h2, h4.below hbc h4.lt⟩)
    have HOC := Lib.hid (ownS_below HO0.out hbc)
    clear hbc HSP0 D0 HR00 HO0 DX HVF HU HN2 HVR
    by_cases he : E = 0
    case neg =>
      have hei : (E != 0) = true := by simpa using he
      have hEE : (E == E) = true := by simp
      obtain ⟨rfl, rfl, rfl⟩ : pa = 0 ∧ pb = 0 ∧ pe = E := by have := HEP.out; rw [if_neg he] at this; simpa using this
      obtain ⟨rfl, rfl⟩ : v1 = 0 ∧ v2 = pe := by have := HNV.out; rw [if_neg he] at this; simpa using this
      obtain rfl : rn = 0 := HR1.out he
      obtain rfl : nl = 0 := by rw [← HNL.out, HL0.out he]; rfl
      clear he HEP HNV HR1 HL0 HNL HRF HRC HER HOC
      have q0 := HSPC.out.cell 0
      have q1 := HSPC.out.cell 1
      simp only [List.getElem?_cons_zero, List.getElem?_cons_succ] at q0 q1
      go_wp2
      go_ret
      exact ⟨rfl, (B3.out.trans (D3C.out.mono B3.out.size))⟩
    subst he
    obtain ⟨h1, gr, h2, hrow⟩ := HRC.out rfl
    subst h2
    obtain rfl : m = rn := h1.symm
    have HRW := Lib.hid hrow
    obtain rfl : L = R := (HRF.out rfl).symm
    have HEP2 := Lib.hid HEP.out
    rw [if_pos rfl] at HEP2
    have HNV2 := Lib.hid HNV.out
    rw [if_pos rfl] at HNV2
    clear h1 hrow HRF HRC HEP HNV HL0 HR1
    rcases pm with _ | ⟨q1, q2⟩
    · obtain ⟨rfl, rfl, rfl⟩ : qa = 0 ∧ qb = 0 ∧ qo = false := by have := HER.out; simpa using this
      obtain ⟨rfl, rfl, rfl⟩ : pa = 0 ∧ pb = 0 ∧ pe = 6 := by have := HEP2.out; simpa using this
      clear HER HEP2
      go_wp2_with fail
      refine (HRP.out _ D3C.out).mono ?_
      rintro e wd ⟨rfl, hb⟩
      have D3D := Lib.hid (D3C.out.trans (hb.mono D3C.out.size))
      have HSPD := Lib.hid (HSPC.out.below hb HSPC.out.lt)
      have HRWD := Lib.hid (HRW.out.below hb HRW.out.lt)
      have HOD := Lib.hid (ownS_below HOC.out hb)
      clear hb D3C HSPC HRW HOC HRP
      go_upto_region 29 with fail
      have hwa : Below wd.heap.size wd (wd.alloc (.cells #[.int .i64 0, .int .i64 0] 49)) := (Below.refl _ _).alloc (Nat.le_refl _) _
      have HSQ : Hid (Row (wd.alloc (.cells #[.int .i64 0, .int .i64 0] 49)) wd.heap.size 49 [.int .i64 0, .int .i64 0]) := Lib.hid (Row.new _ _ _)
      have D3E := Lib.hid (D3D.out.trans (hwa.mono D3D.out.size))
      have HSPE := Lib.hid (HSPD.out.below hwa HSPD.out.lt)
      have HRWE := Lib.hid (HRWD.out.below hwa HRWD.out.lt)
      have HOE := Lib.hid (ownS_below HOD.out hwa)
      obtain ⟨gq, hgq⟩ : ∃ g, g = wd.heap.size := ⟨_, rfl⟩
      rw [← hgq] at HSQ ⊢
      generalize wd.alloc (.cells #[.int .i64 0, .int .i64 0] 49) = we at hwa HSQ D3E HSPE HRWE HOE ⊢
      clear hwa hgq D3D HSPD HRWD HOD
      have q0 := HSPE.out.cell 0
      have q1 := HSPE.out.cell 1
      have k0 := HSQ.out.cell 0
      have k1 := HSQ.out.cell 1
      simp only [List.getElem?_cons_zero, List.getElem?_cons_succ] at q0 q1 k0 k1
      go_wp2_with fail
      clear q0 q1 k0 k1 HSPE HSQ
      refine (HRI.out _ D3E.out).mono ?_
      rintro e wf ⟨Ar, cr, mr, rfl, HMR, hor, hb⟩
      obtain rfl : nl = mr := by rw [HMR.out, HNL.out]
      have D3F := Lib.hid (D3E.out.trans (hb.mono D3E.out.size))
      have HRWF := Lib.hid (HRWE.out.below hb HRWE.out.lt)
      have HOF := Lib.hid (ownS_below HOE.out hb)
      have HSM := Lib.hid (rsame_true L A12 Ar nl c12 cr _ _ wf HNL.out (by omega) HOF.out hor)
      clear hb hor D3E HRWE HOE HMR HOF
      go_wp2_with fail
      refine HSM.out.mono ?_
      rintro e wg ⟨rfl, hb⟩
      have D3G := Lib.hid (D3F.out.trans (hb.mono D3F.out.size))
      have HRWG := Lib.hid (HRWF.out.below hb HRWF.out.lt)
      clear hb D3F HRWF HSM
      go_wp2_with fail
      refine (HRR.out _ D3G.out).mono ?_
      rintro e wh ⟨Aq, cq, rfl, hoq, hb⟩
      have D3H := Lib.hid (D3G.out.trans (hb.mono D3G.out.size))
      have HRWH := Lib.hid (HRWG.out.below hb HRWG.out.lt)
      have HOQ := Lib.hid hoq
      clear hb D3G HRWG HRR hoq
      have hmm : ((m : Int) != (m : Int)) = false := by simp
      go_wp2_with fail
      clear hmm
      have HEW : Hid (Below wh.heap.size wh wh) := Lib.hid (Below.refl _ _)
      go_loopw [191] (fun i wr => ∃ k : Nat, k ≤ m ∧ i = .int .i64 (k : Int) ∧ Hid (Below wh.heap.size wh wr)) (fun i _ => m - (intOf i).toNat)
      case atStart => exact ⟨0, by omega, rfl, HEW⟩
      case round =>
        obtain ⟨k, hk, rfl, HE⟩ := hrel
        clear HEW
        by_cases hlt : k < m
        case pos =>
          have h1 : (k : Int) < (m : Int) := by omega
          have h0 : 0 ≤ (k : Int) := by omega
          obtain ⟨x, hx⟩ : ∃ x, rm[k]? = some x := ⟨_, List.getElem?_eq_getElem (by rw [HRML.out]; exact hlt)⟩
          obtain ⟨g2, rfl, -, -, hc⟩ := own_cells (ownS_below HOQ.out HE.out) (by omega)
          have d0 := hc k _ (ivals_at rm k x hx)
          have c0 := (HRWH.out.below HE.out HRWH.out.lt).cell k
          rw [ivals_at rm k x hx] at c0
          have hxx : ((x : Int) != (x : Int)) = false := by simp
          clear hx hc
          go_wp2_with fail
          go_quiet (fail)
          go_wp2_with fail
          go_roundw
          case rel => exact ⟨k + 1, by omega, by go_num, Lib.hid (show Below _ _ _ from ⟨HE.out.os, HE.out.tape, HE.out.output, HE.out.size, HE.out.block⟩)⟩
          case measure => simp [intOf]; omega
        have h1 : ¬ (k : Int) < (m : Int) := by omega
        clear HOQ HRWH
        go_wp2_with fail
        clear hlt h1 hk
        have D3J := Lib.hid (D3H.out.trans (HE.out.mono D3H.out.size))
        clear HE D3H
        refine (HRI.out _ D3J.out).mono ?_
        rintro e wi ⟨Ai, ci, mi, rfl, HMI, hoi, hb⟩
        obtain rfl : nl = mi := by rw [HMI.out, HNL.out]
        have HOI := Lib.hid hoi
        have D3I := Lib.hid (D3J.out.trans (hb.mono D3J.out.size))
        clear hb hoi HMI D3J
        go_wp2_with fail
        have DII : Hid (Below wi.heap.size wi wi) := Lib.hid (Below.refl _ _)
        have HT0 : Hid (topM (L.take 0) = 0) := Lib.hid rfl
        go_loopw [27, 207] (fun t i wr => ∃ (k M : Nat), k ≤ nl ∧ i = .int .i64 (k : Int) ∧ t = .int .u32 (M : Int) ∧ Hid (topM (L.take k) = M) ∧ Hid (Below wi.heap.size wi wr)) (fun _ i _ => nl - (intOf i).toNat)
        case atStart => exact ⟨0, 0, by omega, rfl, rfl, HT0, DII⟩
        case round =>
          obtain ⟨k, M, hk, rfl, rfl, HT, HI⟩ := hrel
          clear DII HT0
          by_cases hlt : k < nl
          case neg =>
            have h1 : ¬ (k : Int) < (nl : Int) := by omega
            have HTF : Hid (topM L = M) := Lib.hid (by have := HT.out; rwa [List.take_of_length_le (by rw [HNL.out]; omega)] at this)
            have hM : M ≤ 4294967295 := by have := HTL.out; rw [HTF.out] at this; exact this
            have HFB : Hid (Below w.heap.size w wr) := Lib.hid (B3.out.trans ((D3I.out.trans (HI.out.mono D3I.out.size)).mono B3.out.size))
            rw [HTF.out] at HNV2
            clear hlt HT
            by_cases hx : M = 4294967295
            · obtain ⟨rfl, rfl⟩ : v1 = 0 ∧ v2 = 6 := by have := HNV2.out; rw [if_pos hx] at this; simpa using this
              subst hx
              clear HNV2 HTF
              go_wp2
              go_ret
              exact ⟨rfl, HFB.out⟩
            · obtain ⟨rfl, rfl⟩ : v1 = (M : Int) + 1 ∧ v2 = 0 := by have := HNV2.out; rw [if_neg hx] at this; simpa using this
              have hxi : ¬ (M : Int) = 4294967295 := by omega
              have hwr : IntKind.u32.wrap ((M : Int) + 1) = (M : Int) + 1 := by simp [IntKind.wrap, IntKind.signed, IntKind.bits]; omega
              have hwr2 : ((M : Int) + 1) % 4294967296 = (M : Int) + 1 := by omega
              have hee : (((M : Int) + 1) == ((M : Int) + 1)) = true := by simp
              clear HNV2 HTF hx
              go_wp2
              go_ret
              exact ⟨rfl, HFB.out⟩
          have h1 : (k : Int) < (nl : Int) := by omega
          obtain ⟨x, hx⟩ : ∃ x, L[k]? = some x := ⟨_, List.getElem?_eq_getElem (by rw [HNL.out]; exact hlt)⟩
          obtain ⟨g, rfl, -, hg, -, hc⟩ := ownI_at HOI.out hx
          have HS := Lib.hid (top_snoc hx)
          obtain ⟨x1, x2, ⟨r, a, b, x0, z1, y0, y1, v⟩, xe⟩ := x
          have hc := fun j u hj => (HI.out.cell (p := ⟨g, k * 10 + j, none⟩) hg).trans (hc j u hj)
          have c0 : wr.cell? ⟨g, k * 10, none⟩ = some (.int .i64 x1) := hc 0 _ rfl
          have c1 : wr.cell? ⟨g, k * 10 + 1, none⟩ = some (.int .i64 (x2 : Int)) := hc 1 _ rfl
          have c2 : wr.cell? ⟨g, k * 10 + 2, none⟩ = some (.int .u32 (r : Int)) := hc 2 _ rfl
          have c3 : wr.cell? ⟨g, k * 10 + 3, none⟩ = some (.int .u64 (a : Int)) := hc 3 _ rfl
          have c4 : wr.cell? ⟨g, k * 10 + 4, none⟩ = some (.int .u64 (b : Int)) := hc 4 _ rfl
          have c5 : wr.cell? ⟨g, k * 10 + 5, none⟩ = some (.int .i64 x0) := hc 5 _ rfl
          have c6 : wr.cell? ⟨g, k * 10 + 6, none⟩ = some (.int .i64 z1) := hc 6 _ rfl
          have c7 : wr.cell? ⟨g, k * 10 + 7, none⟩ = some (.int .i64 y0) := hc 7 _ rfl
          have c8 : wr.cell? ⟨g, k * 10 + 8, none⟩ = some (.int .i64 y1) := hc 8 _ rfl
          have c9 : wr.cell? ⟨g, k * 10 + 9, none⟩ = some (.int .i64 v) := hc 9 _ rfl
          dsimp only at HS
          obtain ⟨m2, hm2⟩ : ∃ m2, m2 = max M r := ⟨_, rfl⟩
          have hmax : (if (M : Int) < (r : Int) then (r : Int) else (M : Int)) = (m2 : Int) := by split <;> omega
          have hmax2 : (if M < r then (r : Int) else (M : Int)) = (m2 : Int) := by split <;> omega
          have HTN : Hid (topM (L.take (k + 1)) = m2) := Lib.hid (by rw [HS.out, HT.out, hm2])
          clear hx hc HT HS hm2 hg
          go_upto_region 44 with fail
          clear c0 c1 c2 c3 c4 c5 c6 c7 c8 c9
          have HRX := Lib.hid (row_last wr (wr.heap.size) 64 [.int .i64 x1, .int .i64 (x2 : Int), .int .u32 (r : Int), .int .u64 (a : Int), .int .u64 (b : Int), .int .i64 x0, .int .i64 z1, .int .i64 y0, .int .i64 y1, .int .i64 v] (by simp))
          have BX := Lib.hid (HI.out.alloc HI.out.size (.cells #[.int .i64 x1, .int .i64 (x2 : Int), .int .u32 (r : Int), .int .u64 (a : Int), .int .u64 (b : Int), .int .i64 x0, .int .i64 z1, .int .i64 y0, .int .i64 y1, .int .i64 v] 64))
          clear HI
          generalize (wr.alloc (.cells #[.int .i64 x1, .int .i64 (x2 : Int), .int .u32 (r : Int), .int .u64 (a : Int), .int .u64 (b : Int), .int .i64 x0, .int .i64 z1, .int .i64 y0, .int .i64 y1, .int .i64 v] 64)) = wn at HRX BX ⊢
          have q2 := HRX.out.cell 2
          simp only [List.getElem?_cons_zero, List.getElem?_cons_succ] at q2
          clear HRX
          go_wp2_with fail
          go_roundw
          case rel => exact ⟨k + 1, m2, by omega, by go_num, rfl, HTN, BX⟩
          case measure => simp [intOf]; omega
    · obtain ⟨rfl, rfl, rfl⟩ : qa = q1 ∧ qb = q2 ∧ qo = true := by have := HER.out; simpa using this
      obtain ⟨rfl, rfl, rfl⟩ : pa = qa ∧ pb = qb ∧ pe = 0 := by have := HEP2.out; simpa using this
      clear HER HEP2
      go_wp2_with fail
      refine (HRP.out _ D3C.out).mono ?_
      rintro e wd ⟨rfl, hb⟩
      have D3D := Lib.hid (D3C.out.trans (hb.mono D3C.out.size))
      have HSPD := Lib.hid (HSPC.out.below hb HSPC.out.lt)
      have HRWD := Lib.hid (HRW.out.below hb HRW.out.lt)
      have HOD := Lib.hid (ownS_below HOC.out hb)
      clear hb D3C HSPC HRW HOC HRP
      go_upto_region 29 with fail
      have hwa : Below wd.heap.size wd (wd.alloc (.cells #[.int .i64 pa, .int .i64 pb] 49)) := (Below.refl _ _).alloc (Nat.le_refl _) _
      have HSQ : Hid (Row (wd.alloc (.cells #[.int .i64 pa, .int .i64 pb] 49)) wd.heap.size 49 [.int .i64 pa, .int .i64 pb]) := Lib.hid (Row.new _ _ _)
      have D3E := Lib.hid (D3D.out.trans (hwa.mono D3D.out.size))
      have HSPE := Lib.hid (HSPD.out.below hwa HSPD.out.lt)
      have HRWE := Lib.hid (HRWD.out.below hwa HRWD.out.lt)
      have HOE := Lib.hid (ownS_below HOD.out hwa)
      obtain ⟨gq, hgq⟩ : ∃ g, g = wd.heap.size := ⟨_, rfl⟩
      rw [← hgq] at HSQ ⊢
      generalize wd.alloc (.cells #[.int .i64 pa, .int .i64 pb] 49) = we at hwa HSQ D3E HSPE HRWE HOE ⊢
      clear hwa hgq D3D HSPD HRWD HOD
      have q0 := HSPE.out.cell 0
      have q1 := HSPE.out.cell 1
      have k0 := HSQ.out.cell 0
      have k1 := HSQ.out.cell 1
      simp only [List.getElem?_cons_zero, List.getElem?_cons_succ] at q0 q1 k0 k1
      go_wp2_with fail
      clear q0 q1 k0 k1 HSPE HSQ
      refine (HRI.out _ D3E.out).mono ?_
      rintro e wf ⟨Ar, cr, mr, rfl, HMR, hor, hb⟩
      obtain rfl : nl = mr := by rw [HMR.out, HNL.out]
      have D3F := Lib.hid (D3E.out.trans (hb.mono D3E.out.size))
      have HRWF := Lib.hid (HRWE.out.below hb HRWE.out.lt)
      have HOF := Lib.hid (ownS_below HOE.out hb)
      have HSM := Lib.hid (rsame_true L A12 Ar nl c12 cr _ _ wf HNL.out (by omega) HOF.out hor)
      clear hb hor D3E HRWE HOE HMR HOF
      go_wp2_with fail
      refine HSM.out.mono ?_
      rintro e wg ⟨rfl, hb⟩
      have D3G := Lib.hid (D3F.out.trans (hb.mono D3F.out.size))
      have HRWG := Lib.hid (HRWF.out.below hb HRWF.out.lt)
      clear hb D3F HRWF HSM
      go_wp2_with fail
      refine (HRR.out _ D3G.out).mono ?_
      rintro e wh ⟨Aq, cq, rfl, hoq, hb⟩
      have D3H := Lib.hid (D3G.out.trans (hb.mono D3G.out.size))
      have HRWH := Lib.hid (HRWG.out.below hb HRWG.out.lt)
      have HOQ := Lib.hid hoq
      clear hb D3G HRWG HRR hoq
      have hmm : ((m : Int) != (m : Int)) = false := by simp
      go_wp2_with fail
      clear hmm
      have HEW : Hid (Below wh.heap.size wh wh) := Lib.hid (Below.refl _ _)
      go_loopw [191] (fun i wr => ∃ k : Nat, k ≤ m ∧ i = .int .i64 (k : Int) ∧ Hid (Below wh.heap.size wh wr)) (fun i _ => m - (intOf i).toNat)
      case atStart => exact ⟨0, by omega, rfl, HEW⟩
      case round =>
        obtain ⟨k, hk, rfl, HE⟩ := hrel
        clear HEW
        by_cases hlt : k < m
        case pos =>
          have h1 : (k : Int) < (m : Int) := by omega
          have h0 : 0 ≤ (k : Int) := by omega
          obtain ⟨x, hx⟩ : ∃ x, rm[k]? = some x := ⟨_, List.getElem?_eq_getElem (by rw [HRML.out]; exact hlt)⟩
          obtain ⟨g2, rfl, -, -, hc⟩ := own_cells (ownS_below HOQ.out HE.out) (by omega)
          have d0 := hc k _ (ivals_at rm k x hx)
          have c0 := (HRWH.out.below HE.out HRWH.out.lt).cell k
          rw [ivals_at rm k x hx] at c0
          have hxx : ((x : Int) != (x : Int)) = false := by simp
          clear hx hc
          go_wp2_with fail
          go_quiet (fail)
          go_wp2_with fail
          go_roundw
          case rel => exact ⟨k + 1, by omega, by go_num, Lib.hid (show Below _ _ _ from ⟨HE.out.os, HE.out.tape, HE.out.output, HE.out.size, HE.out.block⟩)⟩
          case measure => simp [intOf]; omega
        have h1 : ¬ (k : Int) < (m : Int) := by omega
        clear HOQ HRWH
        go_wp2_with fail
        clear hlt h1 hk
        have D3J := Lib.hid (D3H.out.trans (HE.out.mono D3H.out.size))
        clear HE D3H
        refine (HRI.out _ D3J.out).mono ?_
        rintro e wi ⟨Ai, ci, mi, rfl, HMI, hoi, hb⟩
        obtain rfl : nl = mi := by rw [HMI.out, HNL.out]
        have HOI := Lib.hid hoi
        have D3I := Lib.hid (D3J.out.trans (hb.mono D3J.out.size))
        clear hb hoi HMI D3J
        go_wp2_with fail
        have DII : Hid (Below wi.heap.size wi wi) := Lib.hid (Below.refl _ _)
        have HT0 : Hid (topM (L.take 0) = 0) := Lib.hid rfl
        go_loopw [27, 207] (fun t i wr => ∃ (k M : Nat), k ≤ nl ∧ i = .int .i64 (k : Int) ∧ t = .int .u32 (M : Int) ∧ Hid (topM (L.take k) = M) ∧ Hid (Below wi.heap.size wi wr)) (fun _ i _ => nl - (intOf i).toNat)
        case atStart => exact ⟨0, 0, by omega, rfl, rfl, HT0, DII⟩
        case round =>
          obtain ⟨k, M, hk, rfl, rfl, HT, HI⟩ := hrel
          clear DII HT0
          by_cases hlt : k < nl
          case neg =>
            have h1 : ¬ (k : Int) < (nl : Int) := by omega
            have HTF : Hid (topM L = M) := Lib.hid (by have := HT.out; rwa [List.take_of_length_le (by rw [HNL.out]; omega)] at this)
            have hM : M ≤ 4294967295 := by have := HTL.out; rw [HTF.out] at this; exact this
            have HFB : Hid (Below w.heap.size w wr) := Lib.hid (B3.out.trans ((D3I.out.trans (HI.out.mono D3I.out.size)).mono B3.out.size))
            rw [HTF.out] at HNV2
            clear hlt HT
            by_cases hx : M = 4294967295
            · obtain ⟨rfl, rfl⟩ : v1 = 0 ∧ v2 = 6 := by have := HNV2.out; rw [if_pos hx] at this; simpa using this
              subst hx
              clear HNV2 HTF
              go_wp2
              go_ret
              exact ⟨rfl, HFB.out⟩
            · obtain ⟨rfl, rfl⟩ : v1 = (M : Int) + 1 ∧ v2 = 0 := by have := HNV2.out; rw [if_neg hx] at this; simpa using this
              have hxi : ¬ (M : Int) = 4294967295 := by omega
              have hwr : IntKind.u32.wrap ((M : Int) + 1) = (M : Int) + 1 := by simp [IntKind.wrap, IntKind.signed, IntKind.bits]; omega
              have hwr2 : ((M : Int) + 1) % 4294967296 = (M : Int) + 1 := by omega
              have hee : (((M : Int) + 1) == ((M : Int) + 1)) = true := by simp
              clear HNV2 HTF hx
              go_wp2
              go_ret
              exact ⟨rfl, HFB.out⟩
          have h1 : (k : Int) < (nl : Int) := by omega
          obtain ⟨x, hx⟩ : ∃ x, L[k]? = some x := ⟨_, List.getElem?_eq_getElem (by rw [HNL.out]; exact hlt)⟩
          obtain ⟨g, rfl, -, hg, -, hc⟩ := ownI_at HOI.out hx
          have HS := Lib.hid (top_snoc hx)
          obtain ⟨x1, x2, ⟨r, a, b, x0, z1, y0, y1, v⟩, xe⟩ := x
          have hc := fun j u hj => (HI.out.cell (p := ⟨g, k * 10 + j, none⟩) hg).trans (hc j u hj)
          have c0 : wr.cell? ⟨g, k * 10, none⟩ = some (.int .i64 x1) := hc 0 _ rfl
          have c1 : wr.cell? ⟨g, k * 10 + 1, none⟩ = some (.int .i64 (x2 : Int)) := hc 1 _ rfl
          have c2 : wr.cell? ⟨g, k * 10 + 2, none⟩ = some (.int .u32 (r : Int)) := hc 2 _ rfl
          have c3 : wr.cell? ⟨g, k * 10 + 3, none⟩ = some (.int .u64 (a : Int)) := hc 3 _ rfl
          have c4 : wr.cell? ⟨g, k * 10 + 4, none⟩ = some (.int .u64 (b : Int)) := hc 4 _ rfl
          have c5 : wr.cell? ⟨g, k * 10 + 5, none⟩ = some (.int .i64 x0) := hc 5 _ rfl
          have c6 : wr.cell? ⟨g, k * 10 + 6, none⟩ = some (.int .i64 z1) := hc 6 _ rfl
          have c7 : wr.cell? ⟨g, k * 10 + 7, none⟩ = some (.int .i64 y0) := hc 7 _ rfl
          have c8 : wr.cell? ⟨g, k * 10 + 8, none⟩ = some (.int .i64 y1) := hc 8 _ rfl
          have c9 : wr.cell? ⟨g, k * 10 + 9, none⟩ = some (.int .i64 v) := hc 9 _ rfl
          dsimp only at HS
          obtain ⟨m2, hm2⟩ : ∃ m2, m2 = max M r := ⟨_, rfl⟩
          have hmax : (if (M : Int) < (r : Int) then (r : Int) else (M : Int)) = (m2 : Int) := by split <;> omega
          have hmax2 : (if M < r then (r : Int) else (M : Int)) = (m2 : Int) := by split <;> omega
          have HTN : Hid (topM (L.take (k + 1)) = m2) := Lib.hid (by rw [HS.out, HT.out, hm2])
          clear hx hc HT HS hm2 hg
          go_upto_region 44 with fail
          clear c0 c1 c2 c3 c4 c5 c6 c7 c8 c9
          have HRX := Lib.hid (row_last wr (wr.heap.size) 64 [.int .i64 x1, .int .i64 (x2 : Int), .int .u32 (r : Int), .int .u64 (a : Int), .int .u64 (b : Int), .int .i64 x0, .int .i64 z1, .int .i64 y0, .int .i64 y1, .int .i64 v] (by simp))
          have BX := Lib.hid (HI.out.alloc HI.out.size (.cells #[.int .i64 x1, .int .i64 (x2 : Int), .int .u32 (r : Int), .int .u64 (a : Int), .int .u64 (b : Int), .int .i64 x0, .int .i64 z1, .int .i64 y0, .int .i64 y1, .int .i64 v] 64))
          clear HI
          generalize (wr.alloc (.cells #[.int .i64 x1, .int .i64 (x2 : Int), .int .u32 (r : Int), .int .u64 (a : Int), .int .u64 (b : Int), .int .i64 x0, .int .i64 z1, .int .i64 y0, .int .i64 y1, .int .i64 v] 64)) = wn at HRX BX ⊢
          have q2 := HRX.out.cell 2
          simp only [List.getElem?_cons_zero, List.getElem?_cons_succ] at q2
          clear HRX
          go_wp2_with fail
          go_roundw
          case rel => exact ⟨k + 1, m2, by omega, by go_num, rfl, HTN, BX⟩
          case measure => simp [intOf]; omega

theorem resT_HeapPages : Try.f4.resultTypes = #[4] := by kernel_rfl
set_option maxRecDepth 100000 in
theorem lifted_HeapPages (os : Os) (started : os.Started) (H : Type) (enc : TypeId × Value → H) :
    ReturnsInHanded {} Try.checked os 4 .any (Rows.heapPagesSpec.pre6 enc Try.prog Try.f4 Rows.heapPagesRow.domain false) (Rows.heapPagesSpec.post enc Try.prog Try.f4 false true false false) := by
  refine Lift.law_lift (C := Try.checked) (s := Rows.heapPagesSpec) (tb := 4) own laidOut started (by kernel_rfl) Try.func4
    (ChangeSpec.witness6 (enc := enc) (C := Try.checked) false ⟨#[], #[.slice none 0 0, .slice none 0 0], []⟩ 8 (by kernel_rfl) (by kernel_rfl) (by kernel_rfl) (by kernel_rfl))
    rfl resT_HeapPages Try.underlying4 (by
      have hr : ∀ t ∈ ([44, 45] : List TypeId), Try.prog.readableRec t = true ∧ t < Try.prog.types.size := by
        intro t ht
        simp only [List.mem_cons, List.not_mem_nil, or_false] at ht
        rcases ht with rfl | rfl <;> exact ⟨by kernel_rfl, of_decide_eq_true (by kernel_rfl)⟩
      intro t ht
      exact hr t (by
        have ht' : t ∈ Try.f4.params.toList := ht
        rw [Try.params4] at ht'
        exact ht')) ?_
  intro W base args ds p hval0 hA0 hsz0
  have hval : ∀ (j : Nat) t v, Try.f4.params[j]? = some t → args[j]? = some v → Value.okWide Try.prog W .any base t v := hval0
  have hA : DataW.TrodAll enc Try.prog W 0 (fun _ => true) true Try.f4.params.toList args.toList ds p := hA0
  have hsz : (DataW.weightsEach Try.prog Try.f4.params.toList ds).all (· ≤ reachBytes) = true := hsz0
  clear hval0 hA0 hsz0
  rw [Try.params4] at hA hval hsz
  obtain ⟨v0, vs0, d0, ds0, p0, q0, hargs, rfl, rfl, h0, r0⟩ := trodAll_cons hA
  obtain ⟨v1, vs1, d1, ds1, p1, q1, rfl, rfl, rfl, h1, r1⟩ := trodAll_cons r0
  obtain ⟨rfl, rfl, rfl⟩ := trodAll_nil r1
  obtain rfl : args = #[v0, v1] := by cases args; simp_all
  obtain ⟨A0, n0, c0, os0, rfl, hl0, -, -, -, hm0, ho0⟩ := Pg.open_pages (hval 0 44 v0 rfl rfl) h0 (by rw [List.all_eq_true] at hsz ⊢; intro z hz; exact hsz z (DataW.weights_mem_each (j := 0) (t := 44) (d := d0) rfl rfl z hz))
  obtain ⟨A1, n1, c1, os1, rfl, hl1, hu1⟩ := open_u32s Try.underlying45 Try.underlying25 cells_u32 (hval 1 45 v1 rfl rfl) h1
  exact ⟨rfl, walk os0 A0 n0 c0 os1 A1 n1 c1 W hl0 ⟨hm0, fun x hx => (ho0 x hx).at_⟩ hl1 hu1⟩

theorem proved_HeapPages : Rows.HeapPagesSaid :=
  OpenClaim.holds_of_wide 4 Try.f4 rfl rfl rfl rfl rfl rfl rfl ⟨rfl, rfl, rfl, rfl, rfl⟩ rfl rfl rfl rfl rfl (by kernel_rfl) Try.func4 (by kernel_rfl)
    (of_decide_eq_true (by kernel_rfl)) (by unfold Func.isWrapper; first | (rw [if_pos (by decide +kernel)]; kernel_rfl) | (rw [if_neg (by decide +kernel)]; exact ⟨rfl, rfl⟩))
    (fun os started H enc _ => lifted_HeapPages os started H enc)
end Go.Proofs.Ytnojkoefdigcnaa.HeapPages
