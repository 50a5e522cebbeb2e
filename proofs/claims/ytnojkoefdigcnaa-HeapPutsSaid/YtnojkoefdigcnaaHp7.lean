/-
  Heap: Place.
-/
import Derived.Test.YtnojkoefdigcnaaHp6
import Derived.Test.YtnojkoefdigcnaaRecW
import Derived.LoopTactic
import Derived.Deep.RegionHeld
import Derived.Deep.Cut
import Derived.WalkLawsBesides
namespace Go.Proofs.Ytnojkoefdigcnaa.Hp
set_option maxRecDepth 100000
open Go.RowKit Go.Proofs.Ytnojkoefdigcnaa.Pg Go.Proofs.Ytnojkoefdigcnaa.Rec Go.Proofs.Ytnojkoefdigcnaa.Wd Go.Proofs.Ytnojkoefdigcnaa.Wi Go.Proofs.Ytnojkoefdigcnaa.Ky Go.Proofs.Ytnojkoefdigcnaa.Oct Go.Proofs.Ytnojkoefdigcnaa.Rec Go.Proofs.Ytnojkoefdigcnaa.Lift

/-- the first free slot of the first page that has one -/
def placeM : List PM → Option (Int × Int)
  | [] => none
  | p :: l => if 0 ≤ freeN true (lensP p) then some (p.num, freeN true (lensP p)) else placeM l
theorem rise_ok : ∀ (l : List PM) (last : Int), riseM last l = true → ∀ p ∈ l, okN p.num (lensP p) = true
  | [], _, _, p, hp => by cases hp
  | q :: l, last, h, p, hp => by
    simp only [riseM, Bool.and_eq_true] at h
    rcases List.mem_cons.1 hp with rfl | hp
    · exact h.1.1
    · exact rise_ok l q.num h.2 p hp
theorem itE_may {l : List PM} (h : itE l = 0) : mayM l = true := by
  unfold itE at h
  by_cases hm : mayM l = true
  · exact hm
  · rw [if_neg hm] at h; cases h
theorem placeM_drop : ∀ {l : List PM} {k : Nat} {p : PM}, l[k]? = some p → placeM (l.drop k) = if 0 ≤ freeN true (lensP p) then some (p.num, freeN true (lensP p)) else placeM (l.drop (k + 1)) := by
  intro l k p h
  have hk := (List.getElem?_eq_some_iff.1 h).1
  rw [List.drop_eq_getElem_cons hk, (List.getElem?_eq_some_iff.1 h).2]
  rfl
theorem lens_free {w : World} {B : Nat} {x : PX} (h : PgAt w B x.sl x.s) : freeN true x.s.n = freeN true (lensP (pmOf x)) := by
  have h0 := h.lens 0 (by omega); have h1 := h.lens 1 (by omega); have h2 := h.lens 2 (by omega); have h3 := h.lens 3 (by omega)
  unfold freeN lensP pmOf
  dsimp only
  rw [h0, h1, h2, h3]
def placeV (l : List PM) : Int × Int × Int := if itE l = 0 then (match placeM l with | some q => (q.1, q.2, 0) | none => (0, 0, 6)) else (0, 0, itE l)

set_option maxHeartbeats 4000000 in
theorem place_any (l : List PX) (A : Option Addr) (n c : Nat) (w : World) (hn : l.length = n) (hm : n ≤ 10000) (hP : Pgs w w.heap.size A l) (hsl : ∀ x ∈ l, ∀ k, k < 4 → x.s.n k ≤ 140737488355328) :
    Calls Try.prog 18 #[.slice A n c] w fun e w' => e = .returned (.tuple #[.agg #[.int .i64 (placeV (l.map pmOf)).1, .int .i64 (placeV (l.map pmOf)).2.1], .int .i64 (placeV (l.map pmOf)).2.2]) ∧ Below w.heap.size w w' := by
  have HN := Lib.hid hn
  have HP := Lib.hid hP
  have HIT := Lib.hid (fun (W : World) (hb : Below w.heap.size w W) => items_any l A n c W hn hm ((hP.below hb).more hb.size) hsl)
  clear hn hP hsl
  obtain ⟨ms, hms⟩ : ∃ ms, ms = l.map pmOf := ⟨_, rfl⟩
  have HMS := Lib.hid hms
  rw [← hms] at HIT ⊢
  clear hms
  obtain ⟨⟨v1, v2, v3⟩, hv⟩ : ∃ V : Int × Int × Int, V = placeV ms := ⟨_, rfl⟩
  rw [← hv]
  have HV := Lib.hid hv
  clear hv
  dsimp only
  go_enter Try.func18, Try.ntmps18
  go_upto_region 1 with fail
  have HR : Hid (Row (w.alloc (.cells #[.int .i64 0, .int .i64 0] 49)) w.heap.size 49 [.int .i64 0, .int .i64 0]) := Lib.hid (Row.new w _ _)
  have HB : Hid (Below w.heap.size w (w.alloc (.cells #[.int .i64 0, .int .i64 0] 49))) := Lib.hid ((Below.refl _ _).alloc (Nat.le_refl _) _)
  generalize w.alloc (.cells #[.int .i64 0, .int .i64 0] 49) = w1 at HR HB ⊢
  go_wp2_with fail
  refine (HIT.out _ HB.out).mono ?_
  rintro e w2 ⟨Ai, ci, rfl, -, hb⟩
  have HR2 := Lib.hid (HR.out.below hb HR.out.lt)
  have HB2 := Lib.hid (HB.out.trans (hb.mono HB.out.size))
  clear hb HR HB HIT
  generalize (itL ms).length = ni
  by_cases he : itE ms = 0
  case neg =>
    have HVV : Hid ((v1, v2, v3) = ((0 : Int), (0 : Int), itE ms)) := Lib.hid (by rw [HV.out]; unfold placeV; rw [if_neg he])
    obtain ⟨rfl, rfl, h3⟩ : v1 = 0 ∧ v2 = 0 ∧ v3 = itE ms := by have := HVV.out; simpa using this
    rw [← h3] at he ⊢
    have he2 : (v3 != 0) = true := by simp [he]
    clear h3 HVV HV he
    have k0 := HR2.out.cell 0
    have kf0 := HR2.out.frozen 0
    have k1 := HR2.out.cell 1
    have kf1 := HR2.out.frozen 1
    simp only [List.getElem?_cons_zero, List.getElem?_cons_succ] at k0 k1
    go_wp2_with fail
    exact bodyPost_ret (v := .tuple #[.agg #[.int .i64 0, .int .i64 0], .int .i64 v3]) (by simp [results, Try.results18, go_sem, *]) rfl ⟨rfl, ((HB2.out.setCell (p := ⟨w.heap.size, 0, none⟩) (Nat.le_refl _) (.int .i64 0)).setCell (p := ⟨w.heap.size, 1, none⟩) (Nat.le_refl _) (.int .i64 0))⟩

  have HE := Lib.hid he
  rw [he]
  clear he
  have HOK := Lib.hid (rise_ok ms (-1) (itE_may HE.out))
  have HVP : Hid ((v1, v2, v3) = match placeM (ms.drop 0) with | some q => (q.1, q.2, 0) | none => (0, 0, 6)) := Lib.hid (by rw [HV.out]; unfold placeV; rw [if_pos HE.out]; rfl)
  clear HV
  go_wp2_with fail
  go_loopw [20] (fun i wr => ∃ k : Nat, k ≤ n ∧ i = .int .i64 (k : Int) ∧ Hid (Below w.heap.size w wr) ∧ Hid (Row wr w.heap.size 49 [.int .i64 0, .int .i64 0]) ∧ Hid ((v1, v2, v3) = match placeM (ms.drop k) with | some q => (q.1, q.2, 0) | none => (0, 0, 6))) (fun i _ => n - (intOf i).toNat)
  case atStart => exact ⟨0, by omega, rfl, HB2, HR2, HVP⟩
  case round =>
    obtain ⟨k, hk, rfl, HI, HR, HT⟩ := hrel
    clear HB2 HR2 HVP
    by_cases hlt : k < n
    case neg =>
      have h1 : ¬ (k : Int) < (n : Int) := by omega
      have hT := HT.out
      rw [List.drop_of_length_le (by rw [HMS.out, List.length_map, HN.out]; omega)] at hT
      obtain ⟨rfl, rfl, rfl⟩ : v1 = 0 ∧ v2 = 0 ∧ v3 = 6 := by simpa [placeM] using hT
      clear hT HT
      have k0 := HR.out.cell 0
      have kf0 := HR.out.frozen 0
      have k1 := HR.out.cell 1
      have kf1 := HR.out.frozen 1
      simp only [List.getElem?_cons_zero, List.getElem?_cons_succ] at k0 k1
      go_wp2_with fail
      exact bodyPost_ret (v := .tuple #[.agg #[.int .i64 0, .int .i64 0], .int .i64 6]) (by simp [results, Try.results18, go_sem, *]) rfl ⟨rfl, ((HI.out.setCell (p := ⟨w.heap.size, 0, none⟩) (Nat.le_refl _) (.int .i64 0)).setCell (p := ⟨w.heap.size, 1, none⟩) (Nat.le_refl _) (.int .i64 0))⟩

    have h1 : (k : Int) < (n : Int) := by omega
    obtain ⟨x, hx⟩ : ∃ x, l[k]? = some x := ⟨_, List.getElem?_eq_getElem (by rw [HN.out]; exact hlt)⟩
    have hxm : ms[k]? = some (pmOf x) := by rw [HMS.out, List.getElem?_map, hx]; rfl
    obtain ⟨b, o, rfl, hblt, c0, c1, c2, c3, c4, c5⟩ := (HP.out.below HI.out).cells hx
    have HAT := Lib.hid ((HP.out.at_ x (List.mem_of_getElem? hx)).below HI.out)
    have hok := HOK.out _ (List.mem_of_getElem? hxm)
    have HF := Lib.hid (fun (W : World) => free_any x.num x.lsn x.s W)
    rw [lens_eq HAT.out, hok, lens_free HAT.out] at HF
    have hdr := placeM_drop hxm
    have HPN : Hid ((pmOf x).num = x.num) := Lib.hid rfl
    obtain ⟨f, hf⟩ : ∃ f, f = freeN true (lensP (pmOf x)) := ⟨_, rfl⟩
    rw [← hf, HPN.out] at hdr
    rw [← hf] at HF
    have HDR := Lib.hid hdr
    have HB : Hid (Below w.heap.size w (wr.alloc (.cells (pcs x.num x.lsn x.s).toArray 73))) := Lib.hid (HI.out.alloc HI.out.size _)
    have HRP : Hid (Row (wr.alloc (.cells (pcs x.num x.lsn x.s).toArray 73)) wr.heap.size 73 (pcs x.num x.lsn x.s)) := Lib.hid (Row.new _ _ _)
    have HRS := Lib.hid (HR.out.alloc (.cells (pcs x.num x.lsn x.s).toArray 73))
    clear hx hxm hok hdr hf HAT HPN HR HI
    obtain ⟨num, lsn, sl, st⟩ := x
    dsimp only at *
    unfold pcs at HB HRP HF HRS
    go_upto_region 7 with fail
    clear c0 c1 c2 c3 c4 c5
    generalize (wr.alloc (.cells #[.int .i64 num, .int .u64 (lsn : Int), .slice (st.A 0) (st.n 0) (st.c 0), .slice (st.A 1) (st.n 1) (st.c 1), .slice (st.A 2) (st.n 2) (st.c 2), .slice (st.A 3) (st.n 3) (st.c 3)] 73)) = w1 at HB HRP HRS ⊢
    have c0 := HRP.out.cell 0
    have cf0 := HRP.out.frozen 0
    have c1 := HRP.out.cell 1
    have cf1 := HRP.out.frozen 1
    have c2 := HRP.out.cell 2
    have cf2 := HRP.out.frozen 2
    have c3 := HRP.out.cell 3
    have cf3 := HRP.out.frozen 3
    have c4 := HRP.out.cell 4
    have cf4 := HRP.out.frozen 4
    have c5 := HRP.out.cell 5
    have cf5 := HRP.out.frozen 5
    simp only [List.getElem?_cons_zero, List.getElem?_cons_succ] at c0 c1 c2 c3 c4 c5
    go_wp2_with fail
    clear c0 cf0 c1 cf1 c2 cf2 c3 cf3 c4 cf4 c5 cf5
    refine (HF.out _).mono ?_
    rintro e w2 ⟨rfl, hb⟩
    have HB1 := Lib.hid (HB.out.trans (hb.mono HB.out.size))
    have HR1 := Lib.hid (HRP.out.below hb HRP.out.lt)
    have HS1 := Lib.hid (HRS.out.below hb HRS.out.lt)
    clear hb HB HRP HRS HF
    by_cases hfr : 0 ≤ f
    · have hT := HT.out
      rw [HDR.out, if_pos hfr] at hT
      obtain ⟨rfl, rfl, rfl⟩ : v1 = num ∧ v2 = f ∧ v3 = 0 := by simpa using hT
      clear hT HT HDR
      have q0 := HR1.out.cell 0
      simp only [List.getElem?_cons_zero] at q0
      have k0 := HS1.out.cell 0
      have kf0 := HS1.out.frozen 0
      have k1 := HS1.out.cell 1
      have kf1 := HS1.out.frozen 1
      simp only [List.getElem?_cons_zero, List.getElem?_cons_succ] at k0 k1
      go_wp2_with fail
      exact bodyPost_ret (v := .tuple #[.agg #[.int .i64 v1, .int .i64 v2], .int .i64 0]) (by simp [results, Try.results18, go_sem, *]) rfl ⟨rfl, ((HB1.out.setCell (p := ⟨w.heap.size, 0, none⟩) (Nat.le_refl _) (.int .i64 v1)).setCell (p := ⟨w.heap.size, 1, none⟩) (Nat.le_refl _) (.int .i64 v2))⟩

    · have HT1 : Hid ((v1, v2, v3) = match placeM (ms.drop (k + 1)) with | some q => (q.1, q.2, 0) | none => (0, 0, 6)) := Lib.hid (by rw [HT.out, HDR.out, if_neg hfr])
      clear HT HDR
      go_wp2_with fail
      go_roundw
      case rel => exact ⟨k + 1, by omega, by go_num, HB1, HS1, HT1⟩
      case measure => simp [intOf]; omega
end Go.Proofs.Ytnojkoefdigcnaa.Hp
