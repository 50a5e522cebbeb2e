/-
  Heap: the reference's Place.
-/
import Derived.Test.YtnojkoefdigcnaaHp7
import Derived.Test.YtnojkoefdigcnaaHpD
import Derived.LoopTactic
import Derived.Deep.RegionHeld
import Derived.Deep.Cut
import Derived.WalkLawsBesides
namespace Go.Proofs.Ytnojkoefdigcnaa.Hp
set_option maxRecDepth 100000
open Go.RowKit Go.Proofs.Ytnojkoefdigcnaa.Dsk Go.Proofs.Ytnojkoefdigcnaa.Pg Go.Proofs.Ytnojkoefdigcnaa.Rec Go.Proofs.Ytnojkoefdigcnaa.Wd Go.Proofs.Ytnojkoefdigcnaa.Wi Go.Proofs.Ytnojkoefdigcnaa.Ky Go.Proofs.Ytnojkoefdigcnaa.Oct Go.Proofs.Ytnojkoefdigcnaa.Rec Go.Proofs.Ytnojkoefdigcnaa.Lift

def placeR (l : List PM) : Int × Int × Bool := match placeM l with | some q => (q.1, q.2, true) | none => (0, 0, false)
set_option maxHeartbeats 4000000 in
theorem rplace_any (l : List PX) (A : Option Addr) (n c : Nat) (w : World) (hn : l.length = n) (hm : n ≤ 10000) (hP : Pgs w w.heap.size A l) :
    Calls Try.prog 26 #[.slice A n c] w fun e w' => e = .returned (.tuple #[.agg #[.int .i64 (placeR (l.map pmOf)).1, .int .i64 (placeR (l.map pmOf)).2.1], .bool (placeR (l.map pmOf)).2.2]) ∧ Below w.heap.size w w' := by
  have HN := Lib.hid hn
  have HP := Lib.hid hP
  clear hn hP
  obtain ⟨ms, hms⟩ : ∃ ms, ms = l.map pmOf := ⟨_, rfl⟩
  have HMS := Lib.hid hms
  rw [← hms]
  clear hms
  obtain ⟨⟨v1, v2, v3⟩, hv⟩ : ∃ V : Int × Int × Bool, V = placeR ms := ⟨_, rfl⟩
  rw [← hv]
  have HV : Hid ((v1, v2, v3) = match placeM (ms.drop 0) with | some q => (q.1, q.2, true) | none => (0, 0, false)) := Lib.hid (by rw [hv]; rfl)
  clear hv
  dsimp only
  go_enter Try.func26, Try.ntmps26
  go_upto_region 1 with fail
  have HR : Hid (Row (w.alloc (.cells #[.int .i64 0, .int .i64 0] 49)) w.heap.size 49 [.int .i64 0, .int .i64 0]) := Lib.hid (Row.new w _ _)
  have HB : Hid (Below w.heap.size w (w.alloc (.cells #[.int .i64 0, .int .i64 0] 49))) := Lib.hid ((Below.refl _ _).alloc (Nat.le_refl _) _)
  generalize w.alloc (.cells #[.int .i64 0, .int .i64 0] 49) = w1 at HR HB ⊢
  go_wp2_with fail
  go_loopw [10] (fun i wr => ∃ k : Nat, k ≤ n ∧ i = .int .i64 (k : Int) ∧ Hid (Below w.heap.size w wr) ∧ Hid (Row wr w.heap.size 49 [.int .i64 0, .int .i64 0]) ∧ Hid ((v1, v2, v3) = match placeM (ms.drop k) with | some q => (q.1, q.2, true) | none => (0, 0, false))) (fun i _ => n - (intOf i).toNat)
  case atStart => exact ⟨0, by omega, rfl, HB, HR, HV⟩
  case round =>
    obtain ⟨k, hk, rfl, HI, HR', HT⟩ := hrel
    clear HB HR HV
    by_cases hlt : k < n
    case neg =>
      have h1 : ¬ (k : Int) < (n : Int) := by omega
      have hT := HT.out
      rw [List.drop_of_length_le (by rw [HMS.out, List.length_map, HN.out]; omega)] at hT
      obtain ⟨rfl, rfl, rfl⟩ : v1 = 0 ∧ v2 = 0 ∧ v3 = false := by simpa [placeM] using hT
      clear hT HT
      have k0 := HR'.out.cell 0
      have kf0 := HR'.out.frozen 0
      have k1 := HR'.out.cell 1
      have kf1 := HR'.out.frozen 1
      simp only [List.getElem?_cons_zero, List.getElem?_cons_succ] at k0 k1
      go_wp2_with fail
      exact bodyPost_ret (v := .tuple #[.agg #[.int .i64 0, .int .i64 0], .bool false]) (by simp [results, Try.results26, go_sem, *]) rfl ⟨rfl, ((HI.out.setCell (p := ⟨w.heap.size, 0, none⟩) (Nat.le_refl _) (.int .i64 0)).setCell (p := ⟨w.heap.size, 1, none⟩) (Nat.le_refl _) (.int .i64 0))⟩

    have h1 : (k : Int) < (n : Int) := by omega
    obtain ⟨x, hx⟩ : ∃ x, l[k]? = some x := ⟨_, List.getElem?_eq_getElem (by rw [HN.out]; exact hlt)⟩
    have hxm : ms[k]? = some (pmOf x) := by rw [HMS.out, List.getElem?_map, hx]; rfl
    obtain ⟨b, o, rfl, hblt, c0, c1, c2, c3, c4, c5⟩ := (HP.out.below HI.out).cells hx
    have HAT := Lib.hid (HP.out.at_ x (List.mem_of_getElem? hx))
    have hdr := placeM_drop hxm
    have HDR := Lib.hid hdr
    have HLF := Lib.hid (lens_free HAT.out)
    have HPN : Hid ((pmOf x).num = x.num) := Lib.hid rfl
    have HB : Hid (Below wr.heap.size wr (wr.alloc (.cells (pcs x.num x.lsn x.s).toArray 73))) := Lib.hid ((Below.refl _ _).alloc (Nat.le_refl _) _)
    have HRP : Hid (Row (wr.alloc (.cells (pcs x.num x.lsn x.s).toArray 73)) wr.heap.size 73 (pcs x.num x.lsn x.s)) := Lib.hid (Row.new _ _ _)
    clear hx hxm hdr HAT
    obtain ⟨num, lsn, sl, st⟩ := x
    dsimp only at *
    have HIX := Lib.hid (idx_any st)
    unfold scs at HIX
    rw [← HLF.out, HPN.out] at HDR
    have HPC : Hid (pcs num lsn st = [.int .i64 num, .int .u64 (lsn : Int), .slice (st.A 0) (st.n 0) (st.c 0), .slice (st.A 1) (st.n 1) (st.c 1), .slice (st.A 2) (st.n 2) (st.c 2), .slice (st.A 3) (st.n 3) (st.c 3)]) := Lib.hid rfl
    rw [HPC.out] at HB HRP
    clear HPC HLF HPN
    go_upto_region 4 with fail
    clear c0 c1 c2 c3 c4 c5
    generalize (wr.alloc (.cells #[.int .i64 num, .int .u64 (lsn : Int), .slice (st.A 0) (st.n 0) (st.c 0), .slice (st.A 1) (st.n 1) (st.c 1), .slice (st.A 2) (st.n 2) (st.c 2), .slice (st.A 3) (st.n 3) (st.c 3)] 73)) = w3 at HB HRP ⊢
    obtain ⟨gp, hgp⟩ : ∃ g, g = wr.heap.size := ⟨_, rfl⟩
    have HGP : Hid (w.heap.size < gp) := Lib.hid (by rw [hgp]; exact HR'.out.lt)
    rw [← hgp] at HRP ⊢
    have HI1 := Lib.hid (HI.out.trans (HB.out.mono HI.out.size))
    have HR1 := Lib.hid (HR'.out.below HB.out HR'.out.lt)
    clear hgp HI HR' HB
    have q2 := HRP.out.cell 2
    have q3 := HRP.out.cell 3
    have q4 := HRP.out.cell 4
    have q5 := HRP.out.cell 5
    simp only [List.getElem?_cons_zero, List.getElem?_cons_succ] at q2 q3 q4 q5
    go_wp2_with fail
    clear q2 q3 q4 q5
    go_loopw [16] (fun i wr => ∃ j : Nat, j ≤ 4 ∧ i = .int .i64 (j : Int) ∧ wr = w3 ∧ Hid (∀ m, m < j → st.n m ≠ 0)) (fun i _ => 4 - (intOf i).toNat)
    case atStart => exact ⟨0, by omega, rfl, rfl, Lib.hid (fun m hm => by omega)⟩
    case round =>
      obtain ⟨j, hj, rfl, rfl, HJ⟩ := hrel
      by_cases hlt4 : j < 4
      case neg =>
        have h4 : ¬ (j : Int) < 4 := by omega
        have HT1 : Hid ((v1, v2, v3) = match placeM (ms.drop (k + 1)) with | some q => (q.1, q.2, true) | none => (0, 0, false)) := Lib.hid (by
          rw [HT.out, HDR.out, free_no (fun m hm => HJ.out m (by omega)), if_neg (by decide)])
        clear HT HDR HJ
        go_wp2_with fail
        go_roundw
        case rel => exact ⟨k + 1, by omega, by go_num, HI1, HR1, HT1⟩
        case measure => simp [intOf]; omega
      have h4 : (j : Int) < 4 := by omega
      have h0 : 0 ≤ (j : Int) := by omega
      have hix := HIX.out j hlt4
      by_cases hz : st.n j = 0
      · have hzb : ((st.n j : Int) == 0) = true := by simp [hz]
        have hT := HT.out
        rw [HDR.out, free_at hlt4 HJ.out hz, if_pos h0] at hT
        obtain ⟨e1, e2, e3⟩ : v1 = num ∧ v2 = (j : Int) ∧ v3 = true := by simpa using hT
        subst e1 e3
        have HV2 := Lib.hid e2
        have q0 := HRP.out.cell 0
        simp only [List.getElem?_cons_zero] at q0
        have hgne := HGP.out
        clear hT HT HDR HJ hz e2
        have k0 := HR1.out.cell 0
        have kf0 := HR1.out.frozen 0
        have k1 := HR1.out.cell 1
        have kf1 := HR1.out.frozen 1
        simp only [List.getElem?_cons_zero, List.getElem?_cons_succ] at k0 k1
        go_wp2_with fail
        exact bodyPost_ret (v := .tuple #[.agg #[.int .i64 v1, .int .i64 (j : Int)], .bool true]) (by simp [results, Try.results26, go_sem, *]) rfl ⟨by rw [HV2.out], ((HI1.out.setCell (p := ⟨w.heap.size, 0, none⟩) (Nat.le_refl _) (.int .i64 v1)).setCell (p := ⟨w.heap.size, 1, none⟩) (Nat.le_refl _) (.int .i64 (j : Int)))⟩

      · have hzb : ((st.n j : Int) == 0) = false := by simp [hz]
        have HJ1 : Hid (∀ m, m < j + 1 → st.n m ≠ 0) := Lib.hid (fun m hm => by
          rcases Nat.lt_succ_iff_lt_or_eq.1 hm with h | h
          · exact HJ.out m h
          · rw [h]; exact hz)
        clear hz HJ
        go_wp2_with fail
        go_roundw
        case rel => exact ⟨j + 1, by omega, by go_num, by trivial, HJ1⟩
        case measure => simp [intOf]; omega
end Go.Proofs.Ytnojkoefdigcnaa.Hp
