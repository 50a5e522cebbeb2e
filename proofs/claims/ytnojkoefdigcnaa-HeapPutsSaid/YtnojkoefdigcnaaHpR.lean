/-
  Heap: Room.
-/
import Derived.Test.YtnojkoefdigcnaaHp7
import Derived.LoopTactic
import Derived.Deep.RegionHeld
import Derived.Deep.Cut
import Derived.WalkLawsBesides
namespace Go.Proofs.Ytnojkoefdigcnaa.Hp
set_option maxRecDepth 100000
open Go.RowKit Go.Proofs.Ytnojkoefdigcnaa.Dsk Go.Proofs.Ytnojkoefdigcnaa.Pg Go.Proofs.Ytnojkoefdigcnaa.Rec Go.Proofs.Ytnojkoefdigcnaa.Wd Go.Proofs.Ytnojkoefdigcnaa.Wi Go.Proofs.Ytnojkoefdigcnaa.Ky Go.Proofs.Ytnojkoefdigcnaa.Oct Go.Proofs.Ytnojkoefdigcnaa.Rec Go.Proofs.Ytnojkoefdigcnaa.Lift

/-- how many of the first k slots are free -/
def frees (p : PM) : Nat → Nat
  | 0 => 0
  | k + 1 => frees p k + (if (p.sl k).length = 0 then 1 else 0)
theorem frees_le (p : PM) : ∀ k, frees p k ≤ k
  | 0 => Nat.le_refl _
  | k + 1 => by
    have := frees_le p k
    simp only [frees]
    split <;> omega
def roomM (l : List PM) : List Nat := l.map (frees · 4)
def ivals (L : List Nat) : List Value := L.map fun (x : Nat) => .int .i64 (x : Int)
theorem ivals_len (L : List Nat) : (ivals L).length = L.length := by simp [ivals]
theorem ivals_set (L : List Nat) (k x : Nat) : (ivals L).set k (.int .i64 (x : Int)) = ivals (L.set k x) := by simp [ivals, List.map_set]
/-- the counts when k pages are told, and j slots of the next one -/
def roomK (ms : List PM) (k : Nat) (c : Nat) (n : Nat) : List Nat := (ms.take k).map (frees · 4) ++ c :: List.replicate (n - k - 1) 0
theorem ivals_at (L : List Nat) (k : Nat) (x : Nat) (h : L[k]? = some x) : (ivals L)[k]? = some (.int .i64 (x : Int)) := by simp [ivals, h]
theorem info_int : (Try.prog.info? 3).map (fun i => (i.zero, i.size, i.bytes)) = some (some (.int .i64 0), 1, 8) := by kernel_rfl
/-- what Room answers -/
def RoomR (w : World) (l : List PM) (e : Ending) (w' : World) : Prop := (itE l ≠ 0 ∧ e = .returned (.tuple #[.slice none 0 0, .int .i64 (itE l)]) ∧ Below w.heap.size w w') ∨
  (itE l = 0 ∧ ∃ g, e = .returned (.tuple #[.slice (some ⟨g, 0, none⟩) l.length l.length, .int .i64 0]) ∧ w.heap.size ≤ g ∧ Row w' g 3 (ivals (roomM l)) ∧ Below w.heap.size w w')
theorem roomK_at (ms : List PM) (k c n : Nat) (h : k ≤ ms.length) : (roomK ms k c n)[k]? = some c := by
  unfold roomK
  have h2 : ((ms.take k).map (frees · 4)).length = k := by rw [List.length_map, List.length_take]; omega
  rw [List.getElem?_append_right (by omega), h2, Nat.sub_self]
  rfl
theorem roomK_set (ms : List PM) (k c d n : Nat) (h : k ≤ ms.length) : (roomK ms k c n).set k d = roomK ms k d n := by
  unfold roomK
  have h2 : ((ms.take k).map (frees · 4)).length = k := by rw [List.length_map, List.length_take]; omega
  rw [List.set_append_right _ _ (by omega), h2, Nat.sub_self]
  rfl
theorem roomK_next {ms : List PM} {k : Nat} {p : PM} (hp : ms[k]? = some p) (n : Nat) (hn : ms.length = n) (hk : k + 1 < n) : roomK ms k (frees p 4) n = roomK ms (k + 1) 0 n := by
  unfold roomK
  rw [List.take_succ_eq_append_getElem (List.getElem?_eq_some_iff.1 hp).1, (List.getElem?_eq_some_iff.1 hp).2, List.map_append, List.append_assoc]
  congr 1
  rw [show n - k - 1 = (n - (k + 1) - 1) + 1 by omega, List.replicate_succ]
  rfl
theorem roomK_last {ms : List PM} {k : Nat} {p : PM} (hp : ms[k]? = some p) (n : Nat) (hn : ms.length = n) (hk : k + 1 = n) : roomK ms k (frees p 4) n = roomM ms := by
  unfold roomK roomM
  have h1 : ms.take (k + 1) = ms := List.take_of_length_le (by omega)
  conv => rhs; rw [← h1]
  rw [List.take_succ_eq_append_getElem (List.getElem?_eq_some_iff.1 hp).1, (List.getElem?_eq_some_iff.1 hp).2, List.map_append, show n - k - 1 = 0 by omega]
  rfl

set_option maxHeartbeats 8000000 in
theorem room_any (l : List PX) (A : Option Addr) (n c : Nat) (w : World) (hn : l.length = n) (hm : n ≤ 10000) (hP : Pgs w w.heap.size A l) (hsl : ∀ x ∈ l, ∀ k, k < 4 → x.s.n k ≤ 140737488355328) :
    Calls Try.prog 19 #[.slice A n c] w (RoomR w (l.map pmOf)) := by
  have HN := Lib.hid hn
  have HP := Lib.hid hP
  have HIT := Lib.hid (items_any l A n c w hn hm hP hsl)
  clear hn hP hsl
  obtain ⟨ms, hms⟩ : ∃ ms, ms = l.map pmOf := ⟨_, rfl⟩
  have HMS := Lib.hid hms
  rw [← hms] at HIT ⊢
  clear hms
  have HML : Hid (ms.length = n) := Lib.hid (by rw [HMS.out, List.length_map, HN.out])
  obtain ⟨E, hE⟩ : ∃ E, E = itE ms := ⟨_, rfl⟩
  have HE := Lib.hid hE
  unfold ItR at HIT
  rw [← hE] at HIT
  clear hE
  generalize itL ms = L at HIT
  go_enter Try.func19, Try.ntmps19
  go_wp2_with fail
  refine HIT.out.mono ?_
  rintro e w2 ⟨Ai, ci, rfl, -, hb⟩
  have HB2 := Lib.hid hb
  clear hb HIT
  generalize L.length = ni
  by_cases he : E = 0
  case neg =>
    have he2 : (E != 0) = true := by simp [he]
    have HF : Hid (RoomR w ms (.returned (.tuple #[.slice none 0 0, .int .i64 E])) w2) := Lib.hid (.inl ⟨by rw [← HE.out]; exact he, by rw [HE.out], HB2.out⟩)
    clear he HB2
    go_wp2
    exact bodyPost_ret (v := .tuple #[.slice none 0 0, .int .i64 E]) (by simp [results, Try.results19, go_sem]) rfl HF.out
  subst he
  have hmk : ∀ u : World, (Instr.makeSlice 52 (.int .i64 (n : Int)) (.int .i64 (n : Int))).run Try.prog u = .ok (.slice (some ⟨u.heap.size, 0, none⟩) n n) (u.alloc (.cells (madeCells #[.int .i64 0] n) 3)) := fun u =>
    run_make_row' (P := Try.prog) 52 3 (.int .i64 0) 8 Try.underlying52 info_int rfl .i64 .i64 n (by omega) (by omega) u
  go_upto_region 5 with fail
  clear hmk
  have HR : Hid (Row (w2.alloc (.cells (madeCells #[.int .i64 0] n) 3)) w2.heap.size 3 (ivals (if 0 < n then roomK ms 0 0 n else roomM ms))) := Lib.hid (by
    have h1 := Row.made w2 3 (.int .i64 0) n
    have h2 : ivals (if 0 < n then roomK ms 0 0 n else roomM ms) = List.replicate n (Value.int .i64 0) := by
      split
      · unfold roomK ivals
        simp only [List.take_zero, List.map_nil, List.nil_append]
        rw [show n = (n - 0 - 1) + 1 by omega, List.replicate_succ]
        simp
      · have : n = 0 := by omega
        subst this
        rw [List.eq_nil_of_length_eq_zero HML.out]
        rfl
    rw [h2]; exact h1)
  have HBA : Hid (Below w.heap.size w (w2.alloc (.cells (madeCells #[.int .i64 0] n) 3))) := Lib.hid (HB2.out.alloc HB2.out.size _)
  have HGW : Hid (w.heap.size ≤ w2.heap.size) := Lib.hid HB2.out.size
  obtain ⟨g, hg⟩ : ∃ g, g = w2.heap.size := ⟨_, rfl⟩
  rw [← hg] at HR HGW ⊢
  generalize w2.alloc (.cells (madeCells #[.int .i64 0] n) 3) = w3 at HR HBA ⊢
  clear hg HB2
  go_wp2_with fail
  go_loopw [24] (fun i wr => ∃ k : Nat, k ≤ n ∧ i = .int .i64 (k : Int) ∧ Hid (Below w.heap.size w wr) ∧ Hid (Row wr g 3 (ivals (if k < n then roomK ms k 0 n else roomM ms)))) (fun i _ => n - (intOf i).toNat)
  case atStart => exact ⟨0, by omega, rfl, HBA, HR⟩
  case round =>
    obtain ⟨k, hk, rfl, HI, HRK⟩ := hrel
    clear HBA HR
    by_cases hlt : k < n
    case neg =>
      have h1 : ¬ (k : Int) < (n : Int) := by omega
      have HF : Hid (RoomR w ms (.returned (.tuple #[.slice (some ⟨g, 0, none⟩) n n, .int .i64 0])) wr) := Lib.hid (.inr ⟨HE.out.symm, g, by rw [HML.out], HGW.out, by have := HRK.out; rwa [if_neg hlt] at this, HI.out⟩)
      clear HRK
      go_wp2
      exact bodyPost_ret (v := .tuple #[.slice (some ⟨g, 0, none⟩) n n, .int .i64 0]) (by simp [results, Try.results19, go_sem]) rfl HF.out
    have h1 : (k : Int) < (n : Int) := by omega
    have HRK0 : Hid (Row wr g 3 (ivals (roomK ms k 0 n))) := Lib.hid (by have := HRK.out; rwa [if_pos hlt] at this)
    obtain ⟨x, hx⟩ : ∃ x, l[k]? = some x := ⟨_, List.getElem?_eq_getElem (by rw [HN.out]; exact hlt)⟩
    have hxm : ms[k]? = some (pmOf x) := by rw [HMS.out, List.getElem?_map, hx]; rfl
    obtain ⟨b, o, rfl, hblt, c0, c1, c2, c3, c4, c5⟩ := (HP.out.below HI.out).cells hx
    have HAT := Lib.hid (HP.out.at_ x (List.mem_of_getElem? hx))
    have HNXT : Hid (roomK ms k (frees (pmOf x) 4) n = if k + 1 < n then roomK ms (k + 1) 0 n else roomM ms) := Lib.hid (by
      split
      · exact roomK_next hxm n HML.out (by omega)
      · exact roomK_last hxm n HML.out (by omega))
    have HB : Hid (Below wr.heap.size wr (wr.alloc (.cells (pcs x.num x.lsn x.s).toArray 73))) := Lib.hid ((Below.refl _ _).alloc (Nat.le_refl _) _)
    have HRP : Hid (Row (wr.alloc (.cells (pcs x.num x.lsn x.s).toArray 73)) wr.heap.size 73 (pcs x.num x.lsn x.s)) := Lib.hid (Row.new _ _ _)
    clear hx hxm HRK
    obtain ⟨num, lsn, sl, st⟩ := x
    dsimp only at *
    have HIX := Lib.hid (idx_any st)
    unfold scs at HIX
    have HPC : Hid (pcs num lsn st = [.int .i64 num, .int .u64 (lsn : Int), .slice (st.A 0) (st.n 0) (st.c 0), .slice (st.A 1) (st.n 1) (st.c 1), .slice (st.A 2) (st.n 2) (st.c 2), .slice (st.A 3) (st.n 3) (st.c 3)]) := Lib.hid rfl
    obtain ⟨p, hp⟩ : ∃ p, p = pmOf ⟨num, lsn, sl, st⟩ := ⟨_, rfl⟩
    have HPL : Hid (∀ j, j < 4 → (p.sl j).length = st.n j) := Lib.hid (fun j hj => by rw [hp]; exact HAT.out.lens j hj)
    rw [← hp] at HNXT
    rw [HPC.out] at HB HRP
    clear hp HPC
    go_upto_region 8 with fail
    clear c0 c1 c2 c3 c4 c5
    generalize (wr.alloc (.cells #[.int .i64 num, .int .u64 (lsn : Int), .slice (st.A 0) (st.n 0) (st.c 0), .slice (st.A 1) (st.n 1) (st.c 1), .slice (st.A 2) (st.n 2) (st.c 2), .slice (st.A 3) (st.n 3) (st.c 3)] 73)) = w1 at HB HRP ⊢
    have HI1 := Lib.hid (HI.out.trans (HB.out.mono HI.out.size))
    have HK1 : Hid (Row w1 g 3 (ivals (roomK ms k (frees p 0) n))) := Lib.hid (HRK0.out.below HB.out HRK0.out.lt)
    have q2 := HRP.out.cell 2
    have q3 := HRP.out.cell 3
    have q4 := HRP.out.cell 4
    have q5 := HRP.out.cell 5
    simp only [List.getElem?_cons_zero, List.getElem?_cons_succ] at q2 q3 q4 q5
    clear HB HI HRK0
    go_wp2_with fail
    clear q2 q3 q4 q5 HRP
    go_loopw [31] (fun i wr => ∃ j : Nat, j ≤ 4 ∧ i = .int .i64 (j : Int) ∧ Hid (Below w.heap.size w wr) ∧ Hid (Row wr g 3 (ivals (roomK ms k (frees p j) n)))) (fun i _ => 4 - (intOf i).toNat)
    case atStart => exact ⟨0, by omega, rfl, HI1, HK1⟩
    case round =>
      obtain ⟨j, hj, rfl, HJ, HK⟩ := hrel
      clear HI1 HK1
      by_cases hlt4 : j < 4
      case neg =>
        have h4 : ¬ (j : Int) < 4 := by omega
        obtain rfl : j = 4 := by omega
        have HKN : Hid (Row wr g 3 (ivals (if k + 1 < n then roomK ms (k + 1) 0 n else roomM ms))) := Lib.hid (by rw [← HNXT.out]; exact HK.out)
        clear HK
        go_wp2_with fail
        go_roundw
        case rel => exact ⟨k + 1, by omega, by go_num, HJ, HKN⟩
        case measure => simp [intOf]; omega
      have h4 : (j : Int) < 4 := by omega
      have h0 : 0 ≤ (j : Int) := by omega
      have hix := HIX.out j hlt4
      have HF2 : Hid (frees p (j + 1) = frees p j + (if st.n j = 0 then 1 else 0)) := Lib.hid (by simp only [frees]; rw [HPL.out j hlt4])
      have HFB := frees_le p j
      by_cases hz : st.n j = 0
      · have hzb : ((st.n j : Int) == 0) = true := by simp [hz]
        have hcell : wr.cell? ⟨g, k, none⟩ = some (.int .i64 ((frees p j : Nat) : Int)) := by
          rw [HK.out.cell]
          exact ivals_at _ _ _ (roomK_at ms k _ n (by rw [HML.out]; omega))
        have hfr := HK.out.frozen k
        have hsm : wrap64 ((frees p j : Int) + 1) = ((frees p (j + 1) : Nat) : Int) := by
          rw [HF2.out, if_pos hz]
          have h5 : -9223372036854775808 ≤ (frees p j : Int) + 1 ∧ (frees p j : Int) + 1 ≤ 9223372036854775807 := by omega
          simp [wrap64]
          omega
        have HK3 : Hid (Row (wr.setCell ⟨g, k, none⟩ (.int .i64 ((frees p (j + 1) : Nat) : Int))) g 3 (ivals (roomK ms k (frees p (j + 1)) n))) := Lib.hid (by
          have h6 := HK.out.store k (.int .i64 ((frees p (j + 1) : Nat) : Int))
          rw [ivals_set, roomK_set ms k _ _ n (by rw [HML.out]; omega)] at h6
          exact h6)
        have HJ3 : Hid (Below w.heap.size w (wr.setCell ⟨g, k, none⟩ (.int .i64 ((frees p (j + 1) : Nat) : Int)))) := Lib.hid (HJ.out.setCell (p := ⟨g, k, none⟩) HGW.out _)
        clear hz HK HJ HF2 HFB
        generalize frees p j = fj at hcell hsm
        obtain ⟨fn, hfn⟩ : ∃ fn, fn = frees p (j + 1) := ⟨_, rfl⟩
        rw [← hfn] at hsm HK3 HJ3
        have HFN := Lib.hid hfn
        clear hfn
        go_upto_region 13 with fail
        generalize wr.setCell ⟨g, k, none⟩ (.int .i64 (fn : Int)) = w5 at HK3 HJ3 ⊢
        clear hcell hfr hsm hix hzb
        have HK4 : Hid (Row w5 g 3 (ivals (roomK ms k (frees p (j + 1)) n))) := Lib.hid (by have := HK3.out; rwa [HFN.out] at this)
        clear HK3
        go_wp2_with fail
        go_roundw
        case rel => exact ⟨j + 1, by omega, by go_num, HJ3, HK4⟩
        case measure => simp [intOf]; omega
      · have hzb : ((st.n j : Int) == 0) = false := by simp [hz]
        have HK2 : Hid (Row wr g 3 (ivals (roomK ms k (frees p (j + 1)) n))) := Lib.hid (by rw [HF2.out, if_neg hz]; exact HK.out)
        clear hz HK HF2 HFB
        go_wp2_with fail
        go_roundw
        case rel => exact ⟨j + 1, by omega, by go_num, HJ, HK2⟩
        case measure => simp [intOf]; omega
end Go.Proofs.Ytnojkoefdigcnaa.Hp
