/-
  Heap: the reference's Room.
-/
import Derived.Test.YtnojkoefdigcnaaHpR
import Derived.LoopTactic
import Derived.Deep.RegionHeld
import Derived.Deep.Cut
import Derived.WalkLawsBesides
namespace Go.Proofs.Ytnojkoefdigcnaa.Hp
set_option maxRecDepth 100000
open Go.RowKit Go.Proofs.Ytnojkoefdigcnaa.Dsk Go.Proofs.Ytnojkoefdigcnaa.Pg Go.Proofs.Ytnojkoefdigcnaa.Rec Go.Proofs.Ytnojkoefdigcnaa.Wd Go.Proofs.Ytnojkoefdigcnaa.Wi Go.Proofs.Ytnojkoefdigcnaa.Ky Go.Proofs.Ytnojkoefdigcnaa.Oct Go.Proofs.Ytnojkoefdigcnaa.Rec Go.Proofs.Ytnojkoefdigcnaa.Lift

def RRoomR (w : World) (l : List PM) (e : Ending) (w' : World) : Prop := ∃ A c, e = .returned (.slice A l.length c) ∧ w'.ownsRow w.heap.size 3 1 (.slice A l.length c) l.length (ivals (roomM l)) ∧ Below w.heap.size w w'
theorem wpList_append_int {w : World} {ops : Array Oper} {rest : List Oper} {o : Oper} {a : Act} {Q : Exit → Act → World → Prop} (hgd : Region.wanted o (yielded ops a.tmps) = true) (s x : Operand)
    (ho : o.op = .call { callee := .builtin .append, args := #[s, x], argTypes := #[52, 52] })
    (base : Nat) (v : Value) (k : Nat) (L : List Nat) (hs : a.eval s = v) (h : w.ownsRow base 3 1 v k (ivals L)) (ad : Addr) (c y : Nat) (hx : a.eval x = .slice (some ad) 1 c) (hcs : w.cell? (ad.add 0) = some (.int .i64 (y : Int)))
    (hn : k ≤ 100000) (hbase : base ≤ w.heap.size)
    (hK : ∀ v' w', w'.ownsRow base 3 1 v' (k + 1) (ivals (L ++ [y])) → w.grownBy w' v.ownBlock → wpList Try.prog ops Q rest (a.put o.dst v') w') : wpList Try.prog ops Q (o :: rest) a w := by
  obtain ⟨i, hi, hz, hz1, hz2⟩ := info_parts3 info_int
  refine wpList_append_p hgd (fun _ => True) s x 52 ho base 3 i _ 1 8 Try.underlying52 hi hz hz1 hz2 rfl (by omega) v k (ivals L) hs h ad 1 c [.int .i64 (y : Int)] hx rfl (fun j u hu => ?_) (one_cell (y : Int)) (by unfold maxLen; omega) (by omega) hbase (by omega) (fun _ _ => trivial) (fun _ _ => trivial) ?_ ?_
  · obtain rfl : j = 0 := by
      have := (List.getElem?_eq_some_iff.1 hu).1
      simp at this
      exact this
    obtain rfl : .int .i64 (y : Int) = u := by simpa using hu
    exact hcs
  · intro g e
    obtain ⟨⟨cs, hr⟩, -, -⟩ := ownS_type h e
    exact ⟨cs.toArray, _, hr, fun _ _ => trivial⟩
  · intro v' w' h2 h3 h4 h5
    refine hK v' w' ?_ h3
    rw [show ivals (L ++ [y]) = ivals L ++ [.int .i64 (y : Int)] by simp [ivals]]
    exact h2
set_option maxHeartbeats 8000000 in
theorem rroom_any (l : List PX) (A : Option Addr) (n c : Nat) (w : World) (hn : l.length = n) (hm : n ≤ 10000) (hP : Pgs w w.heap.size A l) :
    Calls Try.prog 27 #[.slice A n c] w (RRoomR w (l.map pmOf)) := by
  have HN := Lib.hid hn
  have HP := Lib.hid hP
  clear hn hP
  obtain ⟨ms, hms⟩ : ∃ ms, ms = l.map pmOf := ⟨_, rfl⟩
  have HMS := Lib.hid hms
  rw [← hms]
  clear hms
  have HML : Hid (ms.length = n) := Lib.hid (by rw [HMS.out, List.length_map, HN.out])
  go_enter Try.func27, Try.ntmps27
  go_wp2_with fail
  have HI0 : Hid (Below w.heap.size w w) := Lib.hid (Below.refl _ _)
  have HV0 : Hid (w.ownsRow w.heap.size 3 1 (.slice none 0 0) 0 (ivals (roomM (ms.take 0)))) := Lib.hid ⟨rfl, .inl ⟨rfl, rfl⟩⟩
  go_loopw [3, 11] (fun t i wr => ∃ (k : Nat) (u : Value), k ≤ n ∧ i = .int .i64 (k : Int) ∧ t = u ∧ Hid (wr.ownsRow w.heap.size 3 1 u k (ivals (roomM (ms.take k)))) ∧ Hid (Below w.heap.size w wr)) (fun _ i _ => n - (intOf i).toNat)
  case atStart => exact ⟨0, _, by omega, rfl, rfl, HV0, HI0⟩
  case round =>
    obtain ⟨k, u, hk, rfl, rfl, HV, HI⟩ := hrel
    clear HI0 HV0
    by_cases hlt : k < n
    case neg =>
      have h1 : ¬ (k : Int) < (n : Int) := by omega
      obtain ⟨Av, cv, rfl, -, -, -⟩ := ownS_slice HV.out
      have HF : Hid (RRoomR w ms (.returned (.slice Av k cv)) wr) := Lib.hid (by
        have e5 : k = ms.length := by rw [HML.out]; omega
        have hv := HV.out
        rw [List.take_of_length_le (by omega)] at hv
        subst e5
        exact ⟨Av, cv, rfl, hv, HI.out⟩)
      clear HV HI
      go_wp2
      go_ret
      exact HF.out
    have h1 : (k : Int) < (n : Int) := by omega
    obtain ⟨x, hx⟩ : ∃ x, l[k]? = some x := ⟨_, List.getElem?_eq_getElem (by rw [HN.out]; exact hlt)⟩
    have hxm : ms[k]? = some (pmOf x) := by rw [HMS.out, List.getElem?_map, hx]; rfl
    obtain ⟨b, o, rfl, hblt, c0, c1, c2, c3, c4, c5⟩ := (HP.out.below HI.out).cells hx
    have HAT := Lib.hid (HP.out.at_ x (List.mem_of_getElem? hx))
    have HNX : Hid (roomM (ms.take (k + 1)) = roomM (ms.take k) ++ [frees (pmOf x) 4]) := Lib.hid (by
      unfold roomM
      rw [List.take_succ_eq_append_getElem (List.getElem?_eq_some_iff.1 hxm).1, (List.getElem?_eq_some_iff.1 hxm).2, List.map_append]
      rfl)
    have HB : Hid (Below wr.heap.size wr (wr.alloc (.cells (pcs x.num x.lsn x.s).toArray 73))) := Lib.hid ((Below.refl _ _).alloc (Nat.le_refl _) _)
    have HRP : Hid (Row (wr.alloc (.cells (pcs x.num x.lsn x.s).toArray 73)) wr.heap.size 73 (pcs x.num x.lsn x.s)) := Lib.hid (Row.new _ _ _)
    clear hx hxm
    obtain ⟨num, lsn, sl, st⟩ := x
    dsimp only at *
    have HIX := Lib.hid (idx_any st)
    unfold scs at HIX
    have HPC : Hid (pcs num lsn st = [.int .i64 num, .int .u64 (lsn : Int), .slice (st.A 0) (st.n 0) (st.c 0), .slice (st.A 1) (st.n 1) (st.c 1), .slice (st.A 2) (st.n 2) (st.c 2), .slice (st.A 3) (st.n 3) (st.c 3)]) := Lib.hid rfl
    obtain ⟨p, hp⟩ : ∃ p, p = pmOf ⟨num, lsn, sl, st⟩ := ⟨_, rfl⟩
    have HPL : Hid (∀ j, j < 4 → (p.sl j).length = st.n j) := Lib.hid (fun j hj => by rw [hp]; exact HAT.out.lens j hj)
    rw [← hp] at HNX
    rw [HPC.out] at HB HRP
    clear hp HPC
    go_upto_region 6 with fail
    clear c0 c1 c2 c3 c4 c5
    generalize (wr.alloc (.cells #[.int .i64 num, .int .u64 (lsn : Int), .slice (st.A 0) (st.n 0) (st.c 0), .slice (st.A 1) (st.n 1) (st.c 1), .slice (st.A 2) (st.n 2) (st.c 2), .slice (st.A 3) (st.n 3) (st.c 3)] 73)) = w1 at HB HRP ⊢
    have HI1 := Lib.hid (HI.out.trans (HB.out.mono HI.out.size))
    have HV1 := Lib.hid (ownS_below HV.out HB.out)
    have q2 := HRP.out.cell 2
    have q3 := HRP.out.cell 3
    have q4 := HRP.out.cell 4
    have q5 := HRP.out.cell 5
    simp only [List.getElem?_cons_zero, List.getElem?_cons_succ] at q2 q3 q4 q5
    clear HB HI HV
    go_wp2_with fail
    clear q2 q3 q4 q5 HRP
    go_loopw [6, 17] (fun t i wr => ∃ j : Nat, j ≤ 4 ∧ i = .int .i64 (j : Int) ∧ t = .int .i64 ((frees p j : Nat) : Int) ∧ wr = w1) (fun _ i _ => 4 - (intOf i).toNat)
    case atStart => exact ⟨0, by omega, rfl, rfl, rfl⟩
    case round =>
      obtain ⟨j, hj, rfl, rfl, rfl⟩ := hrel
      by_cases hlt4 : j < 4
      case neg =>
        have h4 : ¬ (j : Int) < 4 := by omega
        obtain rfl : j = 4 := by omega
        obtain ⟨Av, cv, rfl, -, -, -⟩ := ownS_slice HV1.out
        obtain ⟨fv, hfv⟩ : ∃ fv, fv = frees p 4 := ⟨_, rfl⟩
        rw [← hfv] at HNX ⊢
        clear hfv
        have hwb : Below wr.heap.size wr (wr.alloc (.cells #[.int .i64 (fv : Int)] 3)) := (Below.refl _ _).alloc (Nat.le_refl _) _
        have HV2 := Lib.hid (ownS_below HV1.out hwb)
        have HI2 := Lib.hid (HI1.out.trans (hwb.mono HI1.out.size))
        have HCL : Hid ((wr.alloc (.cells #[.int .i64 (fv : Int)] 3)).cell? ((⟨wr.heap.size, 0, none⟩ : Addr).add 0) = some (.int .i64 (fv : Int))) := Lib.hid (by
          rw [Addr.add_lit, Nat.zero_add]
          exact (Row.new wr 3 [.int .i64 (fv : Int)]).cell 0)
        have HS2 : Hid (w.heap.size ≤ (wr.alloc (.cells #[.int .i64 (fv : Int)] 3)).heap.size) := Lib.hid HI2.out.size
        have HK1 : Hid (k ≤ 100000) := Lib.hid (by omega)
        clear hwb HV1 HI1
        go_upto_region 13 with (first
          | ((with_reducible refine wpList_append_int (o := ⟨some 29, _, _, _, _, _⟩) ?_ (.tmp 26) (.tmp 28) ?_ w.heap.size (.slice Av k cv) k (roomM (ms.take k)) ?_ HV2.out ⟨wr.heap.size, 0, none⟩ 1 fv ?_ HCL.out HK1.out HS2.out ?_); rotate_left 4; intro v11 w11 hp11 hg11))
        all_goals try (first | rfl | (simp [Act.eval, go_sem]; done))
        have HV11 : Hid (w11.ownsRow w.heap.size 3 1 v11 (k + 1) (ivals (roomM (ms.take (k + 1))))) := Lib.hid (by rw [HNX.out]; exact hp11)
        have HI11 := Lib.hid (HI2.out.grown hg11 HI2.out.size (fun k hk => (ownS_type HV2.out hk).2.1))
        clear hp11 hg11 HV2 HI2 HCL
        go_wp2_with fail
        go_roundw
        case rel => exact ⟨k + 1, _, by omega, by go_num, rfl, HV11, HI11⟩
        case measure => simp [intOf]; omega
      have h4 : (j : Int) < 4 := by omega
      have h0 : 0 ≤ (j : Int) := by omega
      have hix := HIX.out j hlt4
      have HF2 : Hid (frees p (j + 1) = frees p j + (if st.n j = 0 then 1 else 0)) := Lib.hid (by simp only [frees]; rw [HPL.out j hlt4])
      have HFB := frees_le p j
      by_cases hz : st.n j = 0
      · have hzb : ((st.n j : Int) == 0) = true := by simp [hz]
        have HF3 : Hid (((frees p j : Nat) : Int) + 1 = ((frees p (j + 1) : Nat) : Int)) := Lib.hid (by rw [HF2.out, if_pos hz]; rfl)
        clear hz
        go_wp2_with fail
        go_roundw
        case rel => exact ⟨j + 1, by omega, by go_num, by rw [HF2.out, if_pos (by simpa using hzb)]; go_num, by trivial⟩
        case measure => simp [intOf]; omega
      · have hzb : ((st.n j : Int) == 0) = false := by simp [hz]
        have HF3 : Hid (frees p (j + 1) = frees p j) := Lib.hid (by rw [HF2.out, if_neg hz]; rfl)
        clear hz
        go_wp2_with fail
        go_roundw
        case rel => exact ⟨j + 1, by omega, by go_num, by rw [HF3.out], by trivial⟩
        case measure => simp [intOf]; omega
end Go.Proofs.Ytnojkoefdigcnaa.Hp
