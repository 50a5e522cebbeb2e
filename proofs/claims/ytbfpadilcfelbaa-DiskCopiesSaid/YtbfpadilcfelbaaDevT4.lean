/-
  The reference's all, Sync and Crash.
-/
import Derived.Test.YtbfpadilcfelbaaDevT3
namespace Go.Proofs.Ytbfpadilcfelbaa.Dsk
open Go.RowKit Go.Proofs.Ytbfpadilcfelbaa.Wd

theorem make_boolsT (n : Nat) (hn : n ≤ 1000000) (u : World) : (Instr.makeSlice 35 (.int .i64 (n : Int)) (.int .i64 (n : Int))).run Try.prog u =
    .ok (.slice (some ⟨u.heap.size, 0, none⟩) n n) (u.alloc (.cells (madeCells #[.bool false] n) 4)) := by
  obtain ⟨i0, hi, hz0, hz1, hz2⟩ := info_parts info4
  have h := run_make (P := Try.prog) u 35 4 i0 (.bool false) Try.underlying35 hi hz0 .i64 .i64 (n : Int) (n : Int) (by omega) (Int.le_refl _) (by rw [hz2]; omega) (by omega)
  rw [hz1, Int.toNat_natCast, Nat.mul_one] at h
  exact h
theorem Vs.moreT {w : World} {B B' : Nat} {A : Option Addr} {vs : List Value} (h : Vs w B A vs) (hB : B ≤ B') : Vs w B' A vs := fun hp => by
  obtain ⟨b, o, e, hlt, hr⟩ := h hp
  exact ⟨b, o, e, by omega, hr⟩
theorem fill_setT (z m : Nat) (h : z < m) : (List.replicate z (Value.bool true) ++ List.replicate (m - z) (Value.bool false)).set z (Value.bool true) = List.replicate (z + 1) (Value.bool true) ++ List.replicate (m - (z + 1)) (Value.bool false) := by
  rw [List.set_append_right _ _ (by simp), List.length_replicate, Nat.sub_self, show m - z = m - (z + 1) + 1 from by omega, List.replicate_succ, List.set_cons_zero, List.replicate_succ']
  simp
theorem results_ct {P : Program} {fn : Func} {p q : Tmp} {ty : TypeId} (h : fn.results = #[.cell p ty, .tmp q]) (tmps : Array Value) (w : World) (a : Addr) (v u : Value) (hp : tmps.getD p undef = .pointer (some a)) (hl : (loadVar ty a).run P w = .ok v w) (hq : tmps.getD q undef = u) :
    (results fn tmps).run P w = .ok (.tuple #[v, u]) w := results_cell_tmp h tmps w a v u hp hl hq

set_option maxHeartbeats 1000000 in
theorem rall_any (x : RA) (r : RX) (xs : List Nat) (w : World) (h : RVat w xs x r) (hg : RL x) :
    Calls Try.prog 47 #[x.val r] w fun e w' => ∃ g, e = .returned (.slice (some ⟨g, 0, none⟩) r.m r.m) ∧ Row w' g 4 (bools (List.replicate r.m true)) ∧ w.heap.size ≤ g ∧ Below w.heap.size w w' := by
  obtain ⟨safe, pend, dead, left, fails, ops⟩ := x
  obtain ⟨A, n, c, A2, m, c2⟩ := r
  have hpl : pend.length = m := h.pl
  have hm1 : m ≤ 1000000 := by have : pend.length ≤ 1000000 := hg.few; omega
  clear hpl h hg
  have hmk := make_boolsT m hm1
  show Calls _ _ #[.agg #[.slice A n c, .slice A2 m c2, .bool dead, .int .i64 left, .int .i64 fails, .int .i64 ops]] w _
  obtain ⟨W1, hW1⟩ : ∃ W1, W1 = (w.alloc (.cells #[.slice A n c, .slice A2 m c2, .bool dead, .int .i64 left, .int .i64 fails, .int .i64 ops] 31)).alloc (.cells (madeCells #[.bool false] m) 4) := ⟨_, rfl⟩
  have R1 : Hid (Row W1 (w.heap.size + 1) 4 (List.replicate m (Value.bool false))) := (show Row _ _ _ _ by
    have := Row.made (w.alloc (.cells #[.slice A n c, .slice A2 m c2, .bool dead, .int .i64 left, .int .i64 fails, .int .i64 ops] 31)) 4 (.bool false) m
    rw [hW1]; simpa using this)
  have HB : Hid (Below w.heap.size w W1) := (show Below _ _ _ by rw [hW1]; exact ((Below.refl _ _).alloc (Nat.le_refl _) _).alloc (by simp) _)
  have HW := Lib.hid hW1
  clear hW1
  go_enter Try.func47, Try.ntmps47
  go_wp2
  clear hmk
  rw [← HW.out]
  go_loopw [11] (fun i wr => ∃ z : Nat, z ≤ m ∧ i = .int .i64 z ∧ Hid (Row wr (w.heap.size + 1) 4 (List.replicate z (Value.bool true) ++ List.replicate (m - z) (Value.bool false))) ∧ Hid (Below w.heap.size w wr)) (fun i _ => m - (intOf i).toNat)
  case atStart => exact ⟨0, by omega, rfl, by simpa using R1, HB⟩
  rename World => wr
  obtain ⟨z, hz, rfl, HR, HBr⟩ := hrel
  clear R1 HB HW
  by_cases hlt : z < m
  case neg =>
    obtain rfl : z = m := by omega
    have HR2 : Hid (Row wr (w.heap.size + 1) 4 (bools (List.replicate z true))) := (show Row _ _ _ _ by
      have := HR.out
      rw [show bools (List.replicate z true) = List.replicate z (Value.bool true) from by simp [bools]]
      simpa using this)
    clear HR
    go_wp2
    go_ret
    exact ⟨_, rfl, HR2.out, by omega, HBr.out⟩
  have hcell : wr.cell? ⟨w.heap.size + 1, z, none⟩ = some (Value.bool false) := by
    rw [HR.out.cell, List.getElem?_append_right (by simp), List.length_replicate, Nat.sub_self, List.getElem?_replicate, if_pos (by omega)]
  have hfr := HR.out.frozen z
  go_wp2
  go_roundw
  case rel => exact ⟨z + 1, by omega, by go_num, (show Row _ _ _ _ by rw [← fill_setT z m hlt]; exact HR.out.store z _), HBr.out.setCell (p := ⟨w.heap.size + 1, z, none⟩) (by simp) _⟩
  case measure => simp [intOf]; omega

set_option maxRecDepth 100000 in
set_option maxHeartbeats 2000000 in
theorem rcrash_any (x : RA) (r : RX) (xs : List Nat) (Ak : Option Addr) (nk ck : Nat) (kl : List Bool) (w : World) (h : RVat w xs x r) (hg : RL x) (hk : kl.length = nk) (hv : Vs w w.heap.size Ak (bools kl)) :
    Calls Try.prog 34 #[x.val r, .slice Ak nk ck] w fun e w' => ∃ gs cap, e = .returned ((x.crashR kl).val ⟨some ⟨gs, 0, none⟩, r.n, cap, none, 0, 0⟩) ∧ w.heap.size ≤ gs ∧ gs < w'.heap.size ∧ r.n ≤ cap ∧ Blks w' w'.heap.size (some ⟨gs, 0, none⟩) (x.crashR kl).safe ∧ Below w.heap.size w w' := by
  obtain ⟨safe, pend, dead, left, fails, ops⟩ := x
  obtain ⟨A, n, c, A2, m, c2⟩ := r
  have hlive : ∀ w', Below w.heap.size w w' → Calls Try.prog 46 #[.agg (rcs ⟨A, n, c, A2, m, c2⟩ dead left fails ops).toArray, .slice Ak nk ck] w' fun e w'' => ∃ gs cap, e = .returned (.agg (rcs ⟨some ⟨gs, 0, none⟩, n, cap, none, 0, 0⟩ dead left fails ops).toArray) ∧ w'.heap.size ≤ gs ∧ gs < w''.heap.size ∧ n ≤ cap ∧ Blks w'' w''.heap.size (some ⟨gs, 0, none⟩) (liveR safe pend kl pend.length) ∧ Below w'.heap.size w' w'' :=
    fun w' hb => rlive_any ⟨safe, pend, dead, left, fails, ops⟩ ⟨A, n, c, A2, m, c2⟩ xs Ak nk ck kl w' (h.below hb) hg hk (Vs.moreT (hv.below hb) hb.size)
  have HLV := Lib.hid hlive
  clear h hg hk hv hlive
  obtain ⟨W1, hW1⟩ : ∃ W1, W1 = w.alloc (.cells (rcs ⟨A, n, c, A2, m, c2⟩ dead left fails ops).toArray 31) := ⟨_, rfl⟩
  obtain ⟨W2, hW2⟩ : ∃ W2, W2 = W1.alloc (.cells rz.toArray 31) := ⟨_, rfl⟩
  have s1 : W1.heap.size = w.heap.size + 1 := by rw [hW1]; simp
  have s2 : W2.heap.size = w.heap.size + 1 + 1 := by rw [hW2]; simp [s1]
  have R0 : Hid (Row W2 w.heap.size 31 (rcs ⟨A, n, c, A2, m, c2⟩ dead left fails ops)) := (show Row _ _ _ _ by rw [hW2, hW1]; exact (Row.new w _ (rcs ⟨A, n, c, A2, m, c2⟩ dead left fails ops)).alloc _)
  have R1 : Hid (Row W2 (w.heap.size + 1) 31 rz) := (show Row _ _ _ _ by
    have := Row.new W1 31 rz
    rw [s1] at this
    rw [hW2]; exact this)
  have HB2 : Hid (Below w.heap.size w W2) := (show Below _ _ _ by
    rw [hW2, hW1]
    exact ((Below.refl _ _).alloc (Nat.le_refl _) _).alloc (by simp) _)
  have HW : Hid (W2 = (w.alloc (.cells (rcs ⟨A, n, c, A2, m, c2⟩ dead left fails ops).toArray 31)).alloc (.cells rz.toArray 31)) := (show _ = _ by rw [hW2, hW1])
  have HC := Lib.hid (HLV.out W2 HB2.out)
  clear hW1 hW2 s1
  show Calls _ _ #[.agg #[.slice A n c, .slice A2 m c2, .bool dead, .int .i64 left, .int .i64 fails, .int .i64 ops], .slice Ak nk ck] w _
  go_enter Try.func34, Try.ntmps34
  go_wp2_with fail
  refine Calls.mono (HW.out ▸ HC.out) ?_
  rintro e w1 ⟨gs, cap, rfl, hgs, hgl, hcap, hbl, hb⟩
  have hb' : Below W2.heap.size W2 w1 := by rw [HW.out]; exact hb
  have hgs' : W2.heap.size ≤ gs := by rw [HW.out]; exact hgs
  have G0 := Lib.hid (R0.out.below hb' (by omega))
  have G1 := Lib.hid (R1.out.below hb' (by omega))
  have HBL : Hid (Blks w1 w1.heap.size (some ⟨gs, 0, none⟩) (liveR safe pend kl pend.length)) := hbl
  have HB1 := Lib.hid (HB2.out.trans (hb'.mono HB2.out.size))
  have s4 : w.heap.size + 1 + 1 ≤ w1.heap.size := by have := hb'.size; omega
  have hgs2 : w.heap.size + 1 + 1 ≤ gs := by omega
  clear hbl hb hb' hgs hgs' R0 R1 HB2 HW HC HLV s2
  go_wp2_with (first
    | (with_reducible refine wpList_store_in (op := ⟨none, _, _, _, _, _⟩) ?_ 31 (.tmp 2) (.tmp 7) (by rfl) w.heap.size 0 (rcs ⟨some ⟨gs, 0, none⟩, n, cap, none, 0, 0⟩ dead left fails ops) ?_ ?_ 31 (rcs ⟨A, n, c, A2, m, c2⟩ dead left fails ops) ?_ ?_ (rcs_one _ _ _ _ _) ?_ ?_))
  all_goals try (first | rfl | exact G0.out | exact size31 | exact size39 | (show 0 + 6 ≤ 6; decide) | (show 0 + 64 ≤ 64; decide))
  intro w2 hr hgr
  rw [splice_all _ _ (by rfl)] at hr
  have K0 := Lib.hid hr
  have K1 := Lib.hid (G1.out.grown hgr (by simp))
  have KB := Lib.hid (HB1.out.grown hgr HB1.out.size (fun j hj => by simp at hj; omega))
  have KL : Hid (Blks w2 w2.heap.size (some ⟨gs, 0, none⟩) (liveR safe pend kl pend.length)) := (HBL.out.off (F := fun j => j = w.heap.size) (Nat.le_refl _) (Off.of_grown hgr (fun k hk => by simpa using hk.symm)) (fun b o s e => by cases e; omega)).more hgr.size
  have s5 : w.heap.size + 1 + 1 ≤ w2.heap.size := Nat.le_trans s4 hgr.size
  have hgl2 : gs < w2.heap.size := Nat.lt_of_lt_of_le hgl hgr.size
  clear hr hgr G0 G1 HB1 HBL s4
  have c2' : w2.cell? ⟨w.heap.size, 2, none⟩ = some (.bool dead) := K0.out.cell 2
  have c3 : w2.cell? ⟨w.heap.size, 3, none⟩ = some (.int .i64 left) := K0.out.cell 3
  have c4 : w2.cell? ⟨w.heap.size, 4, none⟩ = some (.int .i64 fails) := K0.out.cell 4
  have f2 := K0.out.frozen 2
  have f3 := K0.out.frozen 3
  have f4 := K0.out.frozen 4
  obtain ⟨wx, hwx⟩ : ∃ wx, wx = ((w2.setCell ⟨w.heap.size, 2, none⟩ (.bool false)).setCell ⟨w.heap.size, 3, none⟩ (.int .i64 (-1))).setCell ⟨w.heap.size, 4, none⟩ (.int .i64 (-1)) := ⟨_, rfl⟩
  have X0 : Hid (Row wx w.heap.size 31 (rcs ⟨some ⟨gs, 0, none⟩, n, cap, none, 0, 0⟩ false (-1) (-1) ops)) := (show Row _ _ _ _ by rw [hwx]; exact ((K0.out.store 2 _).store 3 _).store 4 _)
  have X1 : Hid (Row wx (w.heap.size + 1) 31 rz) := (show Row _ _ _ _ by rw [hwx]; exact ((K1.out.far (by simp) _).far (by simp) _).far (by simp) _)
  have hoff : Off (fun j => j = w.heap.size) w2 wx := by rw [hwx]; exact (((Off.refl (fun j => j = w.heap.size) w2).setCell (p := ⟨w.heap.size, 2, none⟩) (.inl rfl) _).setCell (p := ⟨w.heap.size, 3, none⟩) (.inl rfl) _).setCell (p := ⟨w.heap.size, 4, none⟩) (.inl rfl) _
  have XL : Hid (Blks wx wx.heap.size (some ⟨gs, 0, none⟩) (liveR safe pend kl pend.length)) := (KL.out.off (Nat.le_refl _) hoff (fun b o s e => by cases e; omega)).more hoff.size
  have XB : Hid (Below w.heap.size w wx) := (show Below _ _ _ from KB.out.trans (hoff.below (fun k hk => by omega) KB.out.size))
  have hgl3 : gs < wx.heap.size := Nat.lt_of_lt_of_le hgl2 hoff.size
  have HWX := Lib.hid hwx
  clear hwx hoff K0 K1 KB KL
  go_wp2_with (first
    | (with_reducible refine wpList_load_mid (op := ⟨some 11, _, _, _, _, _⟩) ?_ 31 (.tmp 2) (by rfl) w.heap.size 0 ?_ (rcs ⟨some ⟨gs, 0, none⟩, n, cap, none, 0, 0⟩ false (-1) (-1) ops) _ ?_ Try.underlying31 ?_ ?_ ?_)
    | (with_reducible refine wpList_store_in (op := ⟨none, _, _, _, _, _⟩) ?_ 31 (.tmp 4) (.tmp 11) (by rfl) (w.heap.size + 1) 0 (rcs ⟨some ⟨gs, 0, none⟩, n, cap, none, 0, 0⟩ false (-1) (-1) ops) ?_ ?_ 31 rz ?_ ?_ (rcs_one _ _ _ _ _) ?_ ?_))
  all_goals try (first | rfl | (rw [← HWX.out]; exact Row.all X0.out) | (rw [← HWX.out]; exact X1.out) | exact size31 | exact size39 | (show 0 + 6 ≤ 6; decide) | (show 0 + 64 ≤ 64; decide))
  rw [← HWX.out]
  intro w3 hr hgr
  rw [splice_all _ _ (by rfl)] at hr
  have Y1 := Lib.hid hr
  have YB := Lib.hid (XB.out.grown hgr XB.out.size (fun j hj => by simp at hj; omega))
  have YL : Hid (Blks w3 w3.heap.size (some ⟨gs, 0, none⟩) (liveR safe pend kl pend.length)) := (XL.out.off (F := fun j => j = w.heap.size + 1) (Nat.le_refl _) (Off.of_grown hgr (fun k hk => by simpa using hk.symm)) (fun b o s e => by cases e; omega)).more hgr.size
  have hgl4 : gs < w3.heap.size := Nat.lt_of_lt_of_le hgl3 hgr.size
  clear hr hgr X0 X1 XB XL HWX c2' c3 c4 f2 f3 f4
  go_wp2
  exact bodyPost_ret (v := .agg (rcs ⟨some ⟨gs, 0, none⟩, n, cap, none, 0, 0⟩ false (-1) (-1) ops).toArray) (results_cell (p := 4) (ty := 31) rfl _ _ ⟨w.heap.size + 1, 0, none⟩ _ rfl (run_load_rcs _ _ _ rfl Y1.out)) rfl ⟨gs, cap, rfl, by omega, hgl4, hcap, YL.out, YB.out⟩
end Go.Proofs.Ytbfpadilcfelbaa.Dsk
