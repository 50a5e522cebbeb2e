/-
  Which rows may be: rowMayBe (a map of each transaction's last Lsn), CheckRow.
-/
import Derived.Test.YtnljhopikjkflaaRec12
import Derived.Maps.Own
import Derived.Maps.OwnOps
import Derived.Maps.Views
import Derived.Deep.Cut
import Derived.Deep.CutRange
namespace Go.Proofs.Ytnljhopikjkflaa.Rec
set_option maxRecDepth 100000
open Go.RowKit Go.Proofs.Ytnljhopikjkflaa.Wd Go.Proofs.Ytnljhopikjkflaa.Oct Go.Proofs.Ytnljhopikjkflaa.Dsk Go.Maps

/-- the Lsn of a transaction's last record -/
def lastM (rs : List RM) (t : Nat) : Nat := rs.foldl (fun a r => if r.txn = t then r.lsn else a) 0
theorem lastM_snoc (rs : List RM) (r : RM) (t : Nat) : lastM (rs ++ [r]) t = if r.txn = t then r.lsn else lastM rs t := by simp [lastM]
/-- the first one's Lsn -/
def baseM (rs : List RM) : Nat := (rs.headD ⟨0, 0, 0, 0, 0, 0, [], [], 0⟩).lsn
def rowS (rs : List RM) (i : Nat) : Bool :=
  match rs[i]? with
  | none => true
  | some r => okM r && decide (r.lsn = baseM rs + i) && (decide (r.back < baseM rs) || decide (r.back = lastM (rs.take i) r.txn))
/-- which rows may be -/
def rowM (rs : List RM) : Bool := decide (∀ i, i < rs.length → rowS rs i = true)
structure U4 (r : RM) : Prop where
  u1 : InU64 r.lsn
  u2 : InU64 r.txn
  u3 : InU64 r.back
  u4 : InU64 r.next
section
variable {H : Type}
/-- the map of last Lsns as it reads -/
def mapM (rs : List RM) : DataW H := rs.foldl (fun D r => D.put (.int .u64 (r.txn : Int)) (.lit (.int .u64 (r.lsn : Int)))) (.map [])
theorem mapM_snoc (rs : List RM) (r : RM) : (mapM (rs ++ [r]) : DataW H) = (mapM rs).put (.int .u64 (r.txn : Int)) (.lit (.int .u64 (r.lsn : Int))) := by simp [mapM]
theorem rev_ind {P : List RM → Prop} (h0 : P []) (h1 : ∀ l r, P l → P (l ++ [r])) (l : List RM) : P l := by
  rw [← List.reverse_reverse l]
  induction l.reverse with
  | nil => exact h0
  | cons r t ih => rw [List.reverse_cons]; exact h1 _ _ ih
theorem mapM_is (rs : List RM) : IsMap (mapM rs : DataW H) := by
  refine rev_ind (P := fun rs => IsMap (mapM rs : DataW H)) isMap_empty (fun l r ih => ?_) rs
  rw [mapM_snoc]
  exact ih.put _ _
theorem mapM_at (rs : List RM) (t : Nat) : ((mapM rs : DataW H)).atKey (.int .u64 (t : Int)) (.lit (.int .u64 0)) = .lit (.int .u64 (lastM rs t : Int)) := by
  refine rev_ind (P := fun rs => (mapM rs : DataW H).atKey (.int .u64 (t : Int)) (.lit (.int .u64 0)) = .lit (.int .u64 (lastM rs t : Int))) rfl (fun rs r ih => ?_) rs
  show (mapM (rs ++ [r])).atKey _ _ = _
  rw [mapM_snoc, lastM_snoc]
  by_cases h : r.txn = t
  · subst h
    rw [if_pos rfl, atKey_put_same (mapM_is rs) (by trivial)]
  · rw [if_neg h, atKey_put_other (by intro e; cases e; exact h rfl)]
    exact ih
end

/-- what the rounds hold -/
structure MI (w : World) (xs : List (RM × RS)) (k : Nat) (W : World) : Prop where
  own : W.ownsMap Try.prog 32 (plainElem (H := Unit) Try.prog 32) w.heap.size k (mapM ((xs.map (·.1)).take k))
  hb : Below w.heap.size w W
  ok : ∀ i, i < k → rowS (xs.map (·.1)) i = true
theorem MI.then {w W W' : World} {xs : List (RM × RS)} {k : Nat} (h : MI w xs k W) (hb : Below W.heap.size W W') : MI w xs k W' :=
  ⟨h.own.kept (row := none) ⟨hb.os, hb.tape, hb.output, hb.size, fun j hj _ => hb.block j hj⟩ (by simp), h.hb.trans (hb.mono h.hb.size), h.ok⟩
theorem below_drew (W : World) : Below W.heap.size W W.drew := ⟨rfl, rfl, rfl, Nat.le_refl _, fun _ _ => rfl⟩
theorem law64 : Keyed Try.prog 32 := int_keyed Try.underlying32
theorem zero64 (w : World) : (zeroValue 32).run Try.prog w = .ok (.int .u64 0) w := by kernel_rfl
theorem wf64 {x : Nat} (h : InU64 x) : (Lit.int .u64 (x : Int)).wf = true := by
  have := h
  simp [InU64] at this
  simp [Lit.wf, IntKind.min, IntKind.max, IntKind.signed, IntKind.bits]
  omega
theorem baseM_eq {xs : List (RM × RS)} {x : RM × RS} (h : xs[0]? = some x) : baseM (xs.map (·.1)) = x.1.lsn := by
  cases xs with
  | nil => cases h
  | cons y l => cases h; rfl
theorem rowS_eq {xs : List (RM × RS)} {k : Nat} {x : RM × RS} (h : xs[k]? = some x) : rowS (xs.map (·.1)) k = (okM x.1 && decide (x.1.lsn = baseM (xs.map (·.1)) + k) && (decide (x.1.back < baseM (xs.map (·.1))) || decide (x.1.back = lastM ((xs.map (·.1)).take k) x.1.txn))) := by
  unfold rowS
  rw [List.getElem?_map, h]
  rfl
theorem take_snoc {xs : List (RM × RS)} {k : Nat} {x : RM × RS} (h : xs[k]? = some x) : (xs.map (·.1)).take (k + 1) = (xs.map (·.1)).take k ++ [x.1] := by
  have hk := (List.getElem?_eq_some_iff.1 h).1
  rw [List.take_succ_eq_append_getElem (by simpa using hk)]
  congr 2
  simp [(List.getElem?_eq_some_iff.1 h).2]
/-- what the rounds before say of Lsns: the next one is not beyond the greatest -/
theorem next_le {xs : List (RM × RS)} {k : Nat} (hu : ∀ x ∈ xs, U4 x.1) (hk : k < xs.length) (hok : ∀ i, i < k → rowS (xs.map (·.1)) i = true) : baseM (xs.map (·.1)) + k ≤ 18446744073709551616 := by
  match k with
  | 0 =>
    have h0 : xs[0]? = some xs[0] := List.getElem?_eq_getElem hk
    have := (hu xs[0] (List.getElem_mem hk)).u1
    rw [baseM_eq h0]
    simp [InU64] at this
    omega
  | j + 1 =>
    have hj : xs[j]? = some xs[j] := List.getElem?_eq_getElem (by omega)
    have h1 := hok j (by omega)
    rw [rowS_eq hj] at h1
    simp only [Bool.and_eq_true, decide_eq_true_eq] at h1
    have := (hu xs[j] (List.getElem_mem (by omega))).u1
    simp [InU64] at this
    omega

set_option maxHeartbeats 4000000 in
theorem rowMayBe_any (A : Option Addr) (n c : Nat) (xs : List (RM × RS)) (w : World) (hn : xs.length = n) (hm : n ≤ 100000) (hR : Rl w w.heap.size A xs) (hu : ∀ x ∈ xs, U4 x.1) :
    Calls Try.prog 33 #[.slice A n c] w fun e w' => e = .returned (.bool (rowM (xs.map (·.1)))) ∧ Below w.heap.size w w' := by
  have HN := Lib.hid hn
  have HR := Lib.hid hR
  have HU := Lib.hid hu
  have HM : Hid (∀ b, (b = true ↔ ∀ i, i < n → rowS (xs.map (·.1)) i = true) → b = rowM (xs.map (·.1))) := fun b hb => by
    rw [Bool.eq_iff_iff, hb]
    unfold rowM
    simp only [decide_eq_true_eq, List.length_map, hn]
  clear hn hR hu
  have hmm := @run_makeMap Try.prog
  go_enter Try.func33, Try.ntmps33
  go_wp2
  have HI0 : Hid (MI w xs 0 (w.alloc (.map #[] 0))) := ⟨by rw [List.take_zero]; exact World.ownsMap_made _ _ _ _, (Below.refl _ _).alloc (Nat.le_refl _) _, fun i hi => by omega⟩
  go_loopw [9] (fun t9 wr => ∃ k : Nat, k ≤ n ∧ t9 = .int .i64 (k : Int) ∧ Hid (MI w xs k wr)) (fun t9 _ => n - (intOf t9).toNat)
  case atStart => exact ⟨0, by omega, rfl, HI0⟩
  case round =>
    obtain ⟨k, hk, rfl, HI⟩ := hrel
    clear HI0
    by_cases hlt : k < n
    case neg =>
      have h1 : ¬ (k : Int) < (n : Int) := by omega
      obtain rfl : k = n := by omega
      go_wp2
      go_ret
      exact ⟨ret_bool (HM.out true (by simp only [true_iff]; exact HI.out.ok)), HI.out.hb⟩
    have h1 : (k : Int) < (n : Int) := by omega
    have h0n : 0 < (n : Int) := by omega
    have h0N : 0 < n := by omega
    obtain ⟨x, hx⟩ : ∃ x, xs[k]? = some x := ⟨_, List.getElem?_eq_getElem (by rw [HN.out]; exact hlt)⟩
    obtain ⟨y, hy⟩ : ∃ y, xs[0]? = some y := ⟨_, List.getElem?_eq_getElem (by rw [HN.out]; omega)⟩
    obtain ⟨b, o, rfl, hblt, hc⟩ := HR.out.1 (by rw [HN.out]; omega)
    have HC : Hid (wr.rangeAt b (o + k * 9) [.int .u64 (x.1.lsn : Int), .int .i64 x.1.kind, .int .u64 (x.1.txn : Int), .int .u64 (x.1.back : Int), .int .i64 x.1.page, .int .i64 x.1.slot, .slice x.2.Ao x.2.no x.2.co, .slice x.2.An x.2.nn x.2.cn, .int .u64 (x.1.next : Int)]) := fun j v hj => (HI.out.hb.cell (p := ⟨b, o + k * 9 + j, none⟩) hblt).trans (hc k x hx j v hj)
    have HIN := Lib.hid (show (Try.prog.info? 34).map (·.size) = some ([.int .u64 (x.1.lsn : Int), .int .i64 x.1.kind, .int .u64 (x.1.txn : Int), .int .u64 (x.1.back : Int), .int .i64 x.1.page, .int .i64 x.1.slot, .slice x.2.Ao x.2.no x.2.co, .slice x.2.An x.2.nn x.2.cn, .int .u64 (x.1.next : Int)] : List Value).length from rec_info)
    have HL0 : Hid (∀ W, Below w.heap.size w W → W.cell? ⟨b, o, none⟩ = some (.int .u64 (y.1.lsn : Int))) := (show ∀ W, _ → _ from fun W hW => (hW.cell (p := ⟨b, o, none⟩) hblt).trans (by have := hc 0 y hy 0 (.int .u64 (y.1.lsn : Int)) rfl; simpa using this))
    have HRX := Lib.hid (HR.out.2 x (List.mem_of_getElem? hx))
    have HUX := Lib.hid (HU.out x (List.mem_of_getElem? hx))
    have HUY := Lib.hid (HU.out y (List.mem_of_getElem? hy))
    have HBE := Lib.hid (baseM_eq hy)
    have HSE := Lib.hid (rowS_eq hx)
    have HTS := Lib.hid (take_snoc hx)
    have HNL := Lib.hid (next_le HU.out (by rw [HN.out]; exact hlt) HI.out.ok)
    clear hc hx hy
    obtain ⟨r, s⟩ := x
    dsimp only at HC HIN HRX HUX HSE HTS
    go_upto_region 5 with (with_reducible refine wpList_load_row (op := ⟨some 13, _, _, _, _, _⟩) ?_ 34 (.tmp 12) ?_ b (o + k * 9) ?_ [.int .u64 (r.lsn : Int), .int .i64 r.kind, .int .u64 (r.txn : Int), .int .u64 (r.back : Int), .int .i64 r.page, .int .i64 r.slot, .slice s.Ao s.no s.co, .slice s.An s.nn s.cn, .int .u64 (r.next : Int)] _ HC.out Try.underlying34 ?_ HIN.out ?_)
    all_goals try (first | rfl | (simp; done))
    have RX5 : Hid (Row (wr.alloc (.cells #[.int .u64 (r.lsn : Int), .int .i64 r.kind, .int .u64 (r.txn : Int), .int .u64 (r.back : Int), .int .i64 r.page, .int .i64 r.slot, .slice s.Ao s.no s.co, .slice s.An s.nn s.cn, .int .u64 (r.next : Int)] 34)) wr.heap.size 34 (rcs r s)) := Row.new wr _ _
    have HI5 : Hid (MI w xs k (wr.alloc (.cells #[.int .u64 (r.lsn : Int), .int .i64 r.kind, .int .u64 (r.txn : Int), .int .u64 (r.back : Int), .int .i64 r.page, .int .i64 r.slot, .slice s.Ao s.no s.co, .slice s.An s.nn s.cn, .int .u64 (r.next : Int)] 34))) := ⟨HI.out.own.alloc _, HI.out.hb.alloc HI.out.hb.size _, HI.out.ok⟩
    have HS5 : Hid (w.heap.size < wr.heap.size) := HI.out.own.lt
    generalize wr.alloc (.cells #[.int .u64 (r.lsn : Int), .int .i64 r.kind, .int .u64 (r.txn : Int), .int .u64 (r.back : Int), .int .i64 r.page, .int .i64 r.slot, .slice s.Ao s.no s.co, .slice s.An s.nn s.cn, .int .u64 (r.next : Int)] 34) = w5 at RX5 HI5 ⊢
    generalize wr.heap.size = P5 at RX5 HS5 ⊢
    clear HI HC HIN
    have HL5 := Lib.hid (HL0.out w5 HI5.out.hb)
    obtain ⟨l0, hl0⟩ : ∃ l0, l0 = y.1.lsn := ⟨_, rfl⟩
    rw [← hl0] at HL0 HL5 HBE
    have HYL : Hid (l0 < 18446744073709551616) := (show _ < _ by rw [hl0]; have := HUY.out.u1; simpa [InU64] using this)
    have HXL : Hid (r.lsn < 18446744073709551616) := (show _ < _ by have := HUX.out.u1; simpa [InU64] using this)
    rw [HBE.out] at HSE HNL
    have HQ : Hid (okM r = true → (r.lsn = (l0 + k) % 18446744073709551616 ↔ r.lsn = l0 + k)) := (show _ → _ from fun h => by
      have h3 := (ok_parts r h).1.2.2.1
      have := HNL.out
      have := HXL.out
      omega)
    have hwk : IntKind.u64.wrap (k : Int) = (k : Int) := by rw [IntKind.wrap_u64]; omega
    obtain ⟨q, hq⟩ : ∃ q, q = (l0 + k) % 18446744073709551616 := ⟨_, rfl⟩
    have hwq : IntKind.u64.wrap ((l0 : Int) + (k : Int)) = (q : Int) := by rw [IntKind.wrap_u64, hq]; omega
    rw [← hq] at HQ
    have HMB : Hid (∀ W, Below w.heap.size w W → Calls Try.prog 61 #[.agg #[.int .u64 (r.lsn : Int), .int .i64 r.kind, .int .u64 (r.txn : Int), .int .u64 (r.back : Int), .int .i64 r.page, .int .i64 r.slot, .slice s.Ao s.no s.co, .slice s.An s.nn s.cn, .int .u64 (r.next : Int)]] W fun e w' => e = .returned (.bool (okM r)) ∧ Below W.heap.size W w') := (show ∀ W, _ → _ from fun W hW => mayBe_any r s w.heap.size W (HRX.out.below hW) hW.size)
    clear hl0 hq HBE HNL HUY HL5
    refine wp_region_held_drew (S := fun w' => MI w xs k w' ∧ Row w' P5 34 (rcs r s)) (by kernel_rfl) ⟨HI5.out.then (below_drew _), RX5.out.drew⟩ (fun hHeld => ?_)
    have S0 := Lib.hid hHeld
    clear hHeld HI5 RX5
    generalize w5.drew = w6 at S0 ⊢
    have hs6 : P5 < w6.heap.size := S0.out.2.lt
    cases hok : okM r
    · rw [hok] at HMB HSE
      refine wpAnyH_take (i := 0) (oi := ⟨some 14, _, _, _, _, _⟩) rfl (by kernel_rfl) (by kernel_rfl) (by kernel_rfl) (fun _ _ _ h => h) (yieldsIf_load_mid (by rfl) 34 (.tmp 5) rfl P5 0 ?xp1 (rcs r s) _ (fun _ h => Row.all h.2) Try.underlying34 rfl rec_info) S0.out ?rp1
      case xp1 => first | rfl | (simp [Act.eval, go_sem]; done)
      try simp only [Act.put, List.setIfInBounds_toArray, List.set_cons_zero, List.set_cons_succ]
      refine wpAnyH_ready (rs := [1]) (by kernel_rfl) (by simp) ?_
      refine (AllReadyH.cons rfl (fun K hK => ?_) AllReadyH.nil)
      go_simp
      refine (HMB.out _ S0.out.1.hb).mono ?_
      rintro e w7 ⟨rfl, hb7⟩
      have S7 : Hid (MI w xs k w7 ∧ Row w7 P5 34 (rcs r s)) := ⟨S0.out.1.then hb7, S0.out.2.below hb7 hs6⟩
      clear hb7 S0
      refine hK _ _ S7.out (fun _ => ?_)
      clear hK K
      try simp only [Act.put, List.setIfInBounds_toArray, List.set_cons_zero, List.set_cons_succ]
      refine wpAnyH_take (i := 2) (oi := ⟨some 16, _, _, _, _, _⟩) (v := ?vp3) rfl (by kernel_rfl) (by kernel_rfl) (by kernel_rfl) (fun _ _ _ h => h) (Or.inl ⟨by rfl, ?yp3⟩) S7.out ?rp3
      case yp3 =>
        rintro w' hSw
        go_simp
        try with_reducible rfl
      try simp only [Act.put, List.setIfInBounds_toArray, List.set_cons_zero, List.set_cons_succ]
      refine wpAnyH_take (i := 3) (oi := ⟨some 17, _, _, _, _, _⟩) (v := ?vp4) rfl (by kernel_rfl) (by kernel_rfl) (by kernel_rfl) (fun _ _ _ h => h) (Or.inl ⟨by rfl, ?yp4⟩) S7.out ?rp4
      case yp4 =>
        rintro w' hSw
        go_simp
        try with_reducible rfl
      try simp only [Act.put, List.setIfInBounds_toArray, List.set_cons_zero, List.set_cons_succ]
      refine wpAnyH_take (i := 4) (oi := ⟨some 18, _, _, _, _, _⟩) (v := undef) rfl (by kernel_rfl) (by kernel_rfl) (by kernel_rfl) (fun _ _ _ h => h) (Or.inr ⟨by rfl, rfl⟩) S7.out ?rp5
      try simp only [Act.put, List.setIfInBounds_toArray, List.set_cons_zero, List.set_cons_succ]
      refine wpAnyH_take (i := 5) (oi := ⟨some 19, _, _, _, _, _⟩) (v := undef) rfl (by kernel_rfl) (by kernel_rfl) (by kernel_rfl) (fun _ _ _ h => h) (Or.inr ⟨by rfl, rfl⟩) S7.out ?rp6
      try simp only [Act.put, List.setIfInBounds_toArray, List.set_cons_zero, List.set_cons_succ]
      refine wpAnyH_take (i := 6) (oi := ⟨some 20, _, _, _, _, _⟩) (v := undef) rfl (by kernel_rfl) (by kernel_rfl) (by kernel_rfl) (fun _ _ _ h => h) (Or.inr ⟨by rfl, rfl⟩) S7.out ?rp7
      try simp only [Act.put, List.setIfInBounds_toArray, List.set_cons_zero, List.set_cons_succ]
      refine wpAnyH_take (i := 7) (oi := ⟨some 21, _, _, _, _, _⟩) (v := undef) rfl (by kernel_rfl) (by kernel_rfl) (by kernel_rfl) (fun _ _ _ h => h) (Or.inr ⟨by rfl, rfl⟩) S7.out ?rp8
      try simp only [Act.put, List.setIfInBounds_toArray, List.set_cons_zero, List.set_cons_succ]
      refine wpAnyH_take (i := 8) (oi := ⟨some 22, _, _, _, _, _⟩) (v := undef) rfl (by kernel_rfl) (by kernel_rfl) (by kernel_rfl) (fun _ _ _ h => h) (Or.inr ⟨by rfl, rfl⟩) S7.out ?rp9
      try simp only [Act.put, List.setIfInBounds_toArray, List.set_cons_zero, List.set_cons_succ]
      refine wpAnyH_take (i := 9) (oi := ⟨some 23, _, _, _, _, _⟩) (v := undef) rfl (by kernel_rfl) (by kernel_rfl) (by kernel_rfl) (fun _ _ _ h => h) (Or.inr ⟨by rfl, rfl⟩) S7.out ?rp10
      try simp only [Act.put, List.setIfInBounds_toArray, List.set_cons_zero, List.set_cons_succ]
      refine wpAnyH_take (i := 10) (oi := ⟨some 24, _, _, _, _, _⟩) (v := undef) rfl (by kernel_rfl) (by kernel_rfl) (by kernel_rfl) (fun _ _ _ h => h) (Or.inr ⟨by rfl, rfl⟩) S7.out ?rp11
      try simp only [Act.put, List.setIfInBounds_toArray, List.set_cons_zero, List.set_cons_succ]
      refine wpAnyH_take (i := 11) (oi := ⟨some 25, _, _, _, _, _⟩) (v := undef) rfl (by kernel_rfl) (by kernel_rfl) (by kernel_rfl) (fun _ _ _ h => h) (Or.inr ⟨by rfl, rfl⟩) S7.out ?rp12
      try simp only [Act.put, List.setIfInBounds_toArray, List.set_cons_zero, List.set_cons_succ]
      refine wpAnyH_take (i := 12) (oi := ⟨some 26, _, _, _, _, _⟩) (v := undef) rfl (by kernel_rfl) (by kernel_rfl) (by kernel_rfl) (fun _ _ _ h => h) (Or.inr ⟨by rfl, rfl⟩) S7.out ?rp13
      try simp only [Act.put, List.setIfInBounds_toArray, List.set_cons_zero, List.set_cons_succ]
      refine wpAnyH_take (i := 13) (oi := ⟨some 27, _, _, _, _, _⟩) (v := undef) rfl (by kernel_rfl) (by kernel_rfl) (by kernel_rfl) (fun _ _ _ h => h) (Or.inr ⟨by rfl, rfl⟩) S7.out ?rp14
      try simp only [Act.put, List.setIfInBounds_toArray, List.set_cons_zero, List.set_cons_succ]
      refine wpAnyH_take (i := 14) (oi := ⟨some 28, _, _, _, _, _⟩) (v := ?vp15) rfl (by kernel_rfl) (by kernel_rfl) (by kernel_rfl) (fun _ _ _ h => h) (Or.inl ⟨by rfl, ?yp15⟩) S7.out ?rp15
      case yp15 =>
        rintro w' hSw
        go_simp
        try with_reducible rfl
      try simp only [Act.put, List.setIfInBounds_toArray, List.set_cons_zero, List.set_cons_succ]
      refine wpAnyH_done (by kernel_rfl) ?_ _
      go_wp2
      go_ret
      exact ⟨ret_bool (HM.out false (by simp only [Bool.false_eq_true, false_iff]; intro hall; have := hall k hlt; rw [HSE.out] at this; simp at this)), S7.out.1.hb⟩
    · rw [hok] at HMB HSE
      refine wpAnyH_take (i := 0) (oi := ⟨some 14, _, _, _, _, _⟩) rfl (by kernel_rfl) (by kernel_rfl) (by kernel_rfl) (fun _ _ _ h => h) (yieldsIf_load_mid (by rfl) 34 (.tmp 5) rfl P5 0 ?xq1 (rcs r s) _ (fun _ h => Row.all h.2) Try.underlying34 rfl rec_info) S0.out ?rq1
      case xq1 => first | rfl | (simp [Act.eval, go_sem]; done)
      try simp only [Act.put, List.setIfInBounds_toArray, List.set_cons_zero, List.set_cons_succ]
      refine wpAnyH_ready (rs := [1]) (by kernel_rfl) (by simp) ?_
      refine (AllReadyH.cons rfl (fun K hK => ?_) AllReadyH.nil)
      go_simp
      refine (HMB.out _ S0.out.1.hb).mono ?_
      rintro e w7 ⟨rfl, hb7⟩
      have S7 : Hid (MI w xs k w7 ∧ Row w7 P5 34 (rcs r s)) := ⟨S0.out.1.then hb7, S0.out.2.below hb7 hs6⟩
      clear hb7 S0
      refine hK _ _ S7.out (fun _ => ?_)
      clear hK K
      try simp only [Act.put, List.setIfInBounds_toArray, List.set_cons_zero, List.set_cons_succ]
      refine wpAnyH_take (i := 2) (oi := ⟨some 16, _, _, _, _, _⟩) (v := ?vq3) rfl (by kernel_rfl) (by kernel_rfl) (by kernel_rfl) (fun _ _ _ h => h) (Or.inl ⟨by rfl, ?yq3⟩) S7.out ?rq3
      case yq3 =>
        rintro w' hSw
        go_simp
        try with_reducible rfl
      try simp only [Act.put, List.setIfInBounds_toArray, List.set_cons_zero, List.set_cons_succ]
      refine wpAnyH_take (i := 3) (oi := ⟨some 17, _, _, _, _, _⟩) (v := ?vq4) rfl (by kernel_rfl) (by kernel_rfl) (by kernel_rfl) (fun _ _ _ h => h) (Or.inl ⟨by rfl, ?yq4⟩) S7.out ?rq4
      case yq4 =>
        rintro w' hSw
        go_simp
        try with_reducible rfl
      try simp only [Act.put, List.setIfInBounds_toArray, List.set_cons_zero, List.set_cons_succ]
      refine wpAnyH_take (i := 4) (oi := ⟨some 18, _, _, _, _, _⟩) (v := ?vq5) rfl (by kernel_rfl) (by kernel_rfl) (by kernel_rfl) (fun _ _ _ h => h) (Or.inl ⟨by rfl, ?yq5⟩) S7.out ?rq5
      case yq5 =>
        rintro w' hSw
        go_simp
        try with_reducible rfl
      try simp only [Act.put, List.setIfInBounds_toArray, List.set_cons_zero, List.set_cons_succ]
      refine wpAnyH_take (i := 5) (oi := ⟨some 19, _, _, _, _, _⟩) (v := ?vq6) rfl (by kernel_rfl) (by kernel_rfl) (by kernel_rfl) (fun _ _ _ h => h) (Or.inl ⟨by rfl, ?yq6⟩) S7.out ?rq6
      case yq6 =>
        rintro w' hSw
        have c0 : w'.cell? ⟨P5, 0, none⟩ = some (.int .u64 (r.lsn : Int)) := hSw.2.cell 0
        go_simp
        try with_reducible rfl
      try simp only [Act.put, List.setIfInBounds_toArray, List.set_cons_zero, List.set_cons_succ]
      refine wpAnyH_take (i := 6) (oi := ⟨some 20, _, _, _, _, _⟩) (v := ?vq7) rfl (by kernel_rfl) (by kernel_rfl) (by kernel_rfl) (fun _ _ _ h => h) (Or.inl ⟨by rfl, ?yq7⟩) S7.out ?rq7
      case yq7 =>
        rintro w' hSw
        go_simp
        try with_reducible rfl
      try simp only [Act.put, List.setIfInBounds_toArray, List.set_cons_zero, List.set_cons_succ]
      refine wpAnyH_take (i := 7) (oi := ⟨some 21, _, _, _, _, _⟩) (v := ?vq8) rfl (by kernel_rfl) (by kernel_rfl) (by kernel_rfl) (fun _ _ _ h => h) (Or.inl ⟨by rfl, ?yq8⟩) S7.out ?rq8
      case yq8 =>
        rintro w' hSw
        go_simp
        try with_reducible rfl
      try simp only [Act.put, List.setIfInBounds_toArray, List.set_cons_zero, List.set_cons_succ]
      refine wpAnyH_take (i := 8) (oi := ⟨some 22, _, _, _, _, _⟩) (v := ?vq9) rfl (by kernel_rfl) (by kernel_rfl) (by kernel_rfl) (fun _ _ _ h => h) (Or.inl ⟨by rfl, ?yq9⟩) S7.out ?rq9
      case yq9 =>
        rintro w' hSw
        go_simp
        try with_reducible rfl
      try simp only [Act.put, List.setIfInBounds_toArray, List.set_cons_zero, List.set_cons_succ]
      refine wpAnyH_take (i := 9) (oi := ⟨some 23, _, _, _, _, _⟩) (v := ?vq10) rfl (by kernel_rfl) (by kernel_rfl) (by kernel_rfl) (fun _ _ _ h => h) (Or.inl ⟨by rfl, ?yq10⟩) S7.out ?rq10
      case yq10 =>
        rintro w' hSw
        have c0 := HL0.out w' hSw.1.hb
        go_simp
        try with_reducible rfl
      try simp only [Act.put, List.setIfInBounds_toArray, List.set_cons_zero, List.set_cons_succ]
      refine wpAnyH_take (i := 10) (oi := ⟨some 24, _, _, _, _, _⟩) (v := ?vq11) rfl (by kernel_rfl) (by kernel_rfl) (by kernel_rfl) (fun _ _ _ h => h) (Or.inl ⟨by rfl, ?yq11⟩) S7.out ?rq11
      case yq11 =>
        rintro w' hSw
        go_simp
        try with_reducible rfl
      try simp only [Act.put, List.setIfInBounds_toArray, List.set_cons_zero, List.set_cons_succ]
      refine wpAnyH_take (i := 11) (oi := ⟨some 25, _, _, _, _, _⟩) (v := ?vq12) rfl (by kernel_rfl) (by kernel_rfl) (by kernel_rfl) (fun _ _ _ h => h) (Or.inl ⟨by rfl, ?yq12⟩) S7.out ?rq12
      case yq12 =>
        rintro w' hSw
        go_simp
        try with_reducible rfl
      try simp only [Act.put, List.setIfInBounds_toArray, List.set_cons_zero, List.set_cons_succ]
      refine wpAnyH_take (i := 12) (oi := ⟨some 26, _, _, _, _, _⟩) (v := ?vq13) rfl (by kernel_rfl) (by kernel_rfl) (by kernel_rfl) (fun _ _ _ h => h) (Or.inl ⟨by rfl, ?yq13⟩) S7.out ?rq13
      case yq13 =>
        rintro w' hSw
        go_simp
        try with_reducible rfl
      try simp only [Act.put, List.setIfInBounds_toArray, List.set_cons_zero, List.set_cons_succ]
      refine wpAnyH_take (i := 13) (oi := ⟨some 27, _, _, _, _, _⟩) (v := ?vq14) rfl (by kernel_rfl) (by kernel_rfl) (by kernel_rfl) (fun _ _ _ h => h) (Or.inl ⟨by rfl, ?yq14⟩) S7.out ?rq14
      case yq14 =>
        rintro w' hSw
        go_simp
        try with_reducible rfl
      try simp only [Act.put, List.setIfInBounds_toArray, List.set_cons_zero, List.set_cons_succ]
      refine wpAnyH_take (i := 14) (oi := ⟨some 28, _, _, _, _, _⟩) (v := ?vq15) rfl (by kernel_rfl) (by kernel_rfl) (by kernel_rfl) (fun _ _ _ h => h) (Or.inl ⟨by rfl, ?yq15⟩) S7.out ?rq15
      case yq15 =>
        rintro w' hSw
        go_simp
        try with_reducible rfl
      try simp only [Act.put, List.setIfInBounds_toArray, List.set_cons_zero, List.set_cons_succ]
      refine wpAnyH_done (by kernel_rfl) ?_ _
      have HBW : Hid (Below w.heap.size w w7) := S7.out.1.hb
      by_cases hrq : r.lsn = q
      case neg =>
        have hne : ((r.lsn : Int) != (q : Int)) = true := by simp; omega
        have HNE : Hid (¬ r.lsn = l0 + k) := (show ¬ _ from fun h => hrq ((HQ.out hok).2 h))
        clear hrq
        go_wp2
        go_ret
        exact ⟨ret_bool (HM.out false (by simp only [Bool.false_eq_true, false_iff]; intro hall; have := hall k hlt; rw [HSE.out] at this; simp [HNE.out] at this)), HBW.out⟩
      have hne : ((r.lsn : Int) != (q : Int)) = false := by simp [hrq]
      have HEQ : Hid (r.lsn = l0 + k) := (show _ = _ from (HQ.out hok).1 hrq)
      clear hrq
      go_upto_region 7 with fail
      refine wp_region_held_drew (S := fun w' => MI w xs k w' ∧ Row w' P5 34 (rcs r s)) (by kernel_rfl) ⟨S7.out.1.then (below_drew _), S7.out.2.drew⟩ (fun hHeld => ?_)
      have S8 := Lib.hid hHeld
      clear hHeld S7 HBW
      generalize w7.drew = w8 at S8 ⊢
      have HBW : Hid (Below w.heap.size w w8) := S8.out.1.hb
      have HKY := Lib.hid (keyOf_int_mk (P := Try.prog) (k := 32) Try.underlying32 (wf64 HUX.out.u2))
      have HLU : Hid (∀ W, MI w xs k W → (Instr.lookup 93 (.map (some w.heap.size)) (.int .u64 (r.txn : Int)) false).run Try.prog W = .ok (.int .u64 (lastM ((xs.map (·.1)).take k) r.txn : Int)) W) := (show ∀ W, _ → _ from fun W hW => by
        obtain ⟨c, hrun, hat, _⟩ := hW.own.lookup_int law64 Try.underlying93 Try.underlying32 (zero64 _) HKY.out
        rw [mapM_at] at hat
        cases hat
        exact hrun)
      by_cases hbk : l0 ≤ r.back
      case neg =>
        have hge : ¬ (l0 : Int) ≤ (r.back : Int) := by omega
        have hge2 : (r.back : Int) < (l0 : Int) := by omega
        have hge3 : decide ((r.back : Int) ≥ (l0 : Int)) = false := by simp; omega
        have HST : Hid (rowS (xs.map (·.1)) k = true) := (show _ = _ by rw [HSE.out]; simp [HEQ.out]; exact .inl (by omega))
        clear hbk
        refine wpAnyH_take (i := 0) (oi := ⟨some 29, _, _, _, _, _⟩) (v := ?vs1_1) rfl (by kernel_rfl) (by kernel_rfl) (by kernel_rfl) (fun _ _ _ h => h) (Or.inl ⟨by rfl, ?ys1_1⟩) S8.out ?rs1_1
        case ys1_1 =>
          rintro w' hSw
          go_simp
          try with_reducible rfl
        try simp only [Act.put, List.setIfInBounds_toArray, List.set_cons_zero, List.set_cons_succ]
        refine wpAnyH_take (i := 1) (oi := ⟨some 30, _, _, _, _, _⟩) (v := ?vs1_2) rfl (by kernel_rfl) (by kernel_rfl) (by kernel_rfl) (fun _ _ _ h => h) (Or.inl ⟨by rfl, ?ys1_2⟩) S8.out ?rs1_2
        case ys1_2 =>
          rintro w' hSw
          have c0 : w'.cell? ⟨P5, 3, none⟩ = some (.int .u64 (r.back : Int)) := hSw.2.cell 3
          go_simp
          try with_reducible rfl
        try simp only [Act.put, List.setIfInBounds_toArray, List.set_cons_zero, List.set_cons_succ]
        refine wpAnyH_take (i := 2) (oi := ⟨some 31, _, _, _, _, _⟩) (v := ?vs1_3) rfl (by kernel_rfl) (by kernel_rfl) (by kernel_rfl) (fun _ _ _ h => h) (Or.inl ⟨by rfl, ?ys1_3⟩) S8.out ?rs1_3
        case ys1_3 =>
          rintro w' hSw
          go_simp
          try with_reducible rfl
        try simp only [Act.put, List.setIfInBounds_toArray, List.set_cons_zero, List.set_cons_succ]
        refine wpAnyH_take (i := 3) (oi := ⟨some 32, _, _, _, _, _⟩) (v := ?vs1_4) rfl (by kernel_rfl) (by kernel_rfl) (by kernel_rfl) (fun _ _ _ h => h) (Or.inl ⟨by rfl, ?ys1_4⟩) S8.out ?rs1_4
        case ys1_4 =>
          rintro w' hSw
          go_simp
          try with_reducible rfl
        try simp only [Act.put, List.setIfInBounds_toArray, List.set_cons_zero, List.set_cons_succ]
        refine wpAnyH_take (i := 4) (oi := ⟨some 33, _, _, _, _, _⟩) (v := ?vs1_5) rfl (by kernel_rfl) (by kernel_rfl) (by kernel_rfl) (fun _ _ _ h => h) (Or.inl ⟨by rfl, ?ys1_5⟩) S8.out ?rs1_5
        case ys1_5 =>
          rintro w' hSw
          go_simp
          try with_reducible rfl
        try simp only [Act.put, List.setIfInBounds_toArray, List.set_cons_zero, List.set_cons_succ]
        refine wpAnyH_take (i := 5) (oi := ⟨some 34, _, _, _, _, _⟩) (v := ?vs1_6) rfl (by kernel_rfl) (by kernel_rfl) (by kernel_rfl) (fun _ _ _ h => h) (Or.inl ⟨by rfl, ?ys1_6⟩) S8.out ?rs1_6
        case ys1_6 =>
          rintro w' hSw
          have c0 := HL0.out w' hSw.1.hb
          go_simp
          try with_reducible rfl
        try simp only [Act.put, List.setIfInBounds_toArray, List.set_cons_zero, List.set_cons_succ]
        refine wpAnyH_take (i := 6) (oi := ⟨some 35, _, _, _, _, _⟩) (v := ?vs1_7) rfl (by kernel_rfl) (by kernel_rfl) (by kernel_rfl) (fun _ _ _ h => h) (Or.inl ⟨by rfl, ?ys1_7⟩) S8.out ?rs1_7
        case ys1_7 =>
          rintro w' hSw
          go_simp
          try with_reducible rfl
        try simp only [Act.put, List.setIfInBounds_toArray, List.set_cons_zero, List.set_cons_succ]
        refine wpAnyH_take (i := 7) (oi := ⟨some 36, _, _, _, _, _⟩) (v := ?vs1_8) rfl (by kernel_rfl) (by kernel_rfl) (by kernel_rfl) (fun _ _ _ h => h) (Or.inl ⟨by rfl, ?ys1_8⟩) S8.out ?rs1_8
        case ys1_8 =>
          rintro w' hSw
          go_simp
          try with_reducible rfl
        try simp only [Act.put, List.setIfInBounds_toArray, List.set_cons_zero, List.set_cons_succ]
        refine wpAnyH_take (i := 8) (oi := ⟨some 37, _, _, _, _, _⟩) (v := undef) rfl (by kernel_rfl) (by kernel_rfl) (by kernel_rfl) (fun _ _ _ h => h) (Or.inr ⟨by rfl, rfl⟩) S8.out ?rs1_9
        try simp only [Act.put, List.setIfInBounds_toArray, List.set_cons_zero, List.set_cons_succ]
        refine wpAnyH_take (i := 9) (oi := ⟨some 38, _, _, _, _, _⟩) (v := undef) rfl (by kernel_rfl) (by kernel_rfl) (by kernel_rfl) (fun _ _ _ h => h) (Or.inr ⟨by rfl, rfl⟩) S8.out ?rs1_10
        try simp only [Act.put, List.setIfInBounds_toArray, List.set_cons_zero, List.set_cons_succ]
        refine wpAnyH_take (i := 10) (oi := ⟨some 39, _, _, _, _, _⟩) (v := undef) rfl (by kernel_rfl) (by kernel_rfl) (by kernel_rfl) (fun _ _ _ h => h) (Or.inr ⟨by rfl, rfl⟩) S8.out ?rs1_11
        try simp only [Act.put, List.setIfInBounds_toArray, List.set_cons_zero, List.set_cons_succ]
        refine wpAnyH_take (i := 11) (oi := ⟨some 40, _, _, _, _, _⟩) (v := undef) rfl (by kernel_rfl) (by kernel_rfl) (by kernel_rfl) (fun _ _ _ h => h) (Or.inr ⟨by rfl, rfl⟩) S8.out ?rs1_12
        try simp only [Act.put, List.setIfInBounds_toArray, List.set_cons_zero, List.set_cons_succ]
        refine wpAnyH_take (i := 12) (oi := ⟨some 41, _, _, _, _, _⟩) (v := undef) rfl (by kernel_rfl) (by kernel_rfl) (by kernel_rfl) (fun _ _ _ h => h) (Or.inr ⟨by rfl, rfl⟩) S8.out ?rs1_13
        try simp only [Act.put, List.setIfInBounds_toArray, List.set_cons_zero, List.set_cons_succ]
        refine wpAnyH_take (i := 13) (oi := ⟨some 42, _, _, _, _, _⟩) (v := undef) rfl (by kernel_rfl) (by kernel_rfl) (by kernel_rfl) (fun _ _ _ h => h) (Or.inr ⟨by rfl, rfl⟩) S8.out ?rs1_14
        try simp only [Act.put, List.setIfInBounds_toArray, List.set_cons_zero, List.set_cons_succ]
        refine wpAnyH_take (i := 14) (oi := ⟨some 43, _, _, _, _, _⟩) (v := undef) rfl (by kernel_rfl) (by kernel_rfl) (by kernel_rfl) (fun _ _ _ h => h) (Or.inr ⟨by rfl, rfl⟩) S8.out ?rs1_15
        try simp only [Act.put, List.setIfInBounds_toArray, List.set_cons_zero, List.set_cons_succ]
        refine wpAnyH_take (i := 15) (oi := ⟨some 44, _, _, _, _, _⟩) (v := ?vs1_16) rfl (by kernel_rfl) (by kernel_rfl) (by kernel_rfl) (fun _ _ _ h => h) (Or.inl ⟨by rfl, ?ys1_16⟩) S8.out ?rs1_16
        case ys1_16 =>
          rintro w' hSw
          go_simp
          try with_reducible rfl
        try simp only [Act.put, List.setIfInBounds_toArray, List.set_cons_zero, List.set_cons_succ]
        refine wpAnyH_done (by kernel_rfl) ?_ _
        have hc2 : w8.cell? ⟨P5, 2, none⟩ = some (.int .u64 (r.txn : Int)) := S8.out.2.cell 2
        have hc0 : w8.cell? ⟨P5, 0, none⟩ = some (.int .u64 (r.lsn : Int)) := S8.out.2.cell 0
        have HOW := Lib.hid S8.out.1.own
        have HOK : Hid (∀ i, i < k → rowS (xs.map (·.1)) i = true) := S8.out.1.ok
        clear S8 HLU
        go_wp2_with (at_mapUpdate; refine wpList_mapUpdate_own _ rfl _ _ _ 93 rfl 32 32 law64 Try.underlying93 _ w.heap.size k _ rfl HOW.out (by unfold maxLen; omega) _ _ _ rfl rfl HKY.out _ [] (plainElem_int Try.underlying32 (wf64 HUX.out.u1)) ?_; intro w9 hown9 hgrow9)
        have HN9 : Hid (MI w xs (k + 1) w9) := ⟨by rw [HTS.out, mapM_snoc]; exact hown9, HBW.out.grown hgrow9 HBW.out.size (fun j hj => by cases hj; exact Nat.le_refl _), fun i hi => by
          by_cases hik : i < k
          · exact HOK.out i hik
          · obtain rfl : i = k := by omega
            exact HST.out⟩
        clear hown9 hgrow9 HOW HOK hc0 hc2
        go_roundw
        case rel => exact ⟨k + 1, by omega, by go_num, HN9⟩
        case measure => simp [intOf]; omega
      have hge : (l0 : Int) ≤ (r.back : Int) := by omega
      have hge3 : decide ((r.back : Int) ≥ (l0 : Int)) = true := by simp; omega
      obtain ⟨lt, hlt_⟩ : ∃ lt, lt = lastM ((xs.map (·.1)).take k) r.txn := ⟨_, rfl⟩
      rw [← hlt_] at HLU HSE
      clear hlt_
      by_cases hbl : r.back = lt
      case neg =>
        have hbn : ((r.back : Int) != (lt : Int)) = true := by simp; omega
        have HNE : Hid (¬ (r.back < l0 ∨ r.back = lt)) := (show ¬ _ by omega)
        clear hbk hbl
        refine wpAnyH_take (i := 0) (oi := ⟨some 29, _, _, _, _, _⟩) (v := ?vs2_1) rfl (by kernel_rfl) (by kernel_rfl) (by kernel_rfl) (fun _ _ _ h => h) (Or.inl ⟨by rfl, ?ys2_1⟩) S8.out ?rs2_1
        case ys2_1 =>
          rintro w' hSw
          go_simp
          try with_reducible rfl
        try simp only [Act.put, List.setIfInBounds_toArray, List.set_cons_zero, List.set_cons_succ]
        refine wpAnyH_take (i := 1) (oi := ⟨some 30, _, _, _, _, _⟩) (v := ?vs2_2) rfl (by kernel_rfl) (by kernel_rfl) (by kernel_rfl) (fun _ _ _ h => h) (Or.inl ⟨by rfl, ?ys2_2⟩) S8.out ?rs2_2
        case ys2_2 =>
          rintro w' hSw
          have c0 : w'.cell? ⟨P5, 3, none⟩ = some (.int .u64 (r.back : Int)) := hSw.2.cell 3
          go_simp
          try with_reducible rfl
        try simp only [Act.put, List.setIfInBounds_toArray, List.set_cons_zero, List.set_cons_succ]
        refine wpAnyH_take (i := 2) (oi := ⟨some 31, _, _, _, _, _⟩) (v := ?vs2_3) rfl (by kernel_rfl) (by kernel_rfl) (by kernel_rfl) (fun _ _ _ h => h) (Or.inl ⟨by rfl, ?ys2_3⟩) S8.out ?rs2_3
        case ys2_3 =>
          rintro w' hSw
          go_simp
          try with_reducible rfl
        try simp only [Act.put, List.setIfInBounds_toArray, List.set_cons_zero, List.set_cons_succ]
        refine wpAnyH_take (i := 3) (oi := ⟨some 32, _, _, _, _, _⟩) (v := ?vs2_4) rfl (by kernel_rfl) (by kernel_rfl) (by kernel_rfl) (fun _ _ _ h => h) (Or.inl ⟨by rfl, ?ys2_4⟩) S8.out ?rs2_4
        case ys2_4 =>
          rintro w' hSw
          go_simp
          try with_reducible rfl
        try simp only [Act.put, List.setIfInBounds_toArray, List.set_cons_zero, List.set_cons_succ]
        refine wpAnyH_take (i := 4) (oi := ⟨some 33, _, _, _, _, _⟩) (v := ?vs2_5) rfl (by kernel_rfl) (by kernel_rfl) (by kernel_rfl) (fun _ _ _ h => h) (Or.inl ⟨by rfl, ?ys2_5⟩) S8.out ?rs2_5
        case ys2_5 =>
          rintro w' hSw
          go_simp
          try with_reducible rfl
        try simp only [Act.put, List.setIfInBounds_toArray, List.set_cons_zero, List.set_cons_succ]
        refine wpAnyH_take (i := 5) (oi := ⟨some 34, _, _, _, _, _⟩) (v := ?vs2_6) rfl (by kernel_rfl) (by kernel_rfl) (by kernel_rfl) (fun _ _ _ h => h) (Or.inl ⟨by rfl, ?ys2_6⟩) S8.out ?rs2_6
        case ys2_6 =>
          rintro w' hSw
          have c0 := HL0.out w' hSw.1.hb
          go_simp
          try with_reducible rfl
        try simp only [Act.put, List.setIfInBounds_toArray, List.set_cons_zero, List.set_cons_succ]
        refine wpAnyH_take (i := 6) (oi := ⟨some 35, _, _, _, _, _⟩) (v := ?vs2_7) rfl (by kernel_rfl) (by kernel_rfl) (by kernel_rfl) (fun _ _ _ h => h) (Or.inl ⟨by rfl, ?ys2_7⟩) S8.out ?rs2_7
        case ys2_7 =>
          rintro w' hSw
          go_simp
          try with_reducible rfl
        try simp only [Act.put, List.setIfInBounds_toArray, List.set_cons_zero, List.set_cons_succ]
        refine wpAnyH_take (i := 7) (oi := ⟨some 36, _, _, _, _, _⟩) (v := ?vs2_8) rfl (by kernel_rfl) (by kernel_rfl) (by kernel_rfl) (fun _ _ _ h => h) (Or.inl ⟨by rfl, ?ys2_8⟩) S8.out ?rs2_8
        case ys2_8 =>
          rintro w' hSw
          go_simp
          try with_reducible rfl
        try simp only [Act.put, List.setIfInBounds_toArray, List.set_cons_zero, List.set_cons_succ]
        refine wpAnyH_take (i := 8) (oi := ⟨some 37, _, _, _, _, _⟩) (v := ?vs2_9) rfl (by kernel_rfl) (by kernel_rfl) (by kernel_rfl) (fun _ _ _ h => h) (Or.inl ⟨by rfl, ?ys2_9⟩) S8.out ?rs2_9
        case ys2_9 =>
          rintro w' hSw
          go_simp
          try with_reducible rfl
        try simp only [Act.put, List.setIfInBounds_toArray, List.set_cons_zero, List.set_cons_succ]
        refine wpAnyH_take (i := 9) (oi := ⟨some 38, _, _, _, _, _⟩) (v := ?vs2_10) rfl (by kernel_rfl) (by kernel_rfl) (by kernel_rfl) (fun _ _ _ h => h) (Or.inl ⟨by rfl, ?ys2_10⟩) S8.out ?rs2_10
        case ys2_10 =>
          rintro w' hSw
          have c0 : w'.cell? ⟨P5, 3, none⟩ = some (.int .u64 (r.back : Int)) := hSw.2.cell 3
          go_simp
          try with_reducible rfl
        try simp only [Act.put, List.setIfInBounds_toArray, List.set_cons_zero, List.set_cons_succ]
        refine wpAnyH_take (i := 10) (oi := ⟨some 39, _, _, _, _, _⟩) (v := ?vs2_11) rfl (by kernel_rfl) (by kernel_rfl) (by kernel_rfl) (fun _ _ _ h => h) (Or.inl ⟨by rfl, ?ys2_11⟩) S8.out ?rs2_11
        case ys2_11 =>
          rintro w' hSw
          go_simp
          try with_reducible rfl
        try simp only [Act.put, List.setIfInBounds_toArray, List.set_cons_zero, List.set_cons_succ]
        refine wpAnyH_take (i := 11) (oi := ⟨some 40, _, _, _, _, _⟩) (v := ?vs2_12) rfl (by kernel_rfl) (by kernel_rfl) (by kernel_rfl) (fun _ _ _ h => h) (Or.inl ⟨by rfl, ?ys2_12⟩) S8.out ?rs2_12
        case ys2_12 =>
          rintro w' hSw
          go_simp
          try with_reducible rfl
        try simp only [Act.put, List.setIfInBounds_toArray, List.set_cons_zero, List.set_cons_succ]
        refine wpAnyH_take (i := 12) (oi := ⟨some 41, _, _, _, _, _⟩) (v := ?vs2_13) rfl (by kernel_rfl) (by kernel_rfl) (by kernel_rfl) (fun _ _ _ h => h) (Or.inl ⟨by rfl, ?ys2_13⟩) S8.out ?rs2_13
        case ys2_13 =>
          rintro w' hSw
          have c0 : w'.cell? ⟨P5, 2, none⟩ = some (.int .u64 (r.txn : Int)) := hSw.2.cell 2
          go_simp
          try with_reducible rfl
        try simp only [Act.put, List.setIfInBounds_toArray, List.set_cons_zero, List.set_cons_succ]
        refine wpAnyH_take (i := 13) (oi := ⟨some 42, _, _, _, _, _⟩) (v := ?vs2_14) rfl (by kernel_rfl) (by kernel_rfl) (by kernel_rfl) (fun _ _ _ h => h) (Or.inl ⟨by rfl, ?ys2_14⟩) S8.out ?rs2_14
        case ys2_14 =>
          rintro w' hSw
          have c0 := HLU.out w' hSw.1
          go_simp
          try with_reducible rfl
        try simp only [Act.put, List.setIfInBounds_toArray, List.set_cons_zero, List.set_cons_succ]
        refine wpAnyH_take (i := 14) (oi := ⟨some 43, _, _, _, _, _⟩) (v := ?vs2_15) rfl (by kernel_rfl) (by kernel_rfl) (by kernel_rfl) (fun _ _ _ h => h) (Or.inl ⟨by rfl, ?ys2_15⟩) S8.out ?rs2_15
        case ys2_15 =>
          rintro w' hSw
          go_simp
          try with_reducible rfl
        try simp only [Act.put, List.setIfInBounds_toArray, List.set_cons_zero, List.set_cons_succ]
        refine wpAnyH_take (i := 15) (oi := ⟨some 44, _, _, _, _, _⟩) (v := ?vs2_16) rfl (by kernel_rfl) (by kernel_rfl) (by kernel_rfl) (fun _ _ _ h => h) (Or.inl ⟨by rfl, ?ys2_16⟩) S8.out ?rs2_16
        case ys2_16 =>
          rintro w' hSw
          go_simp
          try with_reducible rfl
        try simp only [Act.put, List.setIfInBounds_toArray, List.set_cons_zero, List.set_cons_succ]
        refine wpAnyH_done (by kernel_rfl) ?_ _
        go_wp2
        go_ret
        exact ⟨ret_bool (HM.out false (by simp only [Bool.false_eq_true, false_iff]; intro hall; have := hall k hlt; rw [HSE.out] at this; simp at this; exact HNE.out (by omega))), HBW.out⟩
      have hbn : ((r.back : Int) != (lt : Int)) = false := by simp [hbl]
      have HST : Hid (rowS (xs.map (·.1)) k = true) := (show _ = _ by rw [HSE.out]; simp [HEQ.out]; exact .inr hbl)
      clear hbk hbl
      refine wpAnyH_take (i := 0) (oi := ⟨some 29, _, _, _, _, _⟩) (v := ?vs3_1) rfl (by kernel_rfl) (by kernel_rfl) (by kernel_rfl) (fun _ _ _ h => h) (Or.inl ⟨by rfl, ?ys3_1⟩) S8.out ?rs3_1
      case ys3_1 =>
        rintro w' hSw
        go_simp
        try with_reducible rfl
      try simp only [Act.put, List.setIfInBounds_toArray, List.set_cons_zero, List.set_cons_succ]
      refine wpAnyH_take (i := 1) (oi := ⟨some 30, _, _, _, _, _⟩) (v := ?vs3_2) rfl (by kernel_rfl) (by kernel_rfl) (by kernel_rfl) (fun _ _ _ h => h) (Or.inl ⟨by rfl, ?ys3_2⟩) S8.out ?rs3_2
      case ys3_2 =>
        rintro w' hSw
        have c0 : w'.cell? ⟨P5, 3, none⟩ = some (.int .u64 (r.back : Int)) := hSw.2.cell 3
        go_simp
        try with_reducible rfl
      try simp only [Act.put, List.setIfInBounds_toArray, List.set_cons_zero, List.set_cons_succ]
      refine wpAnyH_take (i := 2) (oi := ⟨some 31, _, _, _, _, _⟩) (v := ?vs3_3) rfl (by kernel_rfl) (by kernel_rfl) (by kernel_rfl) (fun _ _ _ h => h) (Or.inl ⟨by rfl, ?ys3_3⟩) S8.out ?rs3_3
      case ys3_3 =>
        rintro w' hSw
        go_simp
        try with_reducible rfl
      try simp only [Act.put, List.setIfInBounds_toArray, List.set_cons_zero, List.set_cons_succ]
      refine wpAnyH_take (i := 3) (oi := ⟨some 32, _, _, _, _, _⟩) (v := ?vs3_4) rfl (by kernel_rfl) (by kernel_rfl) (by kernel_rfl) (fun _ _ _ h => h) (Or.inl ⟨by rfl, ?ys3_4⟩) S8.out ?rs3_4
      case ys3_4 =>
        rintro w' hSw
        go_simp
        try with_reducible rfl
      try simp only [Act.put, List.setIfInBounds_toArray, List.set_cons_zero, List.set_cons_succ]
      refine wpAnyH_take (i := 4) (oi := ⟨some 33, _, _, _, _, _⟩) (v := ?vs3_5) rfl (by kernel_rfl) (by kernel_rfl) (by kernel_rfl) (fun _ _ _ h => h) (Or.inl ⟨by rfl, ?ys3_5⟩) S8.out ?rs3_5
      case ys3_5 =>
        rintro w' hSw
        go_simp
        try with_reducible rfl
      try simp only [Act.put, List.setIfInBounds_toArray, List.set_cons_zero, List.set_cons_succ]
      refine wpAnyH_take (i := 5) (oi := ⟨some 34, _, _, _, _, _⟩) (v := ?vs3_6) rfl (by kernel_rfl) (by kernel_rfl) (by kernel_rfl) (fun _ _ _ h => h) (Or.inl ⟨by rfl, ?ys3_6⟩) S8.out ?rs3_6
      case ys3_6 =>
        rintro w' hSw
        have c0 := HL0.out w' hSw.1.hb
        go_simp
        try with_reducible rfl
      try simp only [Act.put, List.setIfInBounds_toArray, List.set_cons_zero, List.set_cons_succ]
      refine wpAnyH_take (i := 6) (oi := ⟨some 35, _, _, _, _, _⟩) (v := ?vs3_7) rfl (by kernel_rfl) (by kernel_rfl) (by kernel_rfl) (fun _ _ _ h => h) (Or.inl ⟨by rfl, ?ys3_7⟩) S8.out ?rs3_7
      case ys3_7 =>
        rintro w' hSw
        go_simp
        try with_reducible rfl
      try simp only [Act.put, List.setIfInBounds_toArray, List.set_cons_zero, List.set_cons_succ]
      refine wpAnyH_take (i := 7) (oi := ⟨some 36, _, _, _, _, _⟩) (v := ?vs3_8) rfl (by kernel_rfl) (by kernel_rfl) (by kernel_rfl) (fun _ _ _ h => h) (Or.inl ⟨by rfl, ?ys3_8⟩) S8.out ?rs3_8
      case ys3_8 =>
        rintro w' hSw
        go_simp
        try with_reducible rfl
      try simp only [Act.put, List.setIfInBounds_toArray, List.set_cons_zero, List.set_cons_succ]
      refine wpAnyH_take (i := 8) (oi := ⟨some 37, _, _, _, _, _⟩) (v := ?vs3_9) rfl (by kernel_rfl) (by kernel_rfl) (by kernel_rfl) (fun _ _ _ h => h) (Or.inl ⟨by rfl, ?ys3_9⟩) S8.out ?rs3_9
      case ys3_9 =>
        rintro w' hSw
        go_simp
        try with_reducible rfl
      try simp only [Act.put, List.setIfInBounds_toArray, List.set_cons_zero, List.set_cons_succ]
      refine wpAnyH_take (i := 9) (oi := ⟨some 38, _, _, _, _, _⟩) (v := ?vs3_10) rfl (by kernel_rfl) (by kernel_rfl) (by kernel_rfl) (fun _ _ _ h => h) (Or.inl ⟨by rfl, ?ys3_10⟩) S8.out ?rs3_10
      case ys3_10 =>
        rintro w' hSw
        have c0 : w'.cell? ⟨P5, 3, none⟩ = some (.int .u64 (r.back : Int)) := hSw.2.cell 3
        go_simp
        try with_reducible rfl
      try simp only [Act.put, List.setIfInBounds_toArray, List.set_cons_zero, List.set_cons_succ]
      refine wpAnyH_take (i := 10) (oi := ⟨some 39, _, _, _, _, _⟩) (v := ?vs3_11) rfl (by kernel_rfl) (by kernel_rfl) (by kernel_rfl) (fun _ _ _ h => h) (Or.inl ⟨by rfl, ?ys3_11⟩) S8.out ?rs3_11
      case ys3_11 =>
        rintro w' hSw
        go_simp
        try with_reducible rfl
      try simp only [Act.put, List.setIfInBounds_toArray, List.set_cons_zero, List.set_cons_succ]
      refine wpAnyH_take (i := 11) (oi := ⟨some 40, _, _, _, _, _⟩) (v := ?vs3_12) rfl (by kernel_rfl) (by kernel_rfl) (by kernel_rfl) (fun _ _ _ h => h) (Or.inl ⟨by rfl, ?ys3_12⟩) S8.out ?rs3_12
      case ys3_12 =>
        rintro w' hSw
        go_simp
        try with_reducible rfl
      try simp only [Act.put, List.setIfInBounds_toArray, List.set_cons_zero, List.set_cons_succ]
      refine wpAnyH_take (i := 12) (oi := ⟨some 41, _, _, _, _, _⟩) (v := ?vs3_13) rfl (by kernel_rfl) (by kernel_rfl) (by kernel_rfl) (fun _ _ _ h => h) (Or.inl ⟨by rfl, ?ys3_13⟩) S8.out ?rs3_13
      case ys3_13 =>
        rintro w' hSw
        have c0 : w'.cell? ⟨P5, 2, none⟩ = some (.int .u64 (r.txn : Int)) := hSw.2.cell 2
        go_simp
        try with_reducible rfl
      try simp only [Act.put, List.setIfInBounds_toArray, List.set_cons_zero, List.set_cons_succ]
      refine wpAnyH_take (i := 13) (oi := ⟨some 42, _, _, _, _, _⟩) (v := ?vs3_14) rfl (by kernel_rfl) (by kernel_rfl) (by kernel_rfl) (fun _ _ _ h => h) (Or.inl ⟨by rfl, ?ys3_14⟩) S8.out ?rs3_14
      case ys3_14 =>
        rintro w' hSw
        have c0 := HLU.out w' hSw.1
        go_simp
        try with_reducible rfl
      try simp only [Act.put, List.setIfInBounds_toArray, List.set_cons_zero, List.set_cons_succ]
      refine wpAnyH_take (i := 14) (oi := ⟨some 43, _, _, _, _, _⟩) (v := ?vs3_15) rfl (by kernel_rfl) (by kernel_rfl) (by kernel_rfl) (fun _ _ _ h => h) (Or.inl ⟨by rfl, ?ys3_15⟩) S8.out ?rs3_15
      case ys3_15 =>
        rintro w' hSw
        go_simp
        try with_reducible rfl
      try simp only [Act.put, List.setIfInBounds_toArray, List.set_cons_zero, List.set_cons_succ]
      refine wpAnyH_take (i := 15) (oi := ⟨some 44, _, _, _, _, _⟩) (v := ?vs3_16) rfl (by kernel_rfl) (by kernel_rfl) (by kernel_rfl) (fun _ _ _ h => h) (Or.inl ⟨by rfl, ?ys3_16⟩) S8.out ?rs3_16
      case ys3_16 =>
        rintro w' hSw
        go_simp
        try with_reducible rfl
      try simp only [Act.put, List.setIfInBounds_toArray, List.set_cons_zero, List.set_cons_succ]
      refine wpAnyH_done (by kernel_rfl) ?_ _
      have hc2 : w8.cell? ⟨P5, 2, none⟩ = some (.int .u64 (r.txn : Int)) := S8.out.2.cell 2
      have hc0 : w8.cell? ⟨P5, 0, none⟩ = some (.int .u64 (r.lsn : Int)) := S8.out.2.cell 0
      have HOW := Lib.hid S8.out.1.own
      have HOK : Hid (∀ i, i < k → rowS (xs.map (·.1)) i = true) := S8.out.1.ok
      clear S8 HLU
      go_wp2_with (at_mapUpdate; refine wpList_mapUpdate_own _ rfl _ _ _ 93 rfl 32 32 law64 Try.underlying93 _ w.heap.size k _ rfl HOW.out (by unfold maxLen; omega) _ _ _ rfl rfl HKY.out _ [] (plainElem_int Try.underlying32 (wf64 HUX.out.u1)) ?_; intro w9 hown9 hgrow9)
      have HN9 : Hid (MI w xs (k + 1) w9) := ⟨by rw [HTS.out, mapM_snoc]; exact hown9, HBW.out.grown hgrow9 HBW.out.size (fun j hj => by cases hj; exact Nat.le_refl _), fun i hi => by
        by_cases hik : i < k
        · exact HOK.out i hik
        · obtain rfl : i = k := by omega
          exact HST.out⟩
      clear hown9 hgrow9 HOW HOK hc0 hc2
      go_roundw
      case rel => exact ⟨k + 1, by omega, by go_num, HN9⟩
      case measure => simp [intOf]; omega
end Go.Proofs.Ytnljhopikjkflaa.Rec
