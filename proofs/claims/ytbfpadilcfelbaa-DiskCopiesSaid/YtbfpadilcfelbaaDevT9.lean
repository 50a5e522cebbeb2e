/-
  The statements' does, of all kinds, and agree.
-/
import Derived.Test.YtbfpadilcfelbaaDevT8
import Derived.Deep.QuietTactic
import Derived.BigQuiet
namespace Go.Proofs.Ytbfpadilcfelbaa.Dsk
open Go.RowKit Go.Proofs.Ytbfpadilcfelbaa.Wd

theorem does_all (g : Nat) (d : DM) (F : Nat → Prop) (o : OM) (w : World) (h : Disk w F g d) (hp : d.pend.length ≤ 1000000) (ho : OpOk w o) :
    Calls Try.prog 10 #[.pointer (some ⟨g, 0, none⟩), o.val] w fun e w' => e = .returned (.tuple #[blk (d.doesM o).2.1, .int .i64 (d.doesM o).2.2]) ∧ Goes F w g (d.doesM o).1 w' := by
  by_cases h4 : kindM o.k = 4
  · have e : d.doesM o = (d.crashM o.l, nought, 0) := by
      unfold DM.doesM
      rw [if_neg (by omega), if_neg (by omega), if_neg (by omega), if_neg (by omega), if_neg (by omega)]
    rw [e]
    exact does4 _ _ _ _ _ _ _ _ F w (fun w1 w2 => Goes F w1 g (d.crashM o.l) w2) (stable_disk _ h) h4 o.l ho.len ho.vs ho.nil ho.most (fun w1 A' c' hb hv hA' => crash_any g d F A' o.n c' o.l w1 (h.below hb) hp ho.len hv (fun b q s e hf => by have := h.2 b hf; have := hA' b q s e; omega))
  · exact does_any g d F o w h hp ho h4

set_option maxHeartbeats 2000000 in
theorem agree_any (g t : Nat) (d : DM) (F : Nat → Prop) (x : RA) (r : RX) (xs : List Nat) (w : World) (h : Disk w F g d) (hv : RVat w xs x r) (ha : Agr t d x) (ht : t ≤ 1000000) :
    Calls Try.prog 12 #[.pointer (some ⟨g, 0, none⟩), x.val r] w fun e w' => e = .returned (.bool true) ∧ Below w.heap.size w w' := by
  have hn : r.n = d.sec.length := by rw [← hv.sl, ha.len_eq]
  have hm : r.m = d.pend.length := by rw [← hv.pl, ha.pend, List.length_map]
  have hd := ha.dead
  have ho := ha.ops
  have hpd := ha.pend
  have hpl : d.pend.length ≤ 1000000 := by have := ha.len; omega
  obtain ⟨safe, pend, dead, left, fails, ops⟩ := x
  obtain ⟨A, n, c, A2, m, c2⟩ := r
  simp only at hn hm hd ho hpd
  subst hn hm hd ho
  have HD := Lib.hid h
  have HPB : Hid (Wrs w w.heap.size A2 pend) := hv.pb
  have HPD := Lib.hid hpd
  obtain ⟨W1, hW1⟩ : ∃ W1, W1 = w.alloc (.cells (rcs ⟨A, d.sec.length, c, A2, d.pend.length, c2⟩ d.dead left fails d.ops).toArray 31) := ⟨_, rfl⟩
  have hb1 : Below w.heap.size w W1 := by rw [hW1]; exact (Below.refl _ _).alloc (Nat.le_refl _) _
  have hr1 : Row W1 w.heap.size 31 (rcs ⟨A, d.sec.length, c, A2, d.pend.length, c2⟩ d.dead left fails d.ops) := by rw [hW1]; exact Row.new w _ _
  have hD1 := h.below hb1
  have hlen := fun k => len_any g d F (W1.drewN k) (show Dsk _ _ _ _ from (hD1.below (w' := W1.drewN k) ⟨rfl, rfl, rfl, Nat.le_refl _, fun _ _ => rfl⟩).1)
  have hdead := fun k => dead_any g d F (W1.drewN k) (show Dsk _ _ _ _ from (hD1.below (w' := W1.drewN k) ⟨rfl, rfl, rfl, Nat.le_refl _, fun _ _ => rfl⟩).1)
  have hops := fun k => ops_any g d F (W1.drewN k) (show Dsk _ _ _ _ from (hD1.below (w' := W1.drewN k) ⟨rfl, rfl, rfl, Nat.le_refl _, fun _ _ => rfl⟩).1)
  have HB1 := Lib.hid hb1
  have HR1 := Lib.hid hr1
  have HW1 : Hid (W1 = w.alloc (.cells (rcs ⟨A, d.sec.length, c, A2, d.pend.length, c2⟩ d.dead left fails d.ops).toArray 31)) := hW1
  have HL := Lib.hid hlen
  have HDE := Lib.hid hdead
  have HO := Lib.hid hops
  clear hW1 hb1 hr1 hD1 hlen hdead hops h hv ha hpd
  have c0 : W1.cell? ⟨w.heap.size, 0, none⟩ = some (.slice A d.sec.length c) := HR1.out.cell 0
  have c2' : W1.cell? ⟨w.heap.size, 2, none⟩ = some (.bool d.dead) := HR1.out.cell 2
  have c5 : W1.cell? ⟨w.heap.size, 5, none⟩ = some (.int .i64 d.ops) := HR1.out.cell 5
  show Calls _ _ #[.pointer (some ⟨g, 0, none⟩), .agg #[.slice A d.sec.length c, .slice A2 d.pend.length c2, .bool d.dead, .int .i64 left, .int .i64 fails, .int .i64 d.ops]] w _
  go_enter Try.func12, Try.ntmps12
  go_wp2_with fail
  rw [show w.alloc (.cells #[.slice A d.sec.length c, .slice A2 d.pend.length c2, .bool d.dead, .int .i64 left, .int .i64 fails, .int .i64 d.ops] 31) = W1 from HW1.out.symm]
  go_quiet ((first
    | (go_at_call 13; exact Calls.quiet_of_same (HL.out _))
    | (go_at_call 23; exact Calls.quiet_of_same (HDE.out _))
    | (go_at_call 35; exact Calls.quiet_of_same (HO.out _))))
  have HB2 : Hid (Below w.heap.size w (W1.drewN nq)) := (show Below _ _ _ from ⟨HB1.out.os, HB1.out.tape, HB1.out.output, HB1.out.size, HB1.out.block⟩)
  have HR2 : Hid (Row (W1.drewN nq) w.heap.size 31 (rcs ⟨A, d.sec.length, c, A2, d.pend.length, c2⟩ d.dead left fails d.ops)) := (show Row _ _ _ _ from HR1.out.drewN nq)
  have HD2 : Hid (Disk (W1.drewN nq) F g d) := (show Disk _ _ _ _ from HD.out.off (fun k hk hf => hf) (Off.of_below ((HB2.out))) )
  generalize W1.drewN nq = W2 at HB2 HR2 HD2 ⊢
  clear HB1 HR1 HW1 HL HDE HO c0 c2' c5 HD W1
  go_wp2_with fail
  refine (pending_any g d F W2 HD2.out hpl).mono ?_
  rintro e W3 ⟨rfl, hrow, hb3⟩
  have HP3 := Lib.hid hrow
  have HR3 := Lib.hid (HR2.out.below hb3 HR2.out.lt)
  have HB3 := Lib.hid (HB2.out.trans (hb3.mono HB2.out.size))
  obtain ⟨gp, hgp⟩ : ∃ gp, gp = W2.heap.size := ⟨_, rfl⟩
  have hgw : w.heap.size < gp := by rw [hgp]; exact HR2.out.lt
  rw [← hgp] at HP3 ⊢
  obtain ⟨m, hm⟩ : ∃ m, m = d.pend.length := ⟨_, rfl⟩
  have HM := Lib.hid hm
  rw [← hm] at HR3 hpl ⊢
  clear hrow hb3 HR2 HB2 HD2 hgp hm W2
  have c1 : W3.cell? ⟨w.heap.size, 1, none⟩ = some (.slice A2 m c2) := HR3.out.cell 1
  go_wp2
  clear c1
  have HPI : Hid ((pints d).length = m) := (show _ = _ by simp [pints, HM.out])
  go_loopw [37] (fun i wr => ∃ k : Nat, k ≤ m ∧ i = .int .i64 k ∧ ∃ cs : List Value, Hid (Row wr gp 3 cs ∧ cs.length = m ∧ ∀ j, k ≤ j → cs[j]? = (pints d)[j]?) ∧ Hid (Row wr w.heap.size 31 (rcs ⟨A, d.sec.length, c, A2, m, c2⟩ d.dead left fails d.ops)) ∧ Hid (Below w.heap.size w wr)) (fun i _ => m - (intOf i).toNat)
  case atStart => exact ⟨0, by omega, rfl, _, (show _ ∧ _ from ⟨HP3.out, HPI.out, fun j _ => rfl⟩), HR3, HB3⟩
  rename World => wr
  obtain ⟨k, hk, rfl, cs, HC, HR, HB⟩ := hrel
  clear HP3 HR3 HB3
  by_cases hlt : k < m
  case neg =>
    obtain rfl : k = m := by omega
    go_wp2
    go_ret
    exact ⟨rfl, HB.out⟩
  have hkd : k < d.pend.length := by rw [← HM.out]; exact hlt
  obtain ⟨pk, hpk⟩ : ∃ pk : Int, pk = (d.pend.getD k noWrite).1 := ⟨_, rfl⟩
  have hcp : wr.cell? ⟨gp, k, none⟩ = some (.int .i64 pk) := by
    rw [HC.out.1.cell, HC.out.2.2 k (Nat.le_refl _), hpk]
    simp [pints, List.getD_eq_getElem?_getD, hkd]
  have hpl2 : k < pend.length := by rw [HPD.out, List.length_map]; exact hkd
  obtain ⟨b3, o3, rfl, hb3, hr3⟩ := HPB.out (by omega)
  obtain ⟨_, hrg⟩ := hr3 k hpl2
  have hcw : wr.cell? ⟨b3, o3 + k * 65, none⟩ = some (.int .i64 pk) := by
    have h1 := (range_below hrg HB.out hb3) 0 (.int .i64 (pend.getD k (0, [])).1) rfl
    have e : (pend.getD k (0, [])).1 = pk := by
      rw [hpk, HPD.out]
      simp [List.getD_eq_getElem?_getD, hkd, pw]
    rw [e] at h1
    exact h1
  have c1 : wr.cell? ⟨w.heap.size, 1, none⟩ = some (.slice (some ⟨b3, o3, none⟩) m c2) := HR.out.cell 1
  have hki : (k : Int) < (m : Int) := by omega
  clear hr3 hrg hpk hpl2
  go_wp2_with fail
  go_quiet (fail)
  have QC : Hid (Row (wr.drewN nq) gp 3 cs) := (show Row _ _ _ _ from HC.out.1.drewN nq)
  have QR : Hid (Row (wr.drewN nq) w.heap.size 31 (rcs ⟨A, d.sec.length, c, some ⟨b3, o3, none⟩, m, c2⟩ d.dead left fails d.ops)) := (show Row _ _ _ _ from HR.out.drewN nq)
  have QB : Hid (Below w.heap.size w (wr.drewN nq)) := (show Below _ _ _ from ⟨HB.out.os, HB.out.tape, HB.out.output, HB.out.size, HB.out.block⟩)
  have QL : Hid (cs.length = m ∧ ∀ j, k ≤ j → cs[j]? = (pints d)[j]?) := HC.out.2
  have hcq : (wr.drewN nq).cell? ⟨gp, k, none⟩ = some (.int .i64 pk) := hcp
  generalize wr.drewN nq = wq at QC QR QB hcq ⊢
  clear HC HR HB hcp hcw c1
  have hfq := QC.out.frozen k
  go_wp2
  go_roundw
  case rel => exact ⟨k + 1, by omega, by go_num, _, (show _ ∧ _ from ⟨QC.out.store k _, by rw [List.length_set]; exact QL.out.1, fun j hj => by rw [List.getElem?_set_ne (by omega)]; exact QL.out.2 j (by omega)⟩), (show Row _ _ _ _ from QR.out.far (by simp; omega) _), (show Below _ _ _ from QB.out.setCell (p := ⟨gp, k, none⟩) (by simp; omega) _)⟩
  case measure => simp [intOf]; omega
end Go.Proofs.Ytbfpadilcfelbaa.Dsk
