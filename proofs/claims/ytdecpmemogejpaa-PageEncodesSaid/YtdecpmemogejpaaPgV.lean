/-
  A page's sectors, as the reference has them.
-/
import Derived.Test.YtdecpmemogejpaaPgU
import Derived.Test.YtdecpmemogejpaaPgR
namespace Go.Proofs.Ytdecpmemogejpaa.Pg
set_option maxRecDepth 100000
open Go.RowKit Go.Proofs.Ytdecpmemogejpaa.Wd Go.Proofs.Ytdecpmemogejpaa.Oct Go.Proofs.Ytdecpmemogejpaa.Dsk Go.Proofs.Ytdecpmemogejpaa.Rec Go.Proofs.Ytdecpmemogejpaa.Sum Go.Proofs.Ytdecpmemogejpaa.Sm

attribute [local go_sem] Oper.semAt_some

theorem make_blk4 (u : World) : (Instr.makeSlice 49 (.int .i64 4) (.int .i64 4)).run Try.prog u =
    .ok (.slice (some ⟨u.heap.size, 0, none⟩) 4 4) (u.alloc (.cells (madeCells (bv (List.replicate 64 0)).toArray (4 * 64)) 58)) := by
  obtain ⟨i0, hi, hz0, hz1, hz2⟩ := info_parts info_blk
  have h := run_make (P := Try.prog) u 49 58 i0 (.agg (bv (List.replicate 64 0)).toArray) Try.underlying49 hi hz0 .i64 .i64 (4 : Int) (4 : Int) (by omega) (Int.le_refl _) (by rw [hz2]; omega) (by omega)
  rw [hz1] at h
  exact h
/-- copy into a row that is known whole, from an offset on -/
theorem wp_copy_at {P : Program} {w : World} {o : Oper} {a : Act} {K : Act → World → Prop} {Q : Exit → Act → World → Prop} (d s : Operand) (dT sT : TypeId)
    (ho : o.op = .call { callee := .builtin .copy, args := #[d, s], argTypes := #[dT, sT] }) (elem : TypeId) (hu : P.underlying dT = some (.slice elem)) (hsz : (P.info? elem).map (·.size) = some 1)
    (g off dLen dCap : Nat) (ad : Addr) (n c : Nat) (cur : List Value) (t : TypeId) (cs : List Value) (hd : a.eval d = .slice (some ⟨g, off, none⟩) dLen dCap) (hs : a.eval s = .slice (some ad) n c) (hg : Row w g t cur)
    (hn : cs.length = Nat.min n dLen) (hsrc : ∀ j v, cs[j]? = some v → w.cell? (ad.add j) = some v) (hfit : off + cs.length ≤ cur.length) (h1 : ∀ v ∈ cs, v.oneCell' = true)
    (h : K (a.put o.dst (goInt cs.length)) (w.setRow g (cur.take off ++ cs ++ cur.drop (off + cs.length)).toArray)) : o.wp P a w K Q := by
  have hrun := run_copy_row (P := P) w dT sT o.type elem g off dLen dCap ad n c cur.toArray t cs hu hsz hg hn hsrc (by simpa using hfit) h1
  unfold Oper.wp
  simp [execOp, ho, resolve, invoke, builtin, hd, hs, hrun, Result.andThen]
  have h2 := h
  simp at h2
  exact h2
/-- what the rounds over the reference's sectors hold -/
def RI (B4 B1 g cap : Nat) (b : List UInt8) (w : World) (k : Nat) (W : World) : Prop :=
  ∃ cs : List Value, cs.length = 256 ∧ cs.take (64 * k) = bv (b.take (64 * k)) ∧ Row W B4 58 cs ∧ Own W B1 (.slice (some ⟨g, 0, none⟩) 256 cap) b ∧ Below w.heap.size w W
theorem RI.next {B4 B1 g cap : Nat} {b : List UInt8} {w W : World} {k : Nat} {cs : List Value} (h1 : cs.length = 256) (h2 : cs.take (64 * k) = bv (b.take (64 * k))) (h4 : Own W B1 (.slice (some ⟨g, 0, none⟩) 256 cap) b) (h5 : Below w.heap.size w W) (hr : Row W B4 58 cs) (hb : b.length = 256) (hk : k < 4) (hg : g < B4) (hw : w.heap.size ≤ B4) :
    RI B4 B1 g cap b w (k + 1) (W.setRow B4 (cs.toArray.toList.take (64 * k) ++ bv ((b.drop (64 * k)).take 64) ++ cs.toArray.toList.drop (64 * k + 64)).toArray) := by
  have hl : (bv ((b.drop (64 * k)).take 64)).length = 64 := by rw [bv_length, List.length_take, List.length_drop, hb]; omega
  have hgr := grown_setRow W B4 (cs.toArray.toList.take (64 * k) ++ bv ((b.drop (64 * k)).take 64) ++ cs.toArray.toList.drop (64 * k + 64)).toArray
  refine ⟨cs.take (64 * k) ++ bv ((b.drop (64 * k)).take 64) ++ cs.drop (64 * k + 64), ?_, ?_, ?_, ?_, ?_⟩
  · rw [List.length_append, List.length_append, hl, List.length_take, List.length_drop, h1]; omega
  · rw [show 64 * (k + 1) = 64 * k + 64 by omega, List.take_left' (by rw [List.length_append, hl, List.length_take, h1]; omega), h2, ← bv_append, List.take_add]
  · exact setRow_heap W B4 _ _ _ _ hr
  · exact World.ownsRow.kept h4 hgr (.inr fun e => by have e' : g = B4 := Option.some.inj e; omega)
  · exact h5.grown hgr h5.size (fun k e => by have := Option.some.inj e; omega)

set_option maxHeartbeats 4000000 in
theorem rsec_any (m lsn : Nat) (sl : Nat → List UInt8) (s : PS) (B : Nat) (w : World) (h : PgAt w B sl s) (hB : B ≤ w.heap.size) (hok : okN (m : Int) s.n = true) :
    Calls Try.prog 30 #[.agg (pcs (m : Int) lsn s).toArray] w fun e w' => ∃ v, e = .returned v ∧ w'.ownsRow w.heap.size 58 64 v 4 (bv (pageB (m : Int) lsn sl)) ∧ Below w.heap.size w w' := by
  have hmk := make_blk4
  have hlen : (pageB (m : Int) lsn sl).length = 256 := pageB_len (fun k hk => by rw [h.lens k hk]; exact (okN_iff.1 hok).2 k hk)
  have HP := Lib.hid h
  have HEN : Hid (∀ (W : World), Below w.heap.size w W → Calls Try.prog 32 #[.agg (pcs (m : Int) lsn s).toArray] W (Grew W W.heap.size (pageB (m : Int) lsn sl))) := (show ∀ W, _ → _ from fun W hb => rbytes_any m lsn sl s B W (HP.out.below (hb.mono hB)) (Nat.le_trans hB hb.size) hok)
  clear h hok
  generalize pageB (m : Int) lsn sl = b at HEN hlen ⊢
  unfold Grew at HEN
  unfold pcs at HEN ⊢
  go_enter Try.func30, Try.ntmps30
  go_upto_region 1 with fail
  have HB := Lib.hid (boxed w (m : Int) lsn s)
  unfold pcs at HB
  generalize w.alloc (.cells #[.int .i64 (m : Int), .int .u64 (lsn : Int), .slice (s.A 0) (s.n 0) (s.c 0), .slice (s.A 1) (s.n 1) (s.c 1), .slice (s.A 2) (s.n 2) (s.c 2), .slice (s.A 3) (s.n 3) (s.c 3)] 46) = w1 at HB ⊢
  have ha0 : w1.cell? ⟨w.heap.size, 0, none⟩ = some (.int .i64 (m : Int)) := HB.out.row.cell 0
  have ha1 : w1.cell? ⟨w.heap.size, 1, none⟩ = some (.int .u64 (lsn : Int)) := HB.out.row.cell 1
  have ha2 : w1.cell? ⟨w.heap.size, 2, none⟩ = some (.slice (s.A 0) (s.n 0) (s.c 0)) := HB.out.row.cell 2
  have ha3 : w1.cell? ⟨w.heap.size, 3, none⟩ = some (.slice (s.A 1) (s.n 1) (s.c 1)) := HB.out.row.cell 3
  have ha4 : w1.cell? ⟨w.heap.size, 4, none⟩ = some (.slice (s.A 2) (s.n 2) (s.c 2)) := HB.out.row.cell 4
  have ha5 : w1.cell? ⟨w.heap.size, 5, none⟩ = some (.slice (s.A 3) (s.n 3) (s.c 3)) := HB.out.row.cell 5
  go_wp2_with fail
  refine (HEN.out _ HB.out.hb).mono ?_
  rintro e w2 ⟨v, rfl, hown, hb2⟩
  have HB2 := Lib.hid (HB.out.then hb2)
  have HSZ1 := Lib.hid HB.out.sz
  obtain ⟨g, cap, rfl⟩ : ∃ g cap, v = .slice (some ⟨g, 0, none⟩) 256 cap := by
    rcases hown.2 with ⟨-, h0⟩ | ⟨g, cap, cur, hv, -⟩
    · omega
    · rw [hlen] at hv; exact ⟨g, cap, hv⟩
  have hgb : w1.heap.size ≤ g ∧ g < w2.heap.size := World.ownsRow.lt hown g rfl
  have hcm : 256 ≤ cap ∧ cap ≤ maxLen := by
    rcases hown.2 with ⟨-, h0⟩ | ⟨g', cap', cur, hv, -, -, h1, h2, -⟩
    · omega
    · rw [hlen] at hv h1; cases hv; exact ⟨h1, h2⟩
  have hs1 := HSZ1.out
  have hsz2 : w.heap.size ≤ w2.heap.size := HB2.out.hb.size
  have HI0 : Hid (RI w2.heap.size w1.heap.size g cap b w 0 (w2.alloc (.cells (madeCells (bv (List.replicate 64 0)).toArray (4 * 64)) 58))) :=
    (show RI _ _ _ _ _ _ _ _ from ⟨(madeCells (bv (List.replicate 64 0)).toArray (4 * 64)).toList, by simp [madeCells], by simp [bv], Row.new w2 58 (madeCells (bv (List.replicate 64 0)).toArray (4 * 64)).toList, Own.alloc hown _, HB2.out.hb.alloc hsz2 _⟩)
  clear ha0 ha1 ha2 ha3 ha4 ha5 hb2 HB hown HEN
  go_wp2_with fail
  go_loopw [11] (fun i wr => ∃ k : Nat, k ≤ 4 ∧ i = .int .i64 (k : Int) ∧ Hid (RI w2.heap.size w1.heap.size g cap b w k wr)) (fun i _ => 4 - (intOf i).toNat)
  case atStart => exact ⟨0, by omega, rfl, HI0⟩
  case round =>
    obtain ⟨k, hk, rfl, HI⟩ := hrel
    rename World => wr
    by_cases hlt : k < 4
    · have hki : (k : Int) < 4 := by omega
      have HKK := Lib.hid hk
      obtain ⟨o, ho⟩ : ∃ o, o = 64 * k := ⟨_, rfl⟩
      have ho192 : o ≤ 192 := by omega
      have h64 : 64 * (k : Int) = (o : Int) := by omega
      have hwo : IntKind.i64.wrap (o : Int) = (o : Int) := by simp [IntKind.wrap, IntKind.signed, IntKind.bits]; omega
      have hoi : (o : Int) ≤ 256 := by omega
      have hco : ¬ cap = o := by omega
      have HO := Lib.hid ho
      clear ho
      go_wp2_with fail
      refine wp_region_held_drew (S := fun _ => True) (by kernel_rfl) trivial (fun hHeld => ?_)
      refine wpAnyH_take (i := 0) (oi := ⟨some 14, _, _, _, _, _⟩) (v := ?va) rfl (by kernel_rfl) (by kernel_rfl) (by kernel_rfl) (fun _ _ _ h => h) (Or.inl ⟨by rfl, ?ya⟩) hHeld ?ra
      case ya =>
        rintro w' hSw
        go_simp
        try with_reducible rfl
      try simp only [Act.put, List.setIfInBounds_toArray, List.set_cons_zero, List.set_cons_succ]
      refine wpAnyH_take (i := 1) (oi := ⟨some 15, _, _, _, _, _⟩) (v := ?vb) rfl (by kernel_rfl) (by kernel_rfl) (by kernel_rfl) (fun _ _ _ h => h) (Or.inl ⟨by rfl, ?yb⟩) hHeld ?rb
      case yb =>
        rintro w' hSw
        go_simp
        try with_reducible rfl
      try simp only [Act.put, List.setIfInBounds_toArray, List.set_cons_zero, List.set_cons_succ]
      refine wpAnyH_take (i := 2) (oi := ⟨some 16, _, _, _, _, _⟩) (v := ?vc) rfl (by kernel_rfl) (by kernel_rfl) (by kernel_rfl) (fun _ _ _ h => h) (Or.inl ⟨by rfl, ?yc⟩) hHeld ?rc
      case yc =>
        rintro w' hSw
        go_simp
        try with_reducible rfl
      try simp only [Act.put, List.setIfInBounds_toArray, List.set_cons_zero, List.set_cons_succ]
      refine wpAnyH_take (i := 3) (oi := ⟨some 17, _, _, _, _, _⟩) (v := ?vd) rfl (by kernel_rfl) (by kernel_rfl) (by kernel_rfl) (fun _ _ _ h => h) (Or.inl ⟨by rfl, ?yd⟩) hHeld ?rd
      case yd =>
        rintro w' hSw
        go_simp
        try with_reducible rfl
      try simp only [Act.put, List.setIfInBounds_toArray, List.set_cons_zero, List.set_cons_succ]
      refine wpAnyH_take (i := 4) (oi := ⟨some 18, _, _, _, _, _⟩) (v := ?ve) rfl (by kernel_rfl) (by kernel_rfl) (by kernel_rfl) (fun _ _ _ h => h) (Or.inl ⟨by rfl, ?ye⟩) hHeld ?re
      case ye =>
        rintro w' hSw
        go_simp
        try with_reducible rfl
      try simp only [Act.put, List.setIfInBounds_toArray, List.set_cons_zero, List.set_cons_succ]
      refine wpAnyH_take (i := 5) (oi := ⟨some 19, _, _, _, _, _⟩) (v := ?vf) rfl (by kernel_rfl) (by kernel_rfl) (by kernel_rfl) (fun _ _ _ h => h) (Or.inl ⟨by rfl, ?yf⟩) hHeld ?rf
      case yf =>
        rintro w' hSw
        go_simp
        try with_reducible rfl
      try simp only [Act.put, List.setIfInBounds_toArray, List.set_cons_zero, List.set_cons_succ]
      refine wpAnyH_take (i := 6) (oi := ⟨some 20, _, _, _, _, _⟩) (v := ?vg) rfl (by kernel_rfl) (by kernel_rfl) (by kernel_rfl) (fun _ _ _ h => h) (Or.inl ⟨by rfl, ?yg⟩) hHeld ?rg
      case yg =>
        rintro w' hSw
        go_simp
        try with_reducible rfl
      try simp only [Act.put, List.setIfInBounds_toArray, List.set_cons_zero, List.set_cons_succ]
      refine wpAnyH_take (i := 7) (oi := ⟨some 21, _, _, _, _, _⟩) (v := ?vh) rfl (by kernel_rfl) (by kernel_rfl) (by kernel_rfl) (fun _ _ _ h => h) (Or.inl ⟨by rfl, ?yh⟩) hHeld ?rh
      case yh =>
        rintro w' hSw
        go_simp
        try with_reducible rfl
      try simp only [Act.put, List.setIfInBounds_toArray, List.set_cons_zero, List.set_cons_succ]
      refine wpAnyH_ready (rs := [8]) (by kernel_rfl) (by simp) ?_
      refine AllReadyH.cons rfl (fun K hK => ?_) AllReadyH.nil
      rw [if_pos (by rfl)]
      obtain ⟨cs, hc1, hc2, hc3, hc4, hc5⟩ := HI.out
      have hpl : (bv ((b.drop (64 * k)).take 64)).length = 64 := by rw [bv_length, List.length_take, List.length_drop, hlen]; have := HO.out; omega
      refine wp_copy_at (.tmp 17) (.tmp 21) 25 25 rfl 5 Try.underlying25 size5 w2.heap.size (64 * k) 64 64 ⟨g, o, none⟩ (256 - o) (cap - o) cs 58 (bv ((b.drop (64 * k)).take 64)) ?d17 rfl hc3 ?m17 ?s17 ?f17 bv_one ?_
      case d17 => show Value.slice _ _ _ = _; rw [Nat.mul_comm]
      case m17 => rw [hpl]; show 64 = min (256 - o) 64; omega
      case s17 =>
        intro j v hv
        have := own_part hc4 (64 * k) 64 j v hv
        rw [Addr.add_lit, HO.out]
        exact this
      case f17 => rw [hpl, hc1]; have := HO.out; omega
      rw [hpl]
      have hN := RI.next (W := wr.drew) hc1 hc2 hc4 (hc5.trans ⟨rfl, rfl, rfl, Nat.le_refl _, fun _ _ => rfl⟩) hc3 hlen hlt hgb.2 hsz2
      have HN := Lib.hid hN
      simp only [List.toList_toArray] at HN
      generalize wr.drew.setRow w2.heap.size (cs.take (64 * k) ++ bv ((b.drop (64 * k)).take 64) ++ cs.drop (64 * k + 64)).toArray = W5 at HN ⊢
      clear hN
      refine hK _ _ trivial (fun _ => wpAnyH_done (by kernel_rfl) ?_ _)
      clear hK K hc1 hc2 hc3 hc4 hc5 HI
      go_wp2
      go_roundw
      case rel => exact ⟨k + 1, by omega, rfl, HN⟩
      case measure => simp [intOf]; omega
    · obtain rfl : k = 4 := by omega
      obtain ⟨cs, hc1, hc2, hc3, hc4, hc5⟩ := HI.out
      have e1 : cs = bv b := by
        have t1 : cs.take (64 * 4) = cs := List.take_of_length_le (by omega)
        have t2 : b.take (64 * 4) = b := List.take_of_length_le (by omega)
        rw [t1, t2] at hc2; exact hc2
      subst e1
      have HOW : Hid (wr.ownsRow w.heap.size 58 64 (.slice (some ⟨w2.heap.size, 0, none⟩) 4 4) 4 (bv b)) := (show World.ownsRow _ _ _ _ _ _ _ from ⟨hc1, .inr ⟨w2.heap.size, 4, (bv b).toArray, rfl, hsz2, hc3, by omega, by decide, by rw [List.size_toArray]; exact hc1, List.take_of_length_le (by simpa using Nat.le_of_eq hc1)⟩⟩)
      have HBW := Lib.hid hc5
      clear hc1 hc2 hc3 hc4 hc5 HI hlen
      go_wp2
      go_ret
      exact ⟨_, rfl, HOW.out, HBW.out⟩
end Go.Proofs.Ytdecpmemogejpaa.Pg
