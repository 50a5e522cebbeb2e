/-
  Part 10 of the contracts that the law rests on.
-/
import Derived.LoopTactic
import Derived.Deep.RegionHeld
import Derived.BigQuiet
import Derived.Test.YteemdjamgbbjhaaWf4
import Derived.Test.YteemdjamgbbjhaaWf6
import Derived.Test.YteemdjamgbbjhaaWf9
/-
  The law's held: all sectors of a disk behind a crash.
-/
namespace Go.Proofs.Yteemdjamgbbjhaa.Wr
set_option maxRecDepth 100000
open Go.RowKit Go.Shelf Go.Lib Go.Proofs.Yteemdjamgbbjhaa.Wd Go.Proofs.Yteemdjamgbbjhaa.Dsk Go.Proofs.Yteemdjamgbbjhaa.Oct Go.Proofs.Yteemdjamgbbjhaa.Sum Go.Proofs.Yteemdjamgbbjhaa.Beq Go.Proofs.Yteemdjamgbbjhaa.Wl

theorem make_bools (n : Nat) (hn : n ≤ 1000000) (u : World) : (Instr.makeSlice 53 (.int .i64 (n : Int)) (.int .i64 (n : Int))).run Try.prog u =
    .ok (.slice (some ⟨u.heap.size, 0, none⟩) n n) (u.alloc (.cells (madeCells #[.bool false] n) 4)) := by
  obtain ⟨i0, hi, hz0, hz1, hz2⟩ := info_parts info4
  have h := run_make (P := Try.prog) u 53 4 i0 (.bool false) Try.underlying53 hi hz0 .i64 .i64 (n : Int) (n : Int) (by omega) (Int.le_refl _) (by rw [hz2]; omega) (by omega)
  rw [hz1, Int.toNat_natCast, Nat.mul_one] at h
  exact h
theorem bools_rep (n : Nat) (b : Bool) : bools (List.replicate n b) = List.replicate n (Value.bool b) := by simp [bools]
theorem fill_all (z m : Nat) (b : Bool) (h : z < m) : (List.replicate z (Value.bool b) ++ List.replicate (m - z) (Value.bool false)).set z (Value.bool b) = List.replicate (z + 1) (Value.bool b) ++ List.replicate (m - (z + 1)) (Value.bool false) := by
  rw [List.set_append_right _ _ (by simp), List.length_replicate, Nat.sub_self, show m - z = m - (z + 1) + 1 from by omega, List.replicate_succ, List.set_cons_zero, List.replicate_succ']
  simp
theorem backM_len (s : List (List UInt8)) : ∀ p, (backM s p).length = s.length
  | [] => rfl
  | p :: ps => by simp [backM, backM_len s ps]
theorem crash_len (d : DM) (keep : List Bool) : (d.crashM keep).sec.length = d.sec.length := by
  show (liveM _ _ _).length = _
  unfold liveM
  rw [liveF_len, backM_len]
/-- a row of one's own, beside a disk -/
theorem ownsO {w w' : World} {F : Nat → Prop} {base n size : Nat} {e : TypeId} {v : Value} {xs : List Value} (h : w.ownsRow base e size v n xs) (hk : ∀ k, F k → k < base) (ho : Off F w w') : w'.ownsRow base e size v n xs := by
  have hl := owns_lt h
  rcases h with ⟨h1, h2 | ⟨g, cap, cur, e1, hg, h3, h4⟩⟩
  · exact ⟨h1, .inl h2⟩
  · have hg2 := hl g (by rw [e1]; rfl)
    exact ⟨h1, .inr ⟨g, cap, cur, e1, hg, (ho.block g hg2.2 (fun hf => by have := hk g hf; omega)).trans h3, h4⟩⟩
theorem owns_base {w : World} {base base' n size : Nat} {e : TypeId} {v : Value} {xs : List Value} (h : w.ownsRow base e size v n xs) (hb : base' ≤ base) : w.ownsRow base' e size v n xs := by
  rcases h with ⟨h1, h2 | ⟨g, cap, cur, e1, hg, h3⟩⟩
  · exact ⟨h1, .inl h2⟩
  · exact ⟨h1, .inr ⟨g, cap, cur, e1, Nat.le_trans hb hg, h3⟩⟩
theorem below_off {F : Nat → Prop} {w w' : World} {b : Nat} (h : Off F w w') (hb : b ≤ w.heap.size) (hF : ∀ k, F k → b ≤ k) : Below b w w' := ⟨h.os, h.tape, h.output, h.size, fun k hk => h.block k (by omega) (fun hf => by have := hF k hf; omega)⟩
theorem take_flat {ls : List (List UInt8)} {r : Nat} (h : r < ls.length) : (ls.take (r + 1)).flatMap bv = (ls.take r).flatMap bv ++ bv (ls.getD r []) := by
  rw [List.take_succ_eq_append_getElem h, List.flatMap_append, List.getD_eq_getElem?_getD, List.getElem?_eq_getElem h]
  simp
set_option maxHeartbeats 4000000 in
theorem held_any (dg : Nat) (al : Bool) (d : DM) (F : Nat → Prop) (w : World) (h : Disk w F dg d) (hp : d.pend.length ≤ 900000) :
    Calls Try.prog 54 #[.pointer (some ⟨dg, 0, none⟩), .bool al] w fun e w' => ∃ v, e = .returned v ∧ w'.ownsRow w.heap.size 89 64 v d.sec.length ((d.crashM (List.replicate d.pend.length al)).sec.flatMap bv) ∧ Below w.heap.size w w' := by
  have HC := Lib.hid (copy_any dg d F w h (by omega))
  obtain ⟨⟨gs, A, c, hda⟩, hlow⟩ := id h
  have HGO := Lib.hid hda.good
  have HP := Lib.hid hp
  obtain ⟨n, hn⟩ : ∃ n, n = d.pend.length := ⟨_, rfl⟩
  have HN := Lib.hid hn
  have hn9 : n ≤ 900000 := by omega
  clear hda hlow h hp hn
  go_enter Try.func54, Try.ntmps54
  go_wp2_with fail
  refine HC.out.mono ?_
  rintro e w1 ⟨rfl, hd1, hb1⟩
  have HD1 := Lib.hid hd1
  have HB1 := Lib.hid hb1
  have hpe := pending_any w.heap.size d _ w1 hd1 (by have := HP.out; omega)
  rw [← HN.out] at hpe
  have HPE := Lib.hid hpe
  clear hd1 hb1 HC hpe
  go_wp2_with fail
  refine HPE.out.mono ?_
  rintro e w2 ⟨rfl, -, hb2⟩
  have HB2 := Lib.hid (HB1.out.trans (hb2.mono HB1.out.size))
  have HD2 := Lib.hid (HD1.out.below hb2)
  have HS2 := Lib.hid hb2.size
  clear hb2 HPE HB1
  have hmk := make_bools n (by omega)
  go_wp2_with fail
  clear hmk
  have hrk : Row (w2.alloc (.cells (madeCells #[.bool false] n) 4)) w2.heap.size 4 (List.replicate n (Value.bool false)) := Row.made w2 _ _ _
  have hbk : Below w2.heap.size w2 (w2.alloc (.cells (madeCells #[.bool false] n) 4)) := (Below.refl _ _).alloc (Nat.le_refl _) _
  have HRK := Lib.hid hrk
  have HBK : Hid (Below w2.heap.size w2 (w2.alloc (.cells (madeCells #[.bool false] n) 4))) := Lib.hid hbk
  clear hrk hbk
  go_loopw [20] (fun i wr => ∃ z : Nat, z ≤ n ∧ i = .int .i64 (z : Int) ∧ Hid (Row wr w2.heap.size 4 (List.replicate z (Value.bool al) ++ List.replicate (n - z) (Value.bool false))) ∧ Hid (Below w2.heap.size w2 wr)) (fun i _ => n - (intOf i).toNat)
  case atStart => exact ⟨0, by omega, rfl, by simpa using HRK, HBK⟩
  case round =>
    obtain ⟨z, hz, rfl, HR, HB⟩ := hrel
    rename World => wr
    clear HRK HBK
    by_cases hlt : z < n
    case pos =>
      have hcell : wr.cell? ⟨w2.heap.size, z, none⟩ = some (Value.bool false) := by
        rw [HR.out.cell, List.getElem?_append_right (by simp), List.length_replicate, Nat.sub_self, List.getElem?_replicate, if_pos (by omega)]
      have hfr := HR.out.frozen z
      go_wp2
      go_roundw
      case rel => exact ⟨z + 1, by omega, by go_num, (show Row _ _ _ _ by rw [← fill_all z n al hlt]; exact HR.out.store z _), (show Below _ _ _ from HB.out.grown (row := some w2.heap.size) ⟨rfl, rfl, rfl, by simp [World.setCell], fun k hk hne => Below.heap_setCell wr _ _ k (fun e => hne (by rw [e]))⟩ HB.out.size (fun k e => by have := Option.some.inj e; omega))⟩
      case measure => simp [intOf]; omega
    obtain rfl : z = n := by omega
    rw [Nat.sub_self, List.replicate_zero, List.append_nil, ← bools_rep] at HR
    have HVS : Hid (Vs wr wr.heap.size (some ⟨w2.heap.size, 0, none⟩) (bools (List.replicate z al))) := Lib.hid (fun _ => ⟨w2.heap.size, 0, rfl, HR.out.lt, Row.all HR.out⟩)
    have hd3 := HD2.out.below (w' := wr) (HB.out)
    have HD3 := Lib.hid hd3
    have HB3 := Lib.hid (HB2.out.trans (HB.out.mono HB2.out.size))
    clear hd3 HR HB hlt hz HD2 HB2
    go_wp2_with fail
    have hcr := crash_any w.heap.size d _ (some ⟨w2.heap.size, 0, none⟩) z z (List.replicate z al) wr HD3.out (by have := HP.out; omega) (by simp) HVS.out (fun b o s e hf => by cases e; have := HS2.out; omega)
    refine hcr.mono ?_
    rintro e w4 ⟨rfl, F4, hd4, hx4, ho4⟩
    obtain ⟨dc, hdc⟩ : ∃ dc, dc = d.crashM (List.replicate z al) := ⟨_, rfl⟩
    have hq1 : dc.dead = false := by rw [hdc]; rfl
    have hq2 : dc.fs = false := by rw [hdc]; rfl
    have hlc : dc.sec.length = d.sec.length := by rw [hdc]; exact crash_len _ _
    rw [← hdc] at hd4
    have HDC : Hid (dc = d.crashM (List.replicate d.pend.length al)) := Lib.hid (by rw [← HN.out]; exact hdc)
    have HB4 : Hid (Below w.heap.size w w4) := Lib.hid (HB3.out.trans (below_off ho4 HB3.out.size (fun k hk => hk.1)))
    have HFB : Hid (∀ k, F4 k → w.heap.size ≤ k ∧ k < w4.heap.size) := Lib.hid (fun k hk => ⟨by rcases hx4 k hk with h | h; exact h.1; have := HB3.out.size; omega, hd4.2 k hk⟩)
    have HD4 := Lib.hid hd4
    have HLN := Lib.hid (len_any w.heap.size dc F4 w4 hd4.1)
    obtain ⟨N, hNn⟩ : ∃ N, N = dc.sec.length := ⟨_, rfl⟩
    rw [← hNn] at HLN
    have HNN := Lib.hid hNn
    have HND : Hid (N = d.sec.length) := Lib.hid (by rw [hNn, hlc])
    have hN9 : N ≤ 2048 := by rw [hNn, hlc]; exact HGO.out.most
    have HQ1 := Lib.hid hq1
    have HQ2 := Lib.hid hq2
    clear hdc hq1 hq2 hlc hd4 hx4 ho4 hNn hcr HVS HD3 HB3 HS2 HN HP HGO
    go_wp2_with fail
    refine HLN.out.mono ?_
    rintro e w4b ⟨rfl, hx⟩
    subst hx
    clear HLN
    go_wp2_with fail
    have HV0 : Hid (w4b.ownsRow w4b.heap.size 89 64 (.slice none 0 0) 0 ((dc.sec.take 0).flatMap bv)) := Lib.hid ⟨rfl, .inl ⟨rfl, rfl⟩⟩
    have HDO : Hid (∃ o, Disk w4b F4 w.heap.size { dc with ops := o }) := Lib.hid ⟨dc.ops, HD4.out⟩
    have HBO : Hid (Below w.heap.size w w4b ∧ w4b.heap.size ≤ w4b.heap.size) := Lib.hid ⟨HB4.out, Nat.le_refl _⟩
    go_loopw [8, 34] (fun t8 i wr => ∃ (r : Nat) (v : Value), r ≤ N ∧ i = .int .i64 (r : Int) ∧ t8 = v ∧ Hid (wr.ownsRow w4b.heap.size 89 64 v r ((dc.sec.take r).flatMap bv)) ∧ Hid (∃ o, Disk wr F4 w.heap.size { dc with ops := o }) ∧ Hid (Below w.heap.size w wr ∧ w4b.heap.size ≤ wr.heap.size)) (fun _ i _ => N - (intOf i).toNat)
    case atStart => exact ⟨0, _, by omega, rfl, rfl, HV0, HDO, HBO⟩
    case round =>
      obtain ⟨r, v, hr, rfl, rfl, HV, HD, HB⟩ := hrel
      rename World => wr
      clear HV0 HDO HBO
      by_cases hlt : r < N
      case neg =>
        have h1 : ¬ (r : Int) < (N : Int) := by omega
        obtain rfl : r = N := by omega
        have HVF : Hid (wr.ownsRow w.heap.size 89 64 u8 d.sec.length ((d.crashM (List.replicate d.pend.length al)).sec.flatMap bv)) := Lib.hid (by
          have := HV.out
          rw [List.take_of_length_le (Nat.le_of_eq HNN.out.symm), HDC.out, HND.out] at this
          exact owns_base this HB4.out.size)
        clear HV HD
        go_wp2
        go_ret
        exact ⟨_, rfl, HVF.out, HB.out.1⟩
      have h1 : (r : Int) < (N : Int) := by omega
      obtain ⟨b, hb⟩ : ∃ b, b = dc.sec.getD r [] := ⟨_, rfl⟩
      obtain ⟨o, hd⟩ := HD.out
      have hb64 : b.length = 64 := by
        obtain ⟨⟨gs', A', c', hda⟩, _⟩ := hd
        refine hda.good.sec b ?_
        rw [hb, List.getD_eq_getElem?_getD, List.getElem?_eq_getElem (by rw [← HNN.out]; exact hlt)]
        exact List.getElem_mem _
      obtain ⟨o2, hro⟩ := read_quiet (d := { dc with ops := o }) HQ1.out HQ2.out (r : Int) (by omega) (by show (r : Int) < (dc.sec.length : Int); rw [← HNN.out]; exact h1)
      have hrk := read_keep w.heap.size _ F4 (r : Int) wr hd
      rw [hro, Int.toNat_natCast] at hrk
      simp only [] at hrk
      rw [← hb] at hrk
      have HRK := Lib.hid hrk
      have HBB := Lib.hid hb
      have HB64 := Lib.hid hb64
      clear hrk hro hd hb hb64 HD
      go_wp2_with fail
      refine HRK.out.mono ?_
      rintro e w5 ⟨rfl, hd5, ho5⟩
      have HD5 : Hid (∃ o, Disk w5 F4 w.heap.size { dc with ops := o }) := Lib.hid ⟨o2, hd5⟩
      have HV5 := Lib.hid (ownsO HV.out (fun k hk => (HFB.out k hk).2) ho5)
      have HB5 : Hid (Below w.heap.size w w5 ∧ w4b.heap.size ≤ w5.heap.size) := Lib.hid ⟨HB.out.1.trans (below_off ho5 HB.out.1.size (fun k hk => (HFB.out k hk).1)), Nat.le_trans HB.out.2 ho5.size⟩
      have R5 := Lib.hid (Row.new w5 89 (bv nought))
      have HSB : Hid ((Try.prog.info? 89).map (·.size) = some (bv b).length) := Lib.hid (by rw [bv_length, HB64.out]; exact size39)
      have HFT : Hid (0 + (bv b).length ≤ (bv nought).length) := Lib.hid (by rw [bv_length, HB64.out, bv_length]; decide)
      clear hd5 ho5 HRK HV HB
      go_wp2_with (first
        | (with_reducible refine wpList_store_in (op := ⟨none, _, _, _, _, _⟩) ?_ 89 (.tmp 10) (.tmp 41) ?_ w5.heap.size 0 (bv b) ?_ ?_ 89 (bv nought) ?_ HFT.out bv_one HSB.out ?_))
      all_goals try (first | rfl | exact R5.out)
      intro w6 hr6 hg6
      rw [splice_all (bv nought) (bv b) (by rw [bv_length, bv_length, HB64.out]; rfl)] at hr6
      have hb56 : Below w5.heap.size w5 w6 := ((Below.refl _ _).alloc (Nat.le_refl _) _).grown hg6 (by simp) (fun k e => by have := Option.some.inj e; omega)
      have HD6 : Hid (∃ o, Disk w6 F4 w.heap.size { dc with ops := o }) := Lib.hid (by obtain ⟨o, h⟩ := HD5.out; exact ⟨o, h.below hb56⟩)
      have HV6 := Lib.hid (ownsB HV5.out (fun k hk => (owns_lt HV5.out k hk).2) hb56)
      have HB6 : Hid (Below w.heap.size w w6 ∧ w4b.heap.size ≤ w6.heap.size) := Lib.hid ⟨HB5.out.1.trans (hb56.mono HB5.out.1.size), Nat.le_trans HB5.out.2 hb56.size⟩
      have R6 := Lib.hid hr6
      clear hr6 hg6 hb56 R5 HD5 HV5 HB5 HFT
      obtain ⟨ib, hib, hbz0, hbz1, hbz2⟩ := info_parts info39
      have HIB := Lib.hid hib
      have HBZ0 := Lib.hid hbz0
      have HBZ1 := Lib.hid hbz1
      have HBZ2 := Lib.hid hbz2
      have HBs1 : Hid (ib.size = (bv nought).length) := Lib.hid (by rw [bv_length]; exact hbz1)
      have HBp : Hid (0 < (bv nought).length) := Lib.hid (by rw [bv_length]; decide)
      have HBn : Hid ((bv nought).length ≤ 1000) := Lib.hid (by rw [bv_length]; decide)
      have HBZa : Hid (ib.zero = some (.agg (bv nought).toArray)) := Lib.hid hbz0
      have HPn : Hid ((bv b).length = (bv nought).length) := Lib.hid (by rw [bv_length, bv_length, HB64.out]; rfl)
      clear hib hbz0 hbz1 hbz2
      go_wp2_with (first
        | (with_reducible refine Wl.wpList_load_row (op := ⟨some 46, _, _, _, _, _⟩) ?_ 89 (.tmp 10) ?_ w5.heap.size 0 ?_ (bv b) _ (Row.all R6.out) Try.underlying89 ?_ HSB.out ?_)
        | (with_reducible refine wpList_build1 (o := ⟨some 47, _, _, _, _, _⟩) ?_ 72 89 (.tmp 46) ?_ (bv b) (bv nought) ib ?_ Try.underlying72 HIB.out HBZa.out HBs1.out HPn.out HBp.out HBn.out ?_)
        | (at_builtin; (refine wpList_append_k (o := ⟨some 48, _, _, _, _, _⟩) rfl (.tmp 45) (.tmp 47) 72 rfl w4b.heap.size 89 ib (blk nought) 64 64 Try.underlying72 HIB.out HBZ0.out HBZ1.out HBZ2.out rfl (by decide) u8 r ((dc.sec.take r).flatMap bv) rfl ?own (some ⟨w6.heap.size, 0, none⟩) 1 1 (bv b) rfl ?len (w6.heap.size + 1) ?vs bv_one (fun h => by cases h) (by unfold maxLen; omega) (by omega) ?siz ?next)))
      all_goals try rfl
      case own => exact ownsB HV6.out (fun k hk => (owns_lt HV6.out k hk).2) ((Below.refl _ _).alloc (Nat.le_refl _) _)
      case len => rw [bv_length, HB64.out]
      case vs => exact fun _ => ⟨w6.heap.size, 0, rfl, Nat.lt_succ_self _, Row.all (Row.new w6 _ _)⟩
      case siz => exact Nat.le_trans HB6.out.2 ((Below.refl w6.heap.size w6).alloc (Nat.le_refl _) _).size
      case next =>
        intro v7 w7 ho7 hg7
        have hba : Below w6.heap.size w6 (w6.alloc (.cells (bv b).toArray 89)) := (Below.refl _ _).alloc (Nat.le_refl _) _
        have hov : (w6.alloc (.cells (bv b).toArray 89)).ownsRow w4b.heap.size 89 64 u8 r ((dc.sec.take r).flatMap bv) := ownsB HV6.out (fun k hk => (owns_lt HV6.out k hk).2) hba
        have hbo : Below w4b.heap.size (w6.alloc (.cells (bv b).toArray 89)) w7 := below_own hg7 (fun k hk => (owns_lt hov k hk).1) (Nat.le_trans HB6.out.2 hba.size)
        have HV7 : Hid (w7.ownsRow w4b.heap.size 89 64 v7 (r + 1) ((dc.sec.take (r + 1)).flatMap bv)) := Lib.hid (by
          rw [take_flat (by rw [← HNN.out]; exact hlt), ← HBB.out]
          exact ho7)
        have HD7 : Hid (∃ o, Disk w7 F4 w.heap.size { dc with ops := o }) := Lib.hid (by
          obtain ⟨o, h⟩ := HD6.out
          exact ⟨o, (h.below hba).off (F' := fun k => w4b.heap.size ≤ k) (fun k hk hf => by have := (HFB.out k hk).2; omega) ⟨hbo.os, hbo.tape, hbo.output, hbo.size, fun k _ hn => hbo.block k (by omega)⟩⟩)
        have HB7 : Hid (Below w.heap.size w w7 ∧ w4b.heap.size ≤ w7.heap.size) := Lib.hid ⟨(HB6.out.1.trans (hba.mono HB6.out.1.size)).trans (hbo.mono HB4.out.size), Nat.le_trans (Nat.le_trans HB6.out.2 hba.size) hbo.size⟩
        have hw3 : wrap64 ((r : Int) + 1) = (r : Int) + 1 := by unfold wrap64; omega
        clear ho7 hg7 hba hov hbo HV6 HD6 HB6 R6 HIB HBZ0 HBZ1 HBZ2 HBs1 HBp HBn HBZa HPn HSB HBB HB64
        go_wp2_with fail
        go_roundw
        case rel => exact ⟨r + 1, v7, by omega, rfl, rfl, HV7, HD7, HB7⟩
        case measure => simp [intOf]; omega
end Go.Proofs.Yteemdjamgbbjhaa.Wr

/-
  The law's alike, of two disks that hold the same.
-/
namespace Go.Proofs.Yteemdjamgbbjhaa.Wr
set_option maxRecDepth 100000
open Go.RowKit Go.Shelf Go.Lib Go.Proofs.Yteemdjamgbbjhaa.Wd Go.Proofs.Yteemdjamgbbjhaa.Dsk Go.Proofs.Yteemdjamgbbjhaa.Oct Go.Proofs.Yteemdjamgbbjhaa.Sum Go.Proofs.Yteemdjamgbbjhaa.Beq Go.Proofs.Yteemdjamgbbjhaa.Wl

theorem yieldsIf_neq_blk {ops : Array Oper} {S : World → Prop} {o : Oper} {a : Act} (hw : Region.wanted o (yielded ops a.tmps) = true) (x y : Operand) (ho : o.op = .binOp .neq 89 x y 89) (l m : List UInt8) (hx : a.eval x = blk l) (hy : a.eval y = blk m) (hl : l.length = 64) (hm : m.length = 64) :
    YieldsIf Try.prog ops S o (.bool (!decide (l = m))) a :=
  Or.inl ⟨hw, fun w _ => by
    have hr := run_neq_blk w x y l m hl hm
    rw [Sem.run_bind] at hr
    unfold execOp
    simp only [ho, hx, hy, Sem.run_bind]
    revert hr
    generalize (eqGuard .neq 89 x y (blk l) (blk m)).run Try.prog w = r
    intro hr
    cases r with
    | halt e u => simp [Result.andThen] at hr
    | ok z u =>
      simp only [Result.andThen_ok] at hr ⊢
      rw [hr]
      rfl⟩
/-- a block of a row of one's own -/
theorem blk_at {w : World} {g : Nat} {ls : List (List UInt8)} (h64 : ∀ l ∈ ls, l.length = 64) (hc : ∀ k x, (ls.flatMap bv)[k]? = some x → w.cell? ⟨g, k, none⟩ = some x) {k : Nat} (hk : k < ls.length) : w.rangeAt g (0 + k * 64) (bv (ls.getD k [])) := by
  intro j v hj
  rw [List.getD_eq_getElem?_getD, List.getElem?_eq_getElem hk] at hj
  have hj64 : j < 64 := by
    have := (List.getElem?_eq_some_iff.1 hj).1
    rw [bv_length] at this
    have h2 := h64 _ (List.getElem_mem hk)
    simp at this
    omega
  have hf : ls.flatMap bv = bv ls.flatten := by
    clear hk hj h64 hc
    induction ls with
    | nil => rfl
    | cons a t ih => rw [List.flatMap_cons, ih, List.flatten_cons, bv_append]
  have := hc (k * 64 + j) v (by
    rw [hf]
    simp only [bv, List.getElem?_map] at hj ⊢
    rw [flat_get ls k j h64 hk hj64]
    rw [List.getD_eq_getElem?_getD, List.getElem?_eq_getElem hk, Option.getD_some]
    exact hj)
  rw [show 0 + k * 64 + j = k * 64 + j by omega]
  exact this
theorem backM_64 {s : List (List UInt8)} (hs : ∀ b ∈ s, b.length = 64) : ∀ p : List (Int × List UInt8 × List UInt8), (∀ q ∈ p, q.2.1.length = 64) → ∀ b ∈ backM s p, b.length = 64
  | [], _ => hs
  | q :: ps, hp => fun b hb => by
    rcases List.mem_or_eq_of_mem_set hb with hb | rfl
    · exact backM_64 hs ps (fun x hx => hp x (List.mem_cons_of_mem _ hx)) b hb
    · exact hp q List.mem_cons_self
theorem liveF_64 {s : List (List UInt8)} {p : List (Int × List UInt8 × List UInt8)} {keep : List Bool} (hs : ∀ b ∈ s, b.length = 64) (hp : ∀ q ∈ p, q.2.2.length = 64) : ∀ k, k ≤ p.length → ∀ b ∈ liveF s p keep k, b.length = 64
  | 0, _ => hs
  | k + 1, hk => fun b hb => by
    rw [liveF_succ] at hb
    split at hb
    · rcases List.mem_or_eq_of_mem_set hb with hb | rfl
      · exact liveF_64 hs hp k (by omega) b hb
      · exact hp (p.getD k noWrite) (by rw [List.getD_eq_getElem?_getD, List.getElem?_eq_getElem (by omega)]; exact List.getElem_mem _)
    · exact liveF_64 hs hp k (by omega) b hb
theorem crash_64 {d : DM} (h : Dsk.Good d) (keep : List Bool) : ∀ b ∈ (d.crashM keep).sec, b.length = 64 :=
  liveF_64 (backM_64 h.sec _ (fun q hq => (h.pend q hq).2.2.1)) (fun q hq => (h.pend q hq).2.2.2) _ (Nat.le_refl _)
set_option maxHeartbeats 4000000 in
theorem alike_any (ga gb : Nat) (d : DM) (F F' : Nat → Prop) (w : World) (h : Disk w F ga d) (h' : Disk w F' gb d) (hp : d.pend.length ≤ 900000) :
    Calls Try.prog 15 #[.pointer (some ⟨ga, 0, none⟩), .pointer (some ⟨gb, 0, none⟩)] w fun e w' => e = .returned (.bool true) ∧ Below w.heap.size w w' := by
  obtain ⟨⟨gs, A, c, hda⟩, hlow⟩ := id h
  have HGO := Lib.hid hda.good
  have HP := Lib.hid hp
  have HD := Lib.hid h
  have HD' := Lib.hid h'
  have H1 := Lib.hid (dead_any ga d F w h.1)
  have H2 := Lib.hid (dead_any gb d F' w h'.1)
  have H3 := Lib.hid (ops_any ga d F w h.1)
  have H4 := Lib.hid (ops_any gb d F' w h'.1)
  have H5 := Lib.hid (pending_any ga d F w h (by omega))
  have hbe : (d.dead != d.dead) = false := by cases d.dead <;> rfl
  clear hda hlow h h' hp
  go_enter Try.func15, Try.ntmps15
  go_wp2_with fail
  refine H1.out.mono ?_
  rintro e w1 ⟨rfl, hx⟩
  subst hx
  go_wp2_with fail
  refine H2.out.mono ?_
  rintro e w2 ⟨rfl, hx⟩
  subst hx
  go_wp2_with fail
  have hop : (d.ops != d.ops) = false := by simp
  have hpn : (((d.pend.length : Nat) : Int) != ((d.pend.length : Nat) : Int)) = false := by simp
  refine H3.out.mono ?_
  rintro e w3 ⟨rfl, hx⟩
  subst hx
  go_wp2_with fail
  refine H4.out.mono ?_
  rintro e w4 ⟨rfl, hx⟩
  subst hx
  go_wp2_with fail
  refine H5.out.mono ?_
  rintro e w5 ⟨rfl, -, hb5⟩
  have H6 := Lib.hid (pending_any gb d F' w5 (HD'.out.below hb5) (by have := HP.out; omega))
  have HB5 := Lib.hid hb5
  clear H1 H2 H3 H4 H5 hb5
  go_wp2_with fail
  refine H6.out.mono ?_
  rintro e w6 ⟨rfl, -, hb6⟩
  have HB6 : Hid (Below w4.heap.size w4 w6) := Lib.hid (HB5.out.trans (hb6.mono HB5.out.size))
  clear H6 HB5 hb6
  go_wp2_with fail
  go_loopw [32] (fun i wr => ∃ k : Nat, k ≤ 2 ∧ i = .int .i64 (k : Int) ∧ Hid (Below w4.heap.size w4 wr)) (fun i _ => 2 - (intOf i).toNat)
  case atStart => exact ⟨0, by omega, rfl, HB6⟩
  case round =>
    obtain ⟨k, hk, rfl, HB⟩ := hrel
    rename World => wr
    clear HB6
    by_cases h2 : k = 2
    case pos =>
      subst h2
      go_wp2
      go_ret
      exact ⟨rfl, HB.out⟩
    by_cases h0 : k = 0
    case pos =>
      subst h0
      rw [show (((0 : Nat) : Int)) = 0 from rfl]
      obtain ⟨L, hL⟩ : ∃ L, L = (d.crashM (List.replicate d.pend.length false)).sec := ⟨_, rfl⟩
      have hLl : L.length = d.sec.length := by rw [hL]; exact crash_len _ _
      have hL64 : ∀ l ∈ L, l.length = 64 := by rw [hL]; exact crash_64 HGO.out _
      have HE1 := Lib.hid (held_any ga false d F wr (HD.out.below HB.out) HP.out)
      rw [← hL] at HE1
      have HLL := Lib.hid hLl
      have HL64 := Lib.hid hL64
      have HLE := Lib.hid hL
      clear hL hLl hL64
      have hix : ∀ u : World, (Instr.index 98 (.agg #[.bool false, .bool true]) (.int .i64 0)).run Try.prog u = .ok (.bool false) u := fun u => by kernel_rfl
      go_wp2_with fail
      refine HE1.out.mono ?_
      rintro e w7 ⟨v7, rfl, ho7, hb7⟩
      have HB7 := Lib.hid (HB.out.trans (hb7.mono HB.out.size))
      have HE2 := Lib.hid (held_any gb false d F' w7 (HD'.out.below HB7.out) HP.out)
      rw [← HLE.out] at HE2
      obtain ⟨g7, c7, hv7, -, hg7, hc7⟩ := vs_row ho7 HGO.out.pos
      subst hv7
      have HC7 := Lib.hid (fun (j : Nat) (hj : j < L.length) => blk_at HL64.out hc7 hj)
      have HG7 := Lib.hid hg7
      clear ho7 hb7 hc7 hg7 HE1
      go_wp2_with fail
      refine HE2.out.mono ?_
      rintro e w8 ⟨v8, rfl, ho8, hb8⟩
      have HB8 := Lib.hid (HB7.out.trans (hb8.mono HB7.out.size))
      obtain ⟨g8, c8, hv8, -, hg8, hc8⟩ := vs_row ho8 HGO.out.pos
      subst hv8
      have HC8 := Lib.hid (fun (j : Nat) (hj : j < L.length) => blk_at HL64.out hc8 hj)
      have HG8 := Lib.hid hg8
      have HC78 := Lib.hid (fun (j : Nat) (hj : j < L.length) => range_below (HC7.out j hj) hb8 HG7.out)
      have HG78 := Lib.hid (Nat.lt_of_lt_of_le HG7.out hb8.size)
      clear ho8 hb8 hc8 hg8 HE2 HC7 HG7 HB7 HB
      have hze : (((d.sec.length : Nat) : Int) == 0) = false := beq_eq_false_iff_ne.2 (by have := HGO.out.pos; omega)
      have hne : (((d.sec.length : Nat) : Int) != ((d.sec.length : Nat) : Int)) = false := by simp
      have hmost := HGO.out.most
      go_wp2_with fail
      have HBI : Hid (Below w8.heap.size w8 w8) := Lib.hid (Below.refl _ _)
      go_loopw [53] (fun i wx => ∃ j : Nat, j ≤ d.sec.length ∧ i = .int .i64 (j : Int) ∧ Hid (Below w8.heap.size w8 wx)) (fun i _ => d.sec.length - (intOf i).toNat)
      case atStart => exact ⟨0, by omega, rfl, HBI⟩
      case round =>
        obtain ⟨j, hj, rfl, HX⟩ := hrel
        rename World => wx
        clear HBI
        by_cases hlt : j < d.sec.length
        case neg =>
          have h1 : ¬ (j : Int) < ((d.sec.length : Nat) : Int) := by omega
          have HBN : Hid (Below w4.heap.size w4 wx) := Lib.hid (HB8.out.trans (HX.out.mono HB8.out.size))
          clear hj HX HB8 HC8 HC78 HG8 HG78
          go_wp2_with fail
          go_roundw
          case rel => exact ⟨0 + 1, by omega, by go_num, HBN⟩
          case measure => simp [intOf]
        have h1 : (j : Int) < ((d.sec.length : Nat) : Int) := by omega
        obtain ⟨l, hl⟩ : ∃ l, l = L.getD j [] := ⟨_, rfl⟩
        have hjl : j < L.length := by rw [HLL.out]; exact hlt
        have hp1 := range_below (HC78.out j hjl) HX.out HG78.out
        have hp2 := range_below (HC8.out j hjl) HX.out HG8.out
        have hl64 : l.length = 64 := by
          rw [hl, List.getD_eq_getElem?_getD, List.getElem?_eq_getElem hjl]
          exact HL64.out _ (List.getElem_mem _)
        rw [← hl] at hp1 hp2
        have HL1 := Lib.hid hl64
        have HS1 : Hid ((Try.prog.info? 89).map (·.size) = some (bv l).length) := Lib.hid (by rw [bv_length, hl64]; exact size39)
        clear hl hjl hl64
        go_wp2_with fail
        refine wp_region_held_drew (S := fun w' : World => w'.rangeAt g7 (0 + j * 64) (bv l) ∧ w'.rangeAt g8 (0 + j * 64) (bv l)) (by kernel_rfl) ⟨hp1, hp2⟩ (fun hHeld => ?_)
        refine wpAnyH_take (i := 0) (oi := ⟨some 56, _, _, _, _, _⟩) (v := ?v0a) rfl (by kernel_rfl) (by kernel_rfl) (by kernel_rfl) (fun _ _ _ h => h) (Or.inl ⟨by rfl, ?y0a⟩) hHeld ?r0a
        case y0a =>
          rintro w' ⟨q0, q1⟩
          go_simp
          try with_reducible rfl
        try simp only [Act.put, List.setIfInBounds_toArray, List.set_cons_zero, List.set_cons_succ]
        refine wpAnyH_take (i := 1) (oi := ⟨some 57, _, _, _, _, _⟩) (v := ?v1a) rfl (by kernel_rfl) (by kernel_rfl) (by kernel_rfl) (fun _ _ _ h => h) (Or.inl ⟨by rfl, ?y1a⟩) hHeld ?r1a
        case y1a =>
          rintro w' ⟨q0, q1⟩
          go_simp
          try with_reducible rfl
        try simp only [Act.put, List.setIfInBounds_toArray, List.set_cons_zero, List.set_cons_succ]
        refine wpAnyH_take (i := 2) (oi := ⟨some 58, _, _, _, _, _⟩) (v := ?v2a) rfl (by kernel_rfl) (by kernel_rfl) (by kernel_rfl) (fun _ _ _ h => h) (Or.inl ⟨by rfl, ?y2a⟩) hHeld ?r2a
        case y2a =>
          rintro w' ⟨q0, q1⟩
          go_simp
          try with_reducible rfl
        try simp only [Act.put, List.setIfInBounds_toArray, List.set_cons_zero, List.set_cons_succ]
        refine wpAnyH_take (i := 3) (oi := ⟨some 59, _, _, _, _, _⟩) rfl (by kernel_rfl) (by kernel_rfl) (by kernel_rfl) (fun _ _ _ h => h) (yieldsIf_load_mid (by rfl) 89 (.tmp 58) rfl g7 (0 + j * 64) ?x3a (bv l) _ (fun _ hS => hS.1) Try.underlying89 rfl HS1.out) hHeld ?r3a
        case x3a => first | rfl | (simp [Act.eval, go_sem]; done)
        try simp only [Act.put, List.setIfInBounds_toArray, List.set_cons_zero, List.set_cons_succ]
        refine wpAnyH_take (i := 4) (oi := ⟨some 60, _, _, _, _, _⟩) (v := ?v4a) rfl (by kernel_rfl) (by kernel_rfl) (by kernel_rfl) (fun _ _ _ h => h) (Or.inl ⟨by rfl, ?y4a⟩) hHeld ?r4a
        case y4a =>
          rintro w' ⟨q0, q1⟩
          go_simp
          try with_reducible rfl
        try simp only [Act.put, List.setIfInBounds_toArray, List.set_cons_zero, List.set_cons_succ]
        refine wpAnyH_take (i := 5) (oi := ⟨some 61, _, _, _, _, _⟩) (v := ?v5a) rfl (by kernel_rfl) (by kernel_rfl) (by kernel_rfl) (fun _ _ _ h => h) (Or.inl ⟨by rfl, ?y5a⟩) hHeld ?r5a
        case y5a =>
          rintro w' ⟨q0, q1⟩
          go_simp
          try with_reducible rfl
        try simp only [Act.put, List.setIfInBounds_toArray, List.set_cons_zero, List.set_cons_succ]
        refine wpAnyH_take (i := 6) (oi := ⟨some 62, _, _, _, _, _⟩) (v := ?v6a) rfl (by kernel_rfl) (by kernel_rfl) (by kernel_rfl) (fun _ _ _ h => h) (Or.inl ⟨by rfl, ?y6a⟩) hHeld ?r6a
        case y6a =>
          rintro w' ⟨q0, q1⟩
          go_simp
          try with_reducible rfl
        try simp only [Act.put, List.setIfInBounds_toArray, List.set_cons_zero, List.set_cons_succ]
        refine wpAnyH_take (i := 7) (oi := ⟨some 63, _, _, _, _, _⟩) rfl (by kernel_rfl) (by kernel_rfl) (by kernel_rfl) (fun _ _ _ h => h) (yieldsIf_load_mid (by rfl) 89 (.tmp 62) rfl g8 (0 + j * 64) ?x7a (bv l) _ (fun _ hS => hS.2) Try.underlying89 rfl HS1.out) hHeld ?r7a
        case x7a => first | rfl | (simp [Act.eval, go_sem]; done)
        try simp only [Act.put, List.setIfInBounds_toArray, List.set_cons_zero, List.set_cons_succ]
        refine wpAnyH_take (i := 8) (oi := ⟨some 64, _, _, _, _, _⟩) rfl (by kernel_rfl) (by kernel_rfl) (by kernel_rfl) (fun _ _ _ h => h) (yieldsIf_neq_blk (by rfl) (.tmp 59) (.tmp 63) rfl l l rfl rfl HL1.out HL1.out) hHeld ?r8a
        try simp only [Act.put, List.setIfInBounds_toArray, List.set_cons_zero, List.set_cons_succ]
        refine wpAnyH_done (by kernel_rfl) ?_ _
        have HXD : Hid (Below w8.heap.size w8 wx.drew) := Lib.hid ⟨HX.out.os, HX.out.tape, HX.out.output, HX.out.size, HX.out.block⟩
        have hd : decide (l = l) = true := decide_eq_true rfl
        have hw3 : wrap64 ((j : Int) + 1) = (j : Int) + 1 := by unfold wrap64; omega
        try rw [hd]
        clear hp1 hp2 hHeld hd HX
        go_wp2
        go_roundw
        case rel => exact ⟨j + 1, by omega, by go_num, HXD⟩
        case measure => simp [intOf]; omega
    obtain rfl : k = 1 := by omega
    rw [show (((1 : Nat) : Int)) = 1 from rfl]
    obtain ⟨L, hL⟩ : ∃ L, L = (d.crashM (List.replicate d.pend.length true)).sec := ⟨_, rfl⟩
    have hLl : L.length = d.sec.length := by rw [hL]; exact crash_len _ _
    have hL64 : ∀ l ∈ L, l.length = 64 := by rw [hL]; exact crash_64 HGO.out _
    have HE1 := Lib.hid (held_any ga true d F wr (HD.out.below HB.out) HP.out)
    rw [← hL] at HE1
    have HLL := Lib.hid hLl
    have HL64 := Lib.hid hL64
    have HLE := Lib.hid hL
    clear hL hLl hL64
    have hix : ∀ u : World, (Instr.index 98 (.agg #[.bool false, .bool true]) (.int .i64 1)).run Try.prog u = .ok (.bool true) u := fun u => by kernel_rfl
    go_wp2_with fail
    refine HE1.out.mono ?_
    rintro e w7 ⟨v7, rfl, ho7, hb7⟩
    have HB7 := Lib.hid (HB.out.trans (hb7.mono HB.out.size))
    have HE2 := Lib.hid (held_any gb true d F' w7 (HD'.out.below HB7.out) HP.out)
    rw [← HLE.out] at HE2
    obtain ⟨g7, c7, hv7, -, hg7, hc7⟩ := vs_row ho7 HGO.out.pos
    subst hv7
    have HC7 := Lib.hid (fun (j : Nat) (hj : j < L.length) => blk_at HL64.out hc7 hj)
    have HG7 := Lib.hid hg7
    clear ho7 hb7 hc7 hg7 HE1
    go_wp2_with fail
    refine HE2.out.mono ?_
    rintro e w8 ⟨v8, rfl, ho8, hb8⟩
    have HB8 := Lib.hid (HB7.out.trans (hb8.mono HB7.out.size))
    obtain ⟨g8, c8, hv8, -, hg8, hc8⟩ := vs_row ho8 HGO.out.pos
    subst hv8
    have HC8 := Lib.hid (fun (j : Nat) (hj : j < L.length) => blk_at HL64.out hc8 hj)
    have HG8 := Lib.hid hg8
    have HC78 := Lib.hid (fun (j : Nat) (hj : j < L.length) => range_below (HC7.out j hj) hb8 HG7.out)
    have HG78 := Lib.hid (Nat.lt_of_lt_of_le HG7.out hb8.size)
    clear ho8 hb8 hc8 hg8 HE2 HC7 HG7 HB7 HB
    have hze : (((d.sec.length : Nat) : Int) == 0) = false := beq_eq_false_iff_ne.2 (by have := HGO.out.pos; omega)
    have hne : (((d.sec.length : Nat) : Int) != ((d.sec.length : Nat) : Int)) = false := by simp
    have hmost := HGO.out.most
    go_wp2_with fail
    have HBI : Hid (Below w8.heap.size w8 w8) := Lib.hid (Below.refl _ _)
    go_loopw [53] (fun i wx => ∃ j : Nat, j ≤ d.sec.length ∧ i = .int .i64 (j : Int) ∧ Hid (Below w8.heap.size w8 wx)) (fun i _ => d.sec.length - (intOf i).toNat)
    case atStart => exact ⟨0, by omega, rfl, HBI⟩
    case round =>
      obtain ⟨j, hj, rfl, HX⟩ := hrel
      rename World => wx
      clear HBI
      by_cases hlt : j < d.sec.length
      case neg =>
        have h1 : ¬ (j : Int) < ((d.sec.length : Nat) : Int) := by omega
        have HBN : Hid (Below w4.heap.size w4 wx) := Lib.hid (HB8.out.trans (HX.out.mono HB8.out.size))
        clear hj HX HB8 HC8 HC78 HG8 HG78
        go_wp2_with fail
        go_roundw
        case rel => exact ⟨1 + 1, by omega, by go_num, HBN⟩
        case measure => simp [intOf]
      have h1 : (j : Int) < ((d.sec.length : Nat) : Int) := by omega
      obtain ⟨l, hl⟩ : ∃ l, l = L.getD j [] := ⟨_, rfl⟩
      have hjl : j < L.length := by rw [HLL.out]; exact hlt
      have hp1 := range_below (HC78.out j hjl) HX.out HG78.out
      have hp2 := range_below (HC8.out j hjl) HX.out HG8.out
      have hl64 : l.length = 64 := by
        rw [hl, List.getD_eq_getElem?_getD, List.getElem?_eq_getElem hjl]
        exact HL64.out _ (List.getElem_mem _)
      rw [← hl] at hp1 hp2
      have HL1 := Lib.hid hl64
      have HS1 : Hid ((Try.prog.info? 89).map (·.size) = some (bv l).length) := Lib.hid (by rw [bv_length, hl64]; exact size39)
      clear hl hjl hl64
      go_wp2_with fail
      refine wp_region_held_drew (S := fun w' : World => w'.rangeAt g7 (0 + j * 64) (bv l) ∧ w'.rangeAt g8 (0 + j * 64) (bv l)) (by kernel_rfl) ⟨hp1, hp2⟩ (fun hHeld => ?_)
      refine wpAnyH_take (i := 0) (oi := ⟨some 56, _, _, _, _, _⟩) (v := ?v0b) rfl (by kernel_rfl) (by kernel_rfl) (by kernel_rfl) (fun _ _ _ h => h) (Or.inl ⟨by rfl, ?y0b⟩) hHeld ?r0b
      case y0b =>
        rintro w' ⟨q0, q1⟩
        go_simp
        try with_reducible rfl
      try simp only [Act.put, List.setIfInBounds_toArray, List.set_cons_zero, List.set_cons_succ]
      refine wpAnyH_take (i := 1) (oi := ⟨some 57, _, _, _, _, _⟩) (v := ?v1b) rfl (by kernel_rfl) (by kernel_rfl) (by kernel_rfl) (fun _ _ _ h => h) (Or.inl ⟨by rfl, ?y1b⟩) hHeld ?r1b
      case y1b =>
        rintro w' ⟨q0, q1⟩
        go_simp
        try with_reducible rfl
      try simp only [Act.put, List.setIfInBounds_toArray, List.set_cons_zero, List.set_cons_succ]
      refine wpAnyH_take (i := 2) (oi := ⟨some 58, _, _, _, _, _⟩) (v := ?v2b) rfl (by kernel_rfl) (by kernel_rfl) (by kernel_rfl) (fun _ _ _ h => h) (Or.inl ⟨by rfl, ?y2b⟩) hHeld ?r2b
      case y2b =>
        rintro w' ⟨q0, q1⟩
        go_simp
        try with_reducible rfl
      try simp only [Act.put, List.setIfInBounds_toArray, List.set_cons_zero, List.set_cons_succ]
      refine wpAnyH_take (i := 3) (oi := ⟨some 59, _, _, _, _, _⟩) rfl (by kernel_rfl) (by kernel_rfl) (by kernel_rfl) (fun _ _ _ h => h) (yieldsIf_load_mid (by rfl) 89 (.tmp 58) rfl g7 (0 + j * 64) ?x3b (bv l) _ (fun _ hS => hS.1) Try.underlying89 rfl HS1.out) hHeld ?r3b
      case x3b => first | rfl | (simp [Act.eval, go_sem]; done)
      try simp only [Act.put, List.setIfInBounds_toArray, List.set_cons_zero, List.set_cons_succ]
      refine wpAnyH_take (i := 4) (oi := ⟨some 60, _, _, _, _, _⟩) (v := ?v4b) rfl (by kernel_rfl) (by kernel_rfl) (by kernel_rfl) (fun _ _ _ h => h) (Or.inl ⟨by rfl, ?y4b⟩) hHeld ?r4b
      case y4b =>
        rintro w' ⟨q0, q1⟩
        go_simp
        try with_reducible rfl
      try simp only [Act.put, List.setIfInBounds_toArray, List.set_cons_zero, List.set_cons_succ]
      refine wpAnyH_take (i := 5) (oi := ⟨some 61, _, _, _, _, _⟩) (v := ?v5b) rfl (by kernel_rfl) (by kernel_rfl) (by kernel_rfl) (fun _ _ _ h => h) (Or.inl ⟨by rfl, ?y5b⟩) hHeld ?r5b
      case y5b =>
        rintro w' ⟨q0, q1⟩
        go_simp
        try with_reducible rfl
      try simp only [Act.put, List.setIfInBounds_toArray, List.set_cons_zero, List.set_cons_succ]
      refine wpAnyH_take (i := 6) (oi := ⟨some 62, _, _, _, _, _⟩) (v := ?v6b) rfl (by kernel_rfl) (by kernel_rfl) (by kernel_rfl) (fun _ _ _ h => h) (Or.inl ⟨by rfl, ?y6b⟩) hHeld ?r6b
      case y6b =>
        rintro w' ⟨q0, q1⟩
        go_simp
        try with_reducible rfl
      try simp only [Act.put, List.setIfInBounds_toArray, List.set_cons_zero, List.set_cons_succ]
      refine wpAnyH_take (i := 7) (oi := ⟨some 63, _, _, _, _, _⟩) rfl (by kernel_rfl) (by kernel_rfl) (by kernel_rfl) (fun _ _ _ h => h) (yieldsIf_load_mid (by rfl) 89 (.tmp 62) rfl g8 (0 + j * 64) ?x7b (bv l) _ (fun _ hS => hS.2) Try.underlying89 rfl HS1.out) hHeld ?r7b
      case x7b => first | rfl | (simp [Act.eval, go_sem]; done)
      try simp only [Act.put, List.setIfInBounds_toArray, List.set_cons_zero, List.set_cons_succ]
      refine wpAnyH_take (i := 8) (oi := ⟨some 64, _, _, _, _, _⟩) rfl (by kernel_rfl) (by kernel_rfl) (by kernel_rfl) (fun _ _ _ h => h) (yieldsIf_neq_blk (by rfl) (.tmp 59) (.tmp 63) rfl l l rfl rfl HL1.out HL1.out) hHeld ?r8b
      try simp only [Act.put, List.setIfInBounds_toArray, List.set_cons_zero, List.set_cons_succ]
      refine wpAnyH_done (by kernel_rfl) ?_ _
      have HXD : Hid (Below w8.heap.size w8 wx.drew) := Lib.hid ⟨HX.out.os, HX.out.tape, HX.out.output, HX.out.size, HX.out.block⟩
      have hd : decide (l = l) = true := decide_eq_true rfl
      have hw3 : wrap64 ((j : Int) + 1) = (j : Int) + 1 := by unfold wrap64; omega
      try rw [hd]
      clear hp1 hp2 hHeld hd HX
      go_wp2
      go_roundw
      case rel => exact ⟨j + 1, by omega, by go_num, HXD⟩
      case measure => simp [intOf]; omega
end Go.Proofs.Yteemdjamgbbjhaa.Wr

/-
  The law's own append.
-/
namespace Go.Proofs.Yteemdjamgbbjhaa.Wr
set_option maxRecDepth 100000
open Go.RowKit Go.Shelf Go.Lib Go.Proofs.Yteemdjamgbbjhaa.Wd Go.Proofs.Yteemdjamgbbjhaa.Dsk Go.Proofs.Yteemdjamgbbjhaa.Oct Go.Proofs.Yteemdjamgbbjhaa.Sum Go.Proofs.Yteemdjamgbbjhaa.Beq Go.Proofs.Yteemdjamgbbjhaa.Wl

/-- a log of the law's own -/
def mcs (dg area t : Nat) (A : Option Addr) (n c en : Nat) (br : Bool) : List Value := [.pointer (some ⟨dg, 0, none⟩), .int .i64 (area : Int), .int .u32 (t : Int), .slice A n c, .int .i64 (en : Int), .bool br]
set_option maxHeartbeats 4000000 in
theorem appends_full (g dg area t en : Nat) (A : Option Addr) (n c : Nat) (A2 : Option Addr) (m c2 : Nat) (w : World) (hr : Row w g 97 (mcs dg area t A n c en false)) (hm : m ≤ 40000) (ha : area ≤ 1000) (he : en ≤ area) (hroom : area - en < sects m) :
    Calls Try.prog 18 #[.pointer (some ⟨g, 0, none⟩), .slice A2 m c2] w fun e w' => e = .returned (.int .i64 6) ∧ Below w.heap.size w w' := by
  have c1 : w.cell? ⟨g, 1, none⟩ = some (.int .i64 (area : Int)) := hr.cell 1
  have c4 : w.cell? ⟨g, 4, none⟩ = some (.int .i64 (en : Int)) := hr.cell 4
  have c5 : w.cell? ⟨g, 5, none⟩ = some (.bool false) := hr.cell 5
  have HS := Lib.hid (rsectors_any m w hm)
  have h40 : ¬ (40000 : Int) < (m : Int) := by omega
  have hw : wrap64 ((area : Int) - (en : Int)) = (area : Int) - (en : Int) := by unfold wrap64; omega
  have hlt : (area : Int) - (en : Int) < (sects m : Int) := by omega
  clear hr hroom
  go_enter Try.func18, Try.ntmps18
  go_wp2_with fail
  refine HS.out.mono ?_
  rintro e w1 ⟨rfl, hx⟩
  subst hx
  clear HS
  go_wp2_with fail
  go_quiet (fail)
  go_wp2
  go_ret
  exact ⟨rfl, ⟨rfl, rfl, rfl, Nat.le_refl _, fun _ _ => rfl⟩⟩
end Go.Proofs.Yteemdjamgbbjhaa.Wr

/-
  The law's format refuses.
-/
namespace Go.Proofs.Yteemdjamgbbjhaa.Wr
set_option maxRecDepth 100000
open Go.RowKit Go.Shelf Go.Lib Go.Proofs.Yteemdjamgbbjhaa.Wd Go.Proofs.Yteemdjamgbbjhaa.Dsk Go.Proofs.Yteemdjamgbbjhaa.Oct Go.Proofs.Yteemdjamgbbjhaa.Sum Go.Proofs.Yteemdjamgbbjhaa.Beq Go.Proofs.Yteemdjamgbbjhaa.Wl

/-- no area, or a disk too short -/
theorem rform_area (dg : Nat) (area : Int) (w : World) (h : ¬ (4 ≤ area ∧ area ≤ 1000)) :
    Calls Try.prog 14 #[.pointer (some ⟨dg, 0, none⟩), .int .i64 area] w fun e w' => e = .returned (.tuple #[.pointer none, .int .i64 2]) ∧ w' = w := by
  have har := rarea_any area w
  rw [show (decide (4 ≤ area) && decide (area ≤ 1000)) = false by
    rw [Bool.and_eq_false_iff, decide_eq_false_iff_not, decide_eq_false_iff_not]
    omega] at har
  have HAR := Lib.hid har
  clear har h
  go_enter Try.func14, Try.ntmps14
  go_wp2_with fail
  refine HAR.out.mono ?_
  rintro e w1 ⟨rfl, hx⟩
  subst hx
  clear HAR
  go_wp2
  exact bodyPost_ret (v := .tuple #[.pointer none, .int .i64 2]) (by simp [results, Try.results14, go_sem]) rfl ⟨rfl, rfl⟩
theorem rform_short (dg area : Nat) (d : DM) (F : Nat → Prop) (w : World) (hd : Disk w F dg d) (h4 : 4 ≤ area) (ha : area ≤ 1000) (hl : d.sec.length < 2 + 2 * area) :
    Calls Try.prog 14 #[.pointer (some ⟨dg, 0, none⟩), .int .i64 (area : Int)] w fun e w' => e = .returned (.tuple #[.pointer none, .int .i64 2]) ∧ w' = w := by
  have a1 : decide ((4 : Int) ≤ (area : Int)) = true := by simp; omega
  have a2 : decide ((area : Int) ≤ 1000) = true := by simp; omega
  have har := rarea_any (area : Int) w
  rw [a1, a2] at har
  have HAR := Lib.hid har
  have HL := Lib.hid (len_any dg d F w hd.1)
  have hll : (d.sec.length : Int) < 2 + 2 * (area : Int) := by omega
  have hw1 : wrap64 (2 * (area : Int)) = 2 * (area : Int) := by unfold wrap64; omega
  have hw2 : wrap64 (2 + 2 * (area : Int)) = 2 + 2 * (area : Int) := by unfold wrap64; omega
  clear hd har a1 a2 hl
  go_enter Try.func14, Try.ntmps14
  go_wp2_with fail
  refine HAR.out.mono ?_
  rintro e w1 ⟨rfl, hx⟩
  subst hx
  go_wp2_with fail
  refine HL.out.mono ?_
  rintro e w2 ⟨rfl, hx⟩
  subst hx
  clear HAR HL
  go_wp2
  exact bodyPost_ret (v := .tuple #[.pointer none, .int .i64 2]) (by simp [results, Try.results14, go_sem]) rfl ⟨rfl, rfl⟩
/-- the program's Format refuses -/
theorem format_low (dg : Nat) (area : Int) (w : World) (h : area < 4) :
    Calls Try.prog 13 #[.pointer (some ⟨dg, 0, none⟩), .int .i64 area] w fun e w' => e = .returned (.tuple #[.pointer none, .int .i64 2]) ∧ w' = w := by
  have mixed : Try.prog.follows .mixedOrders = true := by kernel_rfl
  go_enter Try.func13, Try.ntmps13
  go_wp2
  exact bodyPost_ret (v := .tuple #[.pointer none, .int .i64 2]) (by simp [results, Try.results13, go_sem]) rfl ⟨rfl, rfl⟩
theorem format_high (dg : Nat) (area : Int) (w : World) (h : 1000 < area) :
    Calls Try.prog 13 #[.pointer (some ⟨dg, 0, none⟩), .int .i64 area] w fun e w' => e = .returned (.tuple #[.pointer none, .int .i64 2]) ∧ w' = w := by
  have mixed : Try.prog.follows .mixedOrders = true := by kernel_rfl
  have a1 : ¬ area < 4 := by omega
  go_enter Try.func13, Try.ntmps13
  go_wp2
  exact bodyPost_ret (v := .tuple #[.pointer none, .int .i64 2]) (by simp [results, Try.results13, go_sem]) rfl ⟨rfl, rfl⟩
theorem format_short (dg area : Nat) (d : DM) (F : Nat → Prop) (w : World) (hd : Disk w F dg d) (h4 : 4 ≤ area) (ha : area ≤ 1000) (hl : d.sec.length < 2 + 2 * area) :
    Calls Try.prog 13 #[.pointer (some ⟨dg, 0, none⟩), .int .i64 (area : Int)] w fun e w' => e = .returned (.tuple #[.pointer none, .int .i64 2]) ∧ w' = w := by
  have mixed : Try.prog.follows .mixedOrders = true := by kernel_rfl
  have a1 : ¬ (area : Int) < 4 := by omega
  have a2 : ¬ (1000 : Int) < (area : Int) := by omega
  have HL := Lib.hid (len_any dg d F w hd.1)
  have HN := Lib.hid (needed_any area w ha)
  have hll : (d.sec.length : Int) < ((2 + 2 * area : Nat) : Int) := by omega
  clear hd hl
  go_enter Try.func13, Try.ntmps13
  go_wp2_with fail
  refine (HL.out).mono ?_
  rintro e w1 ⟨rfl, hx⟩
  subst hx
  go_wp2_with fail
  refine (HN.out).mono ?_
  rintro e w2 ⟨rfl, hx⟩
  subst hx
  clear HL HN
  go_wp2
  exact bodyPost_ret (v := .tuple #[.pointer none, .int .i64 2]) (by simp [results, Try.results13, go_sem]) rfl ⟨rfl, rfl⟩
end Go.Proofs.Yteemdjamgbbjhaa.Wr

/-
  The law's own append, where there is room: what is written, and what the model is then.
-/
namespace Go.Proofs.Yteemdjamgbbjhaa.Wr
set_option maxRecDepth 100000
open Go.RowKit Go.Shelf Go.Lib Go.Proofs.Yteemdjamgbbjhaa.Wd Go.Proofs.Yteemdjamgbbjhaa.Dsk Go.Proofs.Yteemdjamgbbjhaa.Oct Go.Proofs.Yteemdjamgbbjhaa.Sum Go.Proofs.Yteemdjamgbbjhaa.Beq Go.Proofs.Yteemdjamgbbjhaa.Wl

theorem parts_64 (t k : Nat) (b : List UInt8) : ∀ l ∈ partsM t k b, l.length = 64 := fun l hl => by
  unfold partsM at hl
  obtain ⟨i, -, rfl⟩ := List.mem_map.1 hl
  exact partM_len _ _ _ _
/-- a log of the law's own, at turn 0 -/
def mc0 (dg area : Nat) (A : Option Addr) (n c en : Nat) (br : Bool) : List Value := [.pointer (some ⟨dg, 0, none⟩), .int .i64 (area : Int), .int .u32 0, .slice A n c, .int .i64 (en : Int), .bool br]
/-- the law's own log in memory: its own blocks are in G -/
def Mdl (w : World) (G : Nat → Prop) (g dg area : Nat) (fs : List (List UInt8)) (br : Bool) : Prop :=
  ∃ A c xs, Row w g 97 (mc0 dg area A fs.length c (usedM fs) br) ∧ w.ownsRow 0 37 1 (.slice A fs.length c) fs.length xs ∧ G g ∧ (∀ k, (Value.slice A fs.length c).ownBlock = some k → G k) ∧
    ∀ i, i < fs.length → ∃ Ai ni ci, xs[i]? = some (.slice Ai ni ci) ∧ By w Ai ni ci (fs.getD i []) ∧ ni ≤ 40000 ∧ ∀ k, (Value.slice Ai ni ci).ownBlock = some k → G k
theorem mdl_keep {w w' : World} {G : Nat → Prop} {g dg area : Nat} {fs : List (List UInt8)} {br : Bool} (h : Mdl w G g dg area fs br) (hk : ∀ k, G k → k < w.heap.size → w'.heap[k]? = w.heap[k]?) : Mdl w' G g dg area fs br := by
  obtain ⟨A, c, xs, h1, h2, h3, h4, h5⟩ := h
  exact ⟨A, c, xs, (hk g h3 h1.lt).trans h1, own_kept h2 (fun k hkb hlt => hk k (h4 k hkb) hlt), h3, h4, fun i hi => by
    obtain ⟨Ai, ni, ci, q1, q2, q3, q4⟩ := h5 i hi
    exact ⟨Ai, ni, ci, q1, own_kept q2 (fun k hkb hlt => hk k (q4 k hkb) hlt), q3, q4⟩⟩
theorem mdl_below {w w' : World} {G : Nat → Prop} {g dg area : Nat} {fs : List (List UInt8)} {br : Bool} (h : Mdl w G g dg area fs br) (hb : Below w.heap.size w w') : Mdl w' G g dg area fs br := mdl_keep h fun k _ hlt => hb.block k hlt
theorem row_vs {w : World} {base n : Nat} {t : TypeId} {A : Option Addr} {c : Nat} {vs : List Value} (h : w.ownsRow base t 1 (.slice A n c) n vs) : vs.length = n ∧ (A = none → c = 0) ∧ Vs w w.heap.size A vs := by
  have hn : vs.length = n := by have := h.1; omega
  rcases h.2 with ⟨hv, rfl⟩ | ⟨g, cap, cur, hv, hb, hg, hnc, hcm, hs, ht⟩
  · cases hv
    obtain rfl : vs = [] := List.eq_nil_of_length_eq_zero hn
    exact ⟨rfl, fun _ => rfl, (fun hp => absurd hp (by simp))⟩
  · cases hv
    refine ⟨hn, (fun hh => by cases hh), (fun hp => ⟨g, 0, rfl, (Array.getElem?_eq_some_iff.1 hg).1, fun j u hu => ?_⟩)⟩
    have := World.ownsRow.cells h (g := g) rfl j u hu
    rwa [Addr.add_lit] at this
theorem own_slice {w : World} {base n size : Nat} {t : TypeId} {v : Value} {xs : List Value} (h : w.ownsRow base t size v n xs) : ∃ A c, v = .slice A n c := by
  rcases h.2 with ⟨rfl, rfl⟩ | ⟨g, cap, cur, rfl, _⟩
  · exact ⟨_, _, rfl⟩
  · exact ⟨_, _, rfl⟩
theorem own_nil {w : World} {base n size : Nat} {t : TypeId} {v : Value} {xs : List Value} (h : w.ownsRow base t size v (0 + n) ([] ++ xs)) : w.ownsRow base t size v n xs := by
  rwa [Nat.zero_add, List.nil_append] at h
theorem off_setCell (w : World) (g i : Nat) (v : Value) : Off (fun k => k = g) w (w.setCell ⟨g, i, none⟩ v) := ⟨rfl, rfl, rfl, by simp [World.setCell], fun k _ hk2 => Below.heap_setCell w ⟨g, i, none⟩ v k hk2⟩
/-- what an append leaves -/
def MApp (w w' : World) (F G : Nat → Prop) (dg g area : Nat) (fs : List (List UInt8)) (b : List UInt8) (Z : DM × Int) : Prop :=
  ∃ F' G', Disk w' F' dg Z.1 ∧ Ext F F' w w' ∧ Ext G G' w w' ∧ (∀ k, G' k → ¬ F' k) ∧ (∀ k, G' k → k < w'.heap.size) ∧ Off (fun k => F k ∨ k = g) w w' ∧ Mdl w' G' g dg area (if Z.2 = 0 then fs ++ [b] else fs) (decide (Z.2 ≠ 0))
theorem bs_off {F : Nat → Prop} {w w' : World} {B : Nat} {A : Option Addr} {l : List UInt8} (h : Bs w B A l) (ho : Off F w w') (hB : B ≤ w.heap.size) (hF : ∀ k o, A = some ⟨k, o, none⟩ → ¬ F k) : Bs w' B A l := fun hp => by
  obtain ⟨k, o, e, hlt, hc⟩ := h hp
  exact ⟨k, o, e, hlt, fun i hi => (World.cell?_of_block (a := ⟨k, o + i, none⟩) (ho.block k (by omega) (hF k o e))).trans (hc i hi)⟩
set_option maxHeartbeats 16000000 in
theorem appends_room (dg g area : Nat) (fs : List (List UInt8)) (A2 : Option Addr) (m c2 : Nat) (b : List UInt8) (d : DM) (F G : Nat → Prop) (w : World) (hmd : Mdl w G g dg area fs false) (hd : Disk w F dg d) (hGF : ∀ k, G k → ¬ F k) (hGl : ∀ k, G k → k < w.heap.size)
    (hb : b.length = m) (hs : Bs w w.heap.size A2 b) (hA : A2 = none → c2 = 0) (hm : m ≤ 40000) (hn : fs.length ≤ 10000) (ha : area ≤ 1000) (he : usedM fs ≤ area) (hroom : sects m ≤ area - usedM fs) (hbF : ∀ k o, A2 = some ⟨k, o, none⟩ → ¬ F k) (hp : d.pend.length ≤ 800000) :
    Calls Try.prog 18 #[.pointer (some ⟨g, 0, none⟩), .slice A2 m c2] w fun e w' => e = .returned (.int .i64 (layM (pairsM 0 fs.length b) ((2 + usedM fs : Nat) : Int) d).2) ∧
      MApp w w' F G dg g area fs b (layM (pairsM 0 fs.length b) ((2 + usedM fs : Nat) : Int) d) := by
  obtain ⟨A, c, xs, hr, hown, hGg, hGA, hat⟩ := id hmd
  obtain ⟨en, hen⟩ : ∃ en, en = usedM fs := ⟨_, rfl⟩
  obtain ⟨n, hfn⟩ : ∃ n, n = fs.length := ⟨_, rfl⟩
  rw [← hen] at hr he hroom ⊢
  rw [← hfn] at hr hown hGA hn ⊢
  rw [show (((2 + en : Nat)) : Int) = 2 + (en : Int) by omega]
  obtain ⟨⟨d2, er⟩, hZ⟩ : ∃ Z, layM (pairsM 0 n b) (2 + (en : Int)) d = Z := ⟨_, rfl⟩
  rw [hZ]
  dsimp only
  have HZ := Lib.hid hZ
  clear hZ
  have c1 : w.cell? ⟨g, 1, none⟩ = some (.int .i64 (area : Int)) := hr.cell 1
  have c4 : w.cell? ⟨g, 4, none⟩ = some (.int .i64 (en : Int)) := hr.cell 4
  have c5 : w.cell? ⟨g, 5, none⟩ = some (.bool false) := hr.cell 5
  have HS := Lib.hid (rsectors_any m w hm)
  have h40 : ¬ (40000 : Int) < (m : Int) := by omega
  have hw : wrap64 ((area : Int) - (en : Int)) = (area : Int) - (en : Int) := by unfold wrap64; omega
  have hlt : ¬ (area : Int) - (en : Int) < (sects m : Int) := by omega
  have HEN := Lib.hid hen
  have HFN := Lib.hid hfn
  have HMD := Lib.hid hmd
  have HOWN := Lib.hid hown
  have HGA := Lib.hid hGA
  have HGL := Lib.hid hGl
  have HGG := Lib.hid hGg
  have HAT := Lib.hid hat
  have HR := Lib.hid hr
  have HD := Lib.hid hd
  have HGF := Lib.hid hGF
  have HB := Lib.hid hb
  have HBS := Lib.hid hs
  have HA := Lib.hid hA
  have HP := Lib.hid hp
  have HBF := Lib.hid hbF
  clear hbF hr hroom hd hGF hb hs hA hp hmd hown hGg hGA hat hGl hen hfn
  go_enter Try.func18, Try.ntmps18
  go_wp2_with fail
  refine HS.out.mono ?_
  rintro e w1 ⟨rfl, hx⟩
  subst hx
  clear HS
  go_wp2_with fail
  go_quiet (fail)
  go_wp2_with fail
  have hbd : Below w1.heap.size w1 (w1.drewN nq) := ⟨rfl, rfl, rfl, Nat.le_refl _, fun _ _ => rfl⟩
  have HRD := Lib.hid (HR.out.below hbd HR.out.lt)
  have HDD := Lib.hid (HD.out.below hbd)
  have HSD := Lib.hid (HBS.out.below hbd)
  clear c1 c4 c5
  have HWD : Hid (Below w1.heap.size w1 (w1.drewN nq).drew) := Lib.hid ⟨rfl, rfl, rfl, Nat.le_refl _, fun _ _ => rfl⟩
  have hfr := frame_any 0 n b A2 m c2 (w1.drewN nq).drew HB.out hm HA.out (HSD.out.below (Below.refl _ _).drew) (by omega) (by omega)
  rw [show (((0 : Nat) : Int)) = 0 from rfl] at hfr
  have HFR := Lib.hid hfr
  have hu : IntKind.u32.wrap (n : Int) = (n : Int) := by rw [IntKind.wrap_u32]; omega
  have hz0 : wrap64 (0 * (area : Int)) = 0 := by unfold wrap64; omega
  have hz1 : wrap64 (2 + (en : Int)) = 2 + (en : Int) := by unfold wrap64; omega
  have hzz : IntKind.i64.wrap (IntKind.i64.wrap (2 + IntKind.i64.wrap (IntKind.i64.wrap 0 * (area : Int))) + (en : Int)) = 2 + (en : Int) := by
    have e0 : IntKind.i64.wrap 0 = 0 := by rw [IntKind.wrap_i64]; omega
    have e1 : IntKind.i64.wrap (2 + 0) = 2 := by rw [IntKind.wrap_i64]; omega
    rw [e0, Int.zero_mul, e0, e1, IntKind.wrap_i64]
    omega
  have hs1 : 0 < sects m := by unfold sects; omega
  have hs2 : sects m ≤ 835 := by unfold sects; omega
  clear hfr
  refine wp_region_held_drew (S := fun W => Row W g 97 (mc0 dg area A n c en false)) (by kernel_rfl) HRD.out (fun hHeld => ?_)
  have S0 : Hid (Row (w1.drewN nq).drew g 97 (mc0 dg area A n c en false)) := Lib.hid hHeld
  have HDE : Hid (Disk (w1.drewN nq).drew F dg d) := Lib.hid (HDD.out.below (Below.refl _ _).drew)
  clear hHeld
  generalize (w1.drewN nq).drew = wd at HWD HFR S0 HDE ⊢
  refine wpAnyH_take (i := 0) (oi := ⟨some 31, _, _, _, _, _⟩) (v := ?vp8_1) rfl (by kernel_rfl) (by kernel_rfl) (by kernel_rfl) (fun _ _ _ h => h) (Or.inl ⟨by rfl, ?yp8_1⟩) S0.out ?rp8_1
  case yp8_1 =>
    rintro w' hSw
    go_simp
    try with_reducible rfl
  try simp only [Act.put, List.setIfInBounds_toArray, List.set_cons_zero, List.set_cons_succ]
  refine wpAnyH_take (i := 1) (oi := ⟨some 32, _, _, _, _, _⟩) (v := ?vp8_2) rfl (by kernel_rfl) (by kernel_rfl) (by kernel_rfl) (fun _ _ _ h => h) (Or.inl ⟨by rfl, ?yp8_2⟩) S0.out ?rp8_2
  case yp8_2 =>
    rintro w' hSw
    go_simp
    try with_reducible rfl
  try simp only [Act.put, List.setIfInBounds_toArray, List.set_cons_zero, List.set_cons_succ]
  refine wpAnyH_take (i := 2) (oi := ⟨some 33, _, _, _, _, _⟩) (v := ?vp8_3) rfl (by kernel_rfl) (by kernel_rfl) (by kernel_rfl) (fun _ _ _ h => h) (Or.inl ⟨by rfl, ?yp8_3⟩) S0.out ?rp8_3
  case yp8_3 =>
    rintro w' hSw
    go_simp
    try with_reducible rfl
  try simp only [Act.put, List.setIfInBounds_toArray, List.set_cons_zero, List.set_cons_succ]
  refine wpAnyH_take (i := 3) (oi := ⟨some 34, _, _, _, _, _⟩) (v := ?vp8_4) rfl (by kernel_rfl) (by kernel_rfl) (by kernel_rfl) (fun _ _ _ h => h) (Or.inl ⟨by rfl, ?yp8_4⟩) S0.out ?rp8_4
  case yp8_4 =>
    rintro w' hSw
    have kz := (show Row w' _ _ _ from hSw).cell 0
    simp only [mc0, List.getElem?_cons_zero] at kz
    go_simp
    try with_reducible rfl
  try simp only [Act.put, List.setIfInBounds_toArray, List.set_cons_zero, List.set_cons_succ]
  refine wpAnyH_take (i := 4) (oi := ⟨some 35, _, _, _, _, _⟩) (v := ?vp8_5) rfl (by kernel_rfl) (by kernel_rfl) (by kernel_rfl) (fun _ _ _ h => h) (Or.inl ⟨by rfl, ?yp8_5⟩) S0.out ?rp8_5
  case yp8_5 =>
    rintro w' hSw
    go_simp
    try with_reducible rfl
  try simp only [Act.put, List.setIfInBounds_toArray, List.set_cons_zero, List.set_cons_succ]
  refine wpAnyH_take (i := 5) (oi := ⟨some 36, _, _, _, _, _⟩) (v := ?vp8_6) rfl (by kernel_rfl) (by kernel_rfl) (by kernel_rfl) (fun _ _ _ h => h) (Or.inl ⟨by rfl, ?yp8_6⟩) S0.out ?rp8_6
  case yp8_6 =>
    rintro w' hSw
    go_simp
    try with_reducible rfl
  try simp only [Act.put, List.setIfInBounds_toArray, List.set_cons_zero, List.set_cons_succ]
  refine wpAnyH_take (i := 6) (oi := ⟨some 37, _, _, _, _, _⟩) (v := ?vp8_7) rfl (by kernel_rfl) (by kernel_rfl) (by kernel_rfl) (fun _ _ _ h => h) (Or.inl ⟨by rfl, ?yp8_7⟩) S0.out ?rp8_7
  case yp8_7 =>
    rintro w' hSw
    go_simp
    try with_reducible rfl
  try simp only [Act.put, List.setIfInBounds_toArray, List.set_cons_zero, List.set_cons_succ]
  refine wpAnyH_take (i := 7) (oi := ⟨some 38, _, _, _, _, _⟩) (v := ?vp8_8) rfl (by kernel_rfl) (by kernel_rfl) (by kernel_rfl) (fun _ _ _ h => h) (Or.inl ⟨by rfl, ?yp8_8⟩) S0.out ?rp8_8
  case yp8_8 =>
    rintro w' hSw
    have kz := (show Row w' _ _ _ from hSw).cell 2
    simp only [mc0, List.getElem?_cons_zero, List.getElem?_cons_succ] at kz
    go_simp
    try with_reducible rfl
  try simp only [Act.put, List.setIfInBounds_toArray, List.set_cons_zero, List.set_cons_succ]
  refine wpAnyH_take (i := 8) (oi := ⟨some 39, _, _, _, _, _⟩) (v := ?vp8_9) rfl (by kernel_rfl) (by kernel_rfl) (by kernel_rfl) (fun _ _ _ h => h) (Or.inl ⟨by rfl, ?yp8_9⟩) S0.out ?rp8_9
  case yp8_9 =>
    rintro w' hSw
    go_simp
    try with_reducible rfl
  try simp only [Act.put, List.setIfInBounds_toArray, List.set_cons_zero, List.set_cons_succ]
  refine wpAnyH_take (i := 9) (oi := ⟨some 40, _, _, _, _, _⟩) (v := ?vp8_10) rfl (by kernel_rfl) (by kernel_rfl) (by kernel_rfl) (fun _ _ _ h => h) (Or.inl ⟨by rfl, ?yp8_10⟩) S0.out ?rp8_10
  case yp8_10 =>
    rintro w' hSw
    go_simp
    try with_reducible rfl
  try simp only [Act.put, List.setIfInBounds_toArray, List.set_cons_zero, List.set_cons_succ]
  refine wpAnyH_take (i := 10) (oi := ⟨some 41, _, _, _, _, _⟩) (v := ?vp8_11) rfl (by kernel_rfl) (by kernel_rfl) (by kernel_rfl) (fun _ _ _ h => h) (Or.inl ⟨by rfl, ?yp8_11⟩) S0.out ?rp8_11
  case yp8_11 =>
    rintro w' hSw
    go_simp
    try with_reducible rfl
  try simp only [Act.put, List.setIfInBounds_toArray, List.set_cons_zero, List.set_cons_succ]
  refine wpAnyH_take (i := 11) (oi := ⟨some 42, _, _, _, _, _⟩) (v := ?vp8_12) rfl (by kernel_rfl) (by kernel_rfl) (by kernel_rfl) (fun _ _ _ h => h) (Or.inl ⟨by rfl, ?yp8_12⟩) S0.out ?rp8_12
  case yp8_12 =>
    rintro w' hSw
    go_simp
    try with_reducible rfl
  try simp only [Act.put, List.setIfInBounds_toArray, List.set_cons_zero, List.set_cons_succ]
  refine wpAnyH_take (i := 12) (oi := ⟨some 43, _, _, _, _, _⟩) (v := ?vp8_13) rfl (by kernel_rfl) (by kernel_rfl) (by kernel_rfl) (fun _ _ _ h => h) (Or.inl ⟨by rfl, ?yp8_13⟩) S0.out ?rp8_13
  case yp8_13 =>
    rintro w' hSw
    go_simp
    try with_reducible rfl
  try simp only [Act.put, List.setIfInBounds_toArray, List.set_cons_zero, List.set_cons_succ]
  refine wpAnyH_take (i := 13) (oi := ⟨some 44, _, _, _, _, _⟩) (v := ?vp8_14) rfl (by kernel_rfl) (by kernel_rfl) (by kernel_rfl) (fun _ _ _ h => h) (Or.inl ⟨by rfl, ?yp8_14⟩) S0.out ?rp8_14
  case yp8_14 =>
    rintro w' hSw
    have kz := (show Row w' _ _ _ from hSw).cell 1
    simp only [mc0, List.getElem?_cons_zero, List.getElem?_cons_succ] at kz
    go_simp
    try with_reducible rfl
  try simp only [Act.put, List.setIfInBounds_toArray, List.set_cons_zero, List.set_cons_succ]
  refine wpAnyH_take (i := 14) (oi := ⟨some 45, _, _, _, _, _⟩) (v := ?vp8_15) rfl (by kernel_rfl) (by kernel_rfl) (by kernel_rfl) (fun _ _ _ h => h) (Or.inl ⟨by rfl, ?yp8_15⟩) S0.out ?rp8_15
  case yp8_15 =>
    rintro w' hSw
    go_simp
    try with_reducible rfl
  try simp only [Act.put, List.setIfInBounds_toArray, List.set_cons_zero, List.set_cons_succ]
  refine wpAnyH_take (i := 15) (oi := ⟨some 46, _, _, _, _, _⟩) (v := ?vp8_16) rfl (by kernel_rfl) (by kernel_rfl) (by kernel_rfl) (fun _ _ _ h => h) (Or.inl ⟨by rfl, ?yp8_16⟩) S0.out ?rp8_16
  case yp8_16 =>
    rintro w' hSw
    go_simp
    try with_reducible rfl
  try simp only [Act.put, List.setIfInBounds_toArray, List.set_cons_zero, List.set_cons_succ]
  refine wpAnyH_take (i := 16) (oi := ⟨some 47, _, _, _, _, _⟩) (v := ?vp8_17) rfl (by kernel_rfl) (by kernel_rfl) (by kernel_rfl) (fun _ _ _ h => h) (Or.inl ⟨by rfl, ?yp8_17⟩) S0.out ?rp8_17
  case yp8_17 =>
    rintro w' hSw
    go_simp
    try with_reducible rfl
  try simp only [Act.put, List.setIfInBounds_toArray, List.set_cons_zero, List.set_cons_succ]
  refine wpAnyH_take (i := 17) (oi := ⟨some 48, _, _, _, _, _⟩) (v := ?vp8_18) rfl (by kernel_rfl) (by kernel_rfl) (by kernel_rfl) (fun _ _ _ h => h) (Or.inl ⟨by rfl, ?yp8_18⟩) S0.out ?rp8_18
  case yp8_18 =>
    rintro w' hSw
    go_simp
    try with_reducible rfl
  try simp only [Act.put, List.setIfInBounds_toArray, List.set_cons_zero, List.set_cons_succ]
  refine wpAnyH_take (i := 18) (oi := ⟨some 49, _, _, _, _, _⟩) (v := ?vp8_19) rfl (by kernel_rfl) (by kernel_rfl) (by kernel_rfl) (fun _ _ _ h => h) (Or.inl ⟨by rfl, ?yp8_19⟩) S0.out ?rp8_19
  case yp8_19 =>
    rintro w' hSw
    go_simp
    try with_reducible rfl
  try simp only [Act.put, List.setIfInBounds_toArray, List.set_cons_zero, List.set_cons_succ]
  refine wpAnyH_take (i := 19) (oi := ⟨some 50, _, _, _, _, _⟩) (v := ?vp8_20) rfl (by kernel_rfl) (by kernel_rfl) (by kernel_rfl) (fun _ _ _ h => h) (Or.inl ⟨by rfl, ?yp8_20⟩) S0.out ?rp8_20
  case yp8_20 =>
    rintro w' hSw
    have kz := (show Row w' _ _ _ from hSw).cell 4
    simp only [mc0, List.getElem?_cons_zero, List.getElem?_cons_succ] at kz
    go_simp
    try with_reducible rfl
  try simp only [Act.put, List.setIfInBounds_toArray, List.set_cons_zero, List.set_cons_succ]
  refine wpAnyH_take (i := 20) (oi := ⟨some 51, _, _, _, _, _⟩) (v := ?vp8_21) rfl (by kernel_rfl) (by kernel_rfl) (by kernel_rfl) (fun _ _ _ h => h) (Or.inl ⟨by rfl, ?yp8_21⟩) S0.out ?rp8_21
  case yp8_21 =>
    rintro w' hSw
    go_simp
    try with_reducible rfl
  try simp only [Act.put, List.setIfInBounds_toArray, List.set_cons_zero, List.set_cons_succ]
  refine wpAnyH_take (i := 21) (oi := ⟨some 52, _, _, _, _, _⟩) (v := ?vp8_22) rfl (by kernel_rfl) (by kernel_rfl) (by kernel_rfl) (fun _ _ _ h => h) (Or.inl ⟨by rfl, ?yp8_22⟩) S0.out ?rp8_22
  case yp8_22 =>
    rintro w' hSw
    go_simp
    try with_reducible rfl
  try simp only [Act.put, List.setIfInBounds_toArray, List.set_cons_zero, List.set_cons_succ]
  refine wpAnyH_take (i := 22) (oi := ⟨some 53, _, _, _, _, _⟩) (v := ?vp8_23) rfl (by kernel_rfl) (by kernel_rfl) (by kernel_rfl) (fun _ _ _ h => h) (Or.inl ⟨by rfl, ?yp8_23⟩) S0.out ?rp8_23
  case yp8_23 =>
    rintro w' hSw
    go_simp
    try with_reducible rfl
  try simp only [Act.put, List.setIfInBounds_toArray, List.set_cons_zero, List.set_cons_succ]
  refine wpAnyH_take (i := 23) (oi := ⟨some 54, _, _, _, _, _⟩) (v := ?vp8_24) rfl (by kernel_rfl) (by kernel_rfl) (by kernel_rfl) (fun _ _ _ h => h) (Or.inl ⟨by rfl, ?yp8_24⟩) S0.out ?rp8_24
  case yp8_24 =>
    rintro w' hSw
    go_simp
    try with_reducible rfl
  try simp only [Act.put, List.setIfInBounds_toArray, List.set_cons_zero, List.set_cons_succ]
  refine wpAnyH_take (i := 24) (oi := ⟨some 55, _, _, _, _, _⟩) (v := ?vp8_25) rfl (by kernel_rfl) (by kernel_rfl) (by kernel_rfl) (fun _ _ _ h => h) (Or.inl ⟨by rfl, ?yp8_25⟩) S0.out ?rp8_25
  case yp8_25 =>
    rintro w' hSw
    have kz := (show Row w' _ _ _ from hSw).cell 2
    simp only [mc0, List.getElem?_cons_zero, List.getElem?_cons_succ] at kz
    go_simp
    try with_reducible rfl
  try simp only [Act.put, List.setIfInBounds_toArray, List.set_cons_zero, List.set_cons_succ]
  refine wpAnyH_take (i := 25) (oi := ⟨some 56, _, _, _, _, _⟩) (v := ?vp8_26) rfl (by kernel_rfl) (by kernel_rfl) (by kernel_rfl) (fun _ _ _ h => h) (Or.inl ⟨by rfl, ?yp8_26⟩) S0.out ?rp8_26
  case yp8_26 =>
    rintro w' hSw
    go_simp
    try with_reducible rfl
  try simp only [Act.put, List.setIfInBounds_toArray, List.set_cons_zero, List.set_cons_succ]
  refine wpAnyH_take (i := 26) (oi := ⟨some 57, _, _, _, _, _⟩) (v := ?vp8_27) rfl (by kernel_rfl) (by kernel_rfl) (by kernel_rfl) (fun _ _ _ h => h) (Or.inl ⟨by rfl, ?yp8_27⟩) S0.out ?rp8_27
  case yp8_27 =>
    rintro w' hSw
    go_simp
    try with_reducible rfl
  try simp only [Act.put, List.setIfInBounds_toArray, List.set_cons_zero, List.set_cons_succ]
  refine wpAnyH_take (i := 27) (oi := ⟨some 58, _, _, _, _, _⟩) (v := ?vp8_28) rfl (by kernel_rfl) (by kernel_rfl) (by kernel_rfl) (fun _ _ _ h => h) (Or.inl ⟨by rfl, ?yp8_28⟩) S0.out ?rp8_28
  case yp8_28 =>
    rintro w' hSw
    go_simp
    try with_reducible rfl
  try simp only [Act.put, List.setIfInBounds_toArray, List.set_cons_zero, List.set_cons_succ]
  refine wpAnyH_take (i := 28) (oi := ⟨some 59, _, _, _, _, _⟩) (v := ?vp8_29) rfl (by kernel_rfl) (by kernel_rfl) (by kernel_rfl) (fun _ _ _ h => h) (Or.inl ⟨by rfl, ?yp8_29⟩) S0.out ?rp8_29
  case yp8_29 =>
    rintro w' hSw
    have kz := (show Row w' _ _ _ from hSw).cell 3
    simp only [mc0, List.getElem?_cons_zero, List.getElem?_cons_succ] at kz
    go_simp
    try with_reducible rfl
  try simp only [Act.put, List.setIfInBounds_toArray, List.set_cons_zero, List.set_cons_succ]
  refine wpAnyH_take (i := 29) (oi := ⟨some 60, _, _, _, _, _⟩) (v := ?vp8_30) rfl (by kernel_rfl) (by kernel_rfl) (by kernel_rfl) (fun _ _ _ h => h) (Or.inl ⟨by rfl, ?yp8_30⟩) S0.out ?rp8_30
  case yp8_30 =>
    rintro w' hSw
    go_simp
    try with_reducible rfl
  try simp only [Act.put, List.setIfInBounds_toArray, List.set_cons_zero, List.set_cons_succ]
  refine wpAnyH_take (i := 30) (oi := ⟨some 61, _, _, _, _, _⟩) (v := ?vp8_31) rfl (by kernel_rfl) (by kernel_rfl) (by kernel_rfl) (fun _ _ _ h => h) (Or.inl ⟨by rfl, ?yp8_31⟩) S0.out ?rp8_31
  case yp8_31 =>
    rintro w' hSw
    go_simp
    try with_reducible rfl
  try simp only [Act.put, List.setIfInBounds_toArray, List.set_cons_zero, List.set_cons_succ]
  refine wpAnyH_take (i := 31) (oi := ⟨some 62, _, _, _, _, _⟩) (v := ?vp8_32) rfl (by kernel_rfl) (by kernel_rfl) (by kernel_rfl) (fun _ _ _ h => h) (Or.inl ⟨by rfl, ?yp8_32⟩) S0.out ?rp8_32
  case yp8_32 =>
    rintro w' hSw
    go_simp
    try with_reducible rfl
  try simp only [Act.put, List.setIfInBounds_toArray, List.set_cons_zero, List.set_cons_succ]
  refine wpAnyH_ready (rs := [32]) (by kernel_rfl) (by simp) ?_
  refine (AllReadyH.cons rfl (fun K hK => ?_) AllReadyH.nil)
  go_simp
  refine HFR.out.mono ?_
  rintro e w5 ⟨v5, rfl, ho5, hb5⟩
  have HO5 := Lib.hid ho5
  have HB5 := Lib.hid hb5
  have S5 := Lib.hid (S0.out.below hb5 S0.out.lt)
  clear ho5 hb5 HFR
  obtain ⟨g5, c5, hv5, hg5, hg5l, hc5⟩ := vs_row HO5.out hs1
  subst hv5
  have hwr := rwrite_any (partsM 0 n b) (2 + en) (some ⟨g5, 0, none⟩) (sects m) c5 dg d F w5 (HDE.out.below HB5.out) (by rw [partsM_len, HB.out]) (parts_64 0 n b) (by omega) (fun _ => ⟨g5, 0, rfl, hg5l, fun hf => by have := HDE.out.2 g5 hf; omega, fun k l hk => by
    have hkl := (List.getElem?_eq_some_iff.1 hk).1
    have := blk_at (parts_64 0 n b) hc5 hkl
    rw [List.getD_eq_getElem?_getD, hk] at this
    exact this⟩) (by have := HP.out; omega)
  rw [parts_pairs, show (((2 + en : Nat)) : Int) = 2 + (en : Int) by omega, HZ.out] at hwr
  dsimp only at hwr
  have HWR := Lib.hid hwr
  clear hwr hg5 hg5l hc5 HO5
  refine hK _ _ S5.out (fun _ => ?_)
  clear hK K
  try simp only [Act.put, List.setIfInBounds_toArray, List.set_cons_zero, List.set_cons_succ]
  refine wpAnyH_ready (rs := [33]) (by kernel_rfl) (by simp) ?_
  refine (AllReadyH.cons rfl (fun K hK => ?_) AllReadyH.nil)
  go_simp
  refine HWR.out.mono ?_
  rintro e w6 ⟨rfl, F6, hd6, hx6, ho6⟩
  have hr6 : Row w6 g 97 (mc0 dg area A n c en false) := (ho6.block g S5.out.lt (HGF.out g HGG.out)).trans S5.out
  have S6 := Lib.hid hr6
  have HD6 := Lib.hid hd6
  have HX6 := Lib.hid hx6
  have HO6 := Lib.hid ho6
  clear hr6 hd6 hx6 ho6 HWR
  refine hK _ _ S6.out (fun _ => ?_)
  clear hK K
  try simp only [Act.put, List.setIfInBounds_toArray, List.set_cons_zero, List.set_cons_succ]
  refine wpAnyH_take (i := 34) (oi := ⟨some 6, _, _, _, _, _⟩) (v := ?vp8_35) rfl (by kernel_rfl) (by kernel_rfl) (by kernel_rfl) (fun _ _ _ h => h) (Or.inl ⟨by rfl, ?yp8_35⟩) S6.out ?rp8_35
  case yp8_35 =>
    rintro w' hSw
    go_simp
    try with_reducible rfl
  try simp only [Act.put, List.setIfInBounds_toArray, List.set_cons_zero, List.set_cons_succ]
  refine wpAnyH_done (by kernel_rfl) ?_ _
  have HGF6 : Hid (∀ k, G k → ¬ F6 k) := Lib.hid (fun k hG hf => by
    rcases HX6.out k hf with h | h
    · exact HGF.out k hG h
    · have := HB5.out.size; have := HGL.out k hG; have := HWD.out.size; omega)
  have HW6 : Hid (Off F w1 w6) := Lib.hid ⟨HO6.out.os.trans (HB5.out.os.trans HWD.out.os), HO6.out.tape.trans (HB5.out.tape.trans HWD.out.tape), HO6.out.output.trans (HB5.out.output.trans HWD.out.output), Nat.le_trans HWD.out.size (Nat.le_trans HB5.out.size HO6.out.size), fun k hk hf => (HO6.out.block k (Nat.lt_of_lt_of_le hk (Nat.le_trans HWD.out.size HB5.out.size)) hf).trans ((HB5.out.block k (Nat.lt_of_lt_of_le hk HWD.out.size)).trans (HWD.out.block k hk))⟩
  have HXX : Hid (Ext F F6 w1 w6) := Lib.hid (fun k hk => by
    rcases HX6.out k hk with h | h
    · exact .inl h
    · exact .inr ⟨by have := HWD.out.size; have := HB5.out.size; omega, h.2⟩)
  have HM6 : Hid (Mdl w6 G g dg area fs false) := Lib.hid (mdl_keep HMD.out fun k hG hlt => HW6.out.block k hlt (HGF.out k hG))
  by_cases hne : er = 0
  case neg =>
    have heb : (er != 0) = true := by simp [hne]
    have k5 : w6.cell? ⟨g, 5, none⟩ = some (.bool false) := S6.out.cell 5
    have hf5 := S6.out.frozen 5
    go_wp2
    go_ret
    have hoff := off_setCell w6 g 5 (.bool true)
    have hsz : w6.heap.size ≤ (w6.setCell ⟨g, 5, none⟩ (.bool true)).heap.size := hoff.size
    have hrow := S6.out.store 5 (.bool true)
    refine ⟨rfl, F6, G, HD6.out.off (F' := fun k => k = g) (fun k hk e => HGF6.out g HGG.out (e ▸ hk)) hoff, fun k hk => ?_, fun k hk => .inl hk, HGF6.out, fun k hk => ?_, ?_, ?_⟩
    · rcases HXX.out k hk with h | h
      · exact .inl h
      · exact .inr ⟨h.1, Nat.lt_of_lt_of_le h.2 hsz⟩
    · exact Nat.lt_of_lt_of_le (HGL.out k hk) (Nat.le_trans HW6.out.size hsz)
    · refine ⟨hoff.os.trans HW6.out.os, hoff.tape.trans HW6.out.tape, hoff.output.trans HW6.out.output, Nat.le_trans HW6.out.size hsz, fun k hk hf => ?_⟩
      exact (hoff.block k (Nat.lt_of_lt_of_le hk HW6.out.size) (fun e => hf (.inr e))).trans (HW6.out.block k hk (fun h => hf (.inl h)))
    · dsimp only
      rw [if_neg hne, decide_eq_true hne]
      refine ⟨A, c, xs, ?_, ?_, HGG.out, fun k hk => HGA.out k (by rw [HFN.out]; exact hk), fun i hi => ?_⟩
      · rw [← HFN.out, ← HEN.out]
        exact hrow
      · rw [← HFN.out]
        refine own_kept HOWN.out fun k hk hlt => ?_
        have hgk := HGA.out k hk
        refine (hoff.block k (Nat.lt_of_lt_of_le hlt HW6.out.size) (fun e => ?_)).trans (HW6.out.block k hlt (HGF.out k hgk))
        subst e
        obtain ⟨cs', hr'⟩ := own_type HOWN.out hk
        exact absurd (row_type HR.out hr') (by decide)
      · obtain ⟨Ai, ni, ci, q1, q2, q3, q4⟩ := HAT.out i hi
        refine ⟨Ai, ni, ci, q1, own_kept q2 (fun k hk hlt => ?_), q3, q4⟩
        refine (hoff.block k (Nat.lt_of_lt_of_le hlt HW6.out.size) (fun e => ?_)).trans (HW6.out.block k hlt (HGF.out k (q4 k hk)))
        subst e
        obtain ⟨cs', hr'⟩ := own_type q2 hk
        exact absurd (row_type HR.out hr') (by decide)
  case pos =>
    subst hne
    have heb : ((0 : Int) != 0) = false := rfl
    have hbA : Below w6.heap.size w6 (w6.alloc (.cells #[] 37)) := (Below.refl _ _).alloc (Nat.le_refl _) _
    have kA3 : (w6.alloc (.cells #[] 37)).cell? ⟨g, 3, none⟩ = some (.slice A n c) := (S6.out.below hbA S6.out.lt).cell 3
    have OWA : Hid ((w6.alloc (.cells #[] 37)).ownsRow w6.heap.size 37 1 (.slice (some ⟨w6.heap.size, 0, none⟩) 0 0) 0 []) := Lib.hid (World.ownsRow_made w6 #[] 0 (Nat.le_refl _) (Nat.zero_le _) rfl)
    have hown6 : w6.ownsRow 0 37 1 (.slice A n c) n xs := own_kept HOWN.out fun k hk hlt => HW6.out.block k hlt (HGF.out k (HGA.out k hk))
    have hvs := row_vs hown6
    have HVS : Hid (Vs (w6.alloc (.cells #[] 37)) w6.heap.size A xs) := Lib.hid (hvs.2.2.below hbA)
    have hxl : xs.length = n := hvs.1
    have hAc : A = none → c = 0 := hvs.2.1
    have h1x : ∀ u ∈ xs, u.oneCell' = true := by
      intro u hu
      obtain ⟨i, hi, rfl⟩ := List.mem_iff_getElem.1 hu
      obtain ⟨Ai, ni, ci, q1, -⟩ := HAT.out i (by rw [← HFN.out]; omega)
      rw [List.getElem?_eq_getElem hi] at q1
      rw [Option.some.inj q1]
      rfl
    obtain ⟨i0, hi0, hz0', hz1', hz2'⟩ := info_parts info37
    obtain ⟨i5, hi5, hz50, hz51, hz52⟩ := info_parts info5
    have HBA := Lib.hid hbA
    have HI := Lib.hid (And.intro hi0 (And.intro hz0' (And.intro hz1' hz2')))
    have HI5 := Lib.hid (And.intro hi5 (And.intro hz50 (And.intro hz51 hz52)))
    have HXL := Lib.hid hxl
    have HAC := Lib.hid hAc
    have H1X := Lib.hid h1x
    have HBS6 : Hid (Bs w6 w1.heap.size A2 b) := Lib.hid (bs_off HBS.out HW6.out (Nat.le_refl _) HBF.out)
    clear hbA hown6 hvs hxl hAc h1x hi0 hz0' hz1' hz2' hi5 hz50 hz51 hz52
    go_upto_region 13 with (first
      | (at_builtin; (refine wpList_append_k (o := ⟨some 77, _, _, _, _, _⟩) rfl (.tmp 72) (.tmp 76) 58 rfl w6.heap.size 37 i0 (.slice none 0 0) 1 24 Try.underlying58 HI.out.1 HI.out.2.1 HI.out.2.2.1 HI.out.2.2.2 rfl (by decide) (.slice (some ⟨w6.heap.size, 0, none⟩) 0 0) 0 [] rfl OWA.out A n c xs rfl (by rw [HXL.out, Nat.mul_one]) w6.heap.size HVS.out H1X.out HAC.out (by unfold maxLen; omega) (by omega) HBA.out.size ?_; intro v2 w2 ho2 hg2; have HO2 := Lib.hid (own_nil ho2); have HB2 := Lib.hid (HBA.out.grown hg2 HBA.out.size (fun k hk => by cases hk; exact Nat.le_refl _)); clear ho2 hg2; obtain ⟨A2', c2', hv2⟩ := own_slice HO2.out; subst hv2))
      | (at_builtin; (refine wpList_append_bs (o := ⟨some 80, _, _, _, _, _⟩) rfl (.tmp 78) (.tmp 79) 37 rfl w2.heap.size 5 i5 (.int .u8 0) Try.underlying37 HI5.out.1 HI5.out.2.1 HI5.out.2.2.1 HI5.out.2.2.2 rfl (.slice (some ⟨w2.heap.size, 0, none⟩) 0 0) 0 [] rfl (World.ownsRow_made w2 #[] 0 (Nat.le_refl _) (Nat.zero_le _) rfl) A2 m c2 b rfl HB.out w1.heap.size (HBS6.out.below ((HB2.out.alloc HB2.out.size _).mono HW6.out.size)) HA.out (by omega) (by simp) ?_; intro v3 w3 ho3 hg3; have HO3 := Lib.hid (own_nil ho3); have HB3 := Lib.hid ((HB2.out.alloc HB2.out.size _).grown hg3 (by have := HB2.out.size; simp; omega) (fun k hk => by cases hk; exact HB2.out.size)); have HB23 : Hid (Below w2.heap.size w2 w3) := Lib.hid (((Below.refl _ _).alloc (Nat.le_refl _) _).grown hg3 (by simp) (fun k hk => by cases hk; exact Nat.le_refl _)); clear ho3 hg3; obtain ⟨A3, c3, hv3⟩ := own_slice HO3.out; subst hv3))
      | (at_builtin; (refine wpList_append_k (o := ⟨some 82, _, _, _, _, _⟩) rfl (.tmp 77) (.tmp 81) 58 rfl w6.heap.size 37 i0 (.slice none 0 0) 1 24 Try.underlying58 HI.out.1 HI.out.2.1 HI.out.2.2.1 HI.out.2.2.2 rfl (by decide) (.slice A2' n c2') n xs rfl (ownsB HO2.out (fun k hk => (owns_lt HO2.out k hk).2) (HB23.out.alloc HB23.out.size _)) (some ⟨w3.heap.size, 0, none⟩) 1 1 [.slice A3 m c3] rfl rfl (w3.heap.size + 1) (fun _ => ⟨_, 0, rfl, Nat.lt_succ_self _, fun j u hu => by have := Wd.cells_one w3 37 _ j u hu; rwa [Addr.add_lit] at this⟩) (by simp [Value.oneCell']) (fun h => by cases h) (by unfold maxLen; omega) (by omega) (by have := HB3.out.size; simp; omega) ?_; intro v4 w4 ho4 hg4; have HO4 := Lib.hid ho4; have HG4 := Lib.hid hg4; have HB4 := Lib.hid ((HB3.out.alloc HB3.out.size _).grown hg4 (by have := HB3.out.size; simp; omega) (fun k hk => (owns_lt HO2.out k hk).1)); clear ho4 hg4; obtain ⟨A4, c4, hv4⟩ := own_slice HO4.out; subst hv4; have r4 := S6.out.below HB4.out S6.out.lt; have R4 := Lib.hid r4; have k43 : w4.cell? ⟨g, 3, none⟩ = some (.slice A n c) := r4.cell 3; have f43 := r4.frozen 3; clear r4)))
    have S67 := Lib.hid HB4.out.size
    obtain ⟨w7, hw7⟩ : ∃ w7, w7 = w4.setCell ⟨g, 3, none⟩ (.slice A4 (n + 1) c4) := ⟨_, rfl⟩
    have r7 : Row w7 g 97 (mc0 dg area A4 (n + 1) c4 en false) := by
      rw [hw7]
      exact R4.out.store 3 (.slice A4 (n + 1) c4)
    have h47 : Off (fun k => k = g) w4 w7 := by
      rw [hw7]
      exact off_setCell w4 g 3 _
    rw [← hw7]
    have R7 := Lib.hid r7
    have H47 := Lib.hid h47
    have k74 : w7.cell? ⟨g, 4, none⟩ = some (.int .i64 (en : Int)) := r7.cell 4
    have f74 := r7.frozen 4
    generalize hqm : sects m = q at hlt hs1 hs2 ⊢
    have hz8 : wrap64 ((en : Int) + (q : Int)) = (en : Int) + (q : Int) := by unfold wrap64; omega
    have HQM := Lib.hid hqm
    clear hqm hw7 r7 h47 k43 f43
    clear hzz hz0 hz1 hu hw heb kA3 hlt h40
    go_wp2
    go_ret
    obtain ⟨w8, hw8⟩ : ∃ w8, w8 = w7.setCell ⟨g, 4, none⟩ (.int .i64 ((en : Int) + (q : Int))) := ⟨_, rfl⟩
    have r8 : Row w8 g 97 (mc0 dg area A4 (n + 1) c4 (en + q) false) := by
      rw [hw8]
      exact R7.out.store 4 (.int .i64 ((en : Int) + (q : Int)))
    have h78 : Off (fun k => k = g) w7 w8 := by
      rw [hw8]
      exact off_setCell w7 g 4 _
    rw [← hw8]
    clear hw8
    have h48 : Off (fun k => k = g) w4 w8 := ⟨h78.os.trans H47.out.os, h78.tape.trans H47.out.tape, h78.output.trans H47.out.output, Nat.le_trans H47.out.size h78.size, fun k hk hn => (h78.block k (Nat.lt_of_lt_of_le hk H47.out.size) hn).trans (H47.out.block k hk hn)⟩
    have h68 : Off (fun k => k = g) w6 w8 := ⟨h48.os.trans HB4.out.os, h48.tape.trans HB4.out.tape, h48.output.trans HB4.out.output, Nat.le_trans HB4.out.size h48.size, fun k hk hn => (h48.block k (Nat.lt_of_lt_of_le hk HB4.out.size) hn).trans (HB4.out.block k hk)⟩
    have hF18 : ∀ k, k < w1.heap.size → ¬ (F k ∨ k = g) → w8.heap[k]? = w1.heap[k]? := fun k hk hf => (h68.block k (Nat.lt_of_lt_of_le hk HW6.out.size) (fun e => hf (.inr e))).trans (HW6.out.block k hk (fun h => hf (.inl h)))
    have hg6 : g < w6.heap.size := S6.out.lt
    refine ⟨rfl, F6, fun k => G k ∨ (w6.heap.size ≤ k ∧ k < w8.heap.size), HD6.out.off (F' := fun k => k = g) (fun k hk e => HGF6.out g HGG.out (e ▸ hk)) h68, fun k hk => ?_, fun k hk => ?_, fun k hk hf => ?_, fun k hk => ?_, ?_, ?_⟩
    · rcases HXX.out k hk with h | h
      · exact .inl h
      · exact .inr ⟨h.1, Nat.lt_of_lt_of_le h.2 h68.size⟩
    · rcases hk with h | h
      · exact .inl h
      · exact .inr ⟨Nat.le_trans HW6.out.size h.1, h.2⟩
    · rcases hk with h | h
      · exact HGF6.out k h hf
      · have := HD6.out.2 k hf; omega
    · rcases hk with h | h
      · exact Nat.lt_of_lt_of_le (HGL.out k h) (Nat.le_trans HW6.out.size h68.size)
      · exact h.2
    · exact ⟨h68.os.trans HW6.out.os, h68.tape.trans HW6.out.tape, h68.output.trans HW6.out.output, Nat.le_trans HW6.out.size h68.size, hF18⟩
    · dsimp only
      rw [if_pos rfl, show (decide ((0 : Int) ≠ 0)) = false from rfl]
      have hlen : (fs ++ [b]).length = n + 1 := by rw [List.length_append, ← HFN.out]; rfl
      have hx1 : xs.length = n := HXL.out
      refine ⟨A4, c4, xs ++ [.slice A3 m c3], ?_, ?_, .inl HGG.out, fun k hk => ?_, fun i hi => ?_⟩
      · rw [hlen, usedM_snoc, HB.out, ← HEN.out, HQM.out]
        exact r8
      · rw [hlen]
        exact own_kept (own_zero HO4.out) fun k hk hlt => h48.block k hlt (fun e => by have := (owns_lt HO4.out k hk).1; omega)
      · rw [hlen] at hk
        exact .inr ⟨(owns_lt HO4.out k hk).1, Nat.lt_of_lt_of_le (owns_lt HO4.out k hk).2 h48.size⟩
      · rw [hlen] at hi
        by_cases hin : i < n
        · obtain ⟨Ai, ni, ci, q1, q2, q3, q4⟩ := HAT.out i (by rw [← HFN.out]; exact hin)
          refine ⟨Ai, ni, ci, ?_, ?_, q3, fun k hk => .inl (q4 k hk)⟩
          · rw [List.getElem?_append_left (by omega)]
            exact q1
          · rw [List.getD_eq_getElem?_getD, List.getElem?_append_left (by rw [← HFN.out]; exact hin), ← List.getD_eq_getElem?_getD]
            refine own_kept q2 fun k hk hlt => hF18 k hlt (fun h => ?_)
            rcases h with h | e
            · exact HGF.out k (q4 k hk) h
            · subst e
              obtain ⟨cs', hr'⟩ := own_type q2 hk
              exact absurd (row_type HR.out hr') (by decide)
        · obtain rfl : i = n := by omega
          refine ⟨A3, m, c3, ?_, ?_, hm, fun k hk => ?_⟩
          · rw [List.getElem?_append_right (by omega), hx1, Nat.sub_self]
            rfl
          · rw [List.getD_eq_getElem?_getD, List.getElem?_append_right (by rw [← HFN.out]; exact Nat.le_refl _), ← HFN.out, Nat.sub_self]
            refine own_kept (own_zero HO3.out) fun k hk hlt => ?_
            have hk2 := (owns_lt HO3.out k hk).1
            have hs2 := HB2.out.size
            have ha : (w3.alloc (.cells #[.slice A3 m c3] 37)).heap[k]? = w3.heap[k]? := ((Below.refl w3.heap.size w3).alloc (Nat.le_refl _) _).block k hlt
            have hb4 := HG4.out.block k (Nat.lt_of_lt_of_le hlt (by simp)) (fun e => by have := (owns_lt HO2.out k e.symm).2; omega)
            exact (h48.block k (Nat.lt_of_lt_of_le hlt (Nat.le_trans (by simp) HG4.out.size)) (fun e => by omega)).trans (hb4.trans ha)
          · have hk2 := owns_lt HO3.out k hk
            have hs2 := HB2.out.size
            have hs4 := HG4.out.size
            have hs8 := h48.size
            simp at hs4
            exact .inr ⟨by omega, by omega⟩
end Go.Proofs.Yteemdjamgbbjhaa.Wr

/-
  Bytes of one's own that are written over.
-/
namespace Go.Proofs.Yteemdjamgbbjhaa.Wr
set_option maxRecDepth 100000
open Go.RowKit Go.Shelf Go.Lib Go.Proofs.Yteemdjamgbbjhaa.Wd Go.Proofs.Yteemdjamgbbjhaa.Dsk Go.Proofs.Yteemdjamgbbjhaa.Oct Go.Proofs.Yteemdjamgbbjhaa.Sum Go.Proofs.Yteemdjamgbbjhaa.Wl

theorem own_set {w : World} {base : Nat} {v : Value} {l : List UInt8} (h : Own w base v l) (g i y : Nat) (hy : y < 256) (hne : v.ownBlock = some g) : ∃ l', l'.length = l.length ∧ Own (w.setCell ⟨g, i, none⟩ (.int .u8 (y : Int))) base v l' := by
  rcases h.2 with ⟨rfl, h0⟩ | ⟨g', cap, cur, rfl, hb, hg, hnc, hcm, hs, ht⟩
  · cases hne
  · have e : g' = g := Option.some.inj hne
    subst e
    have hr : Row w g' 5 cur.toList := hg
    have hr2 := hr.store i (.int .u8 (y : Int))
    refine ⟨l.set i (UInt8.ofNat y), by simp, ?_⟩
    unfold Own
    rw [List.length_set]
    refine ⟨by simp [bv_length], .inr ⟨g', cap, (cur.toList.set i (.int .u8 (y : Int))).toArray, rfl, hb, hr2, hnc, hcm, by simpa using hs, ?_⟩⟩
    have e1 : (Value.int .u8 (y : Int)) = .int .u8 (((UInt8.ofNat y).toNat : Nat) : Int) := by
      have : (UInt8.ofNat y).toNat = y := by simp; omega
      rw [this]
    show List.take (l.length * 1) (cur.toList.set i (.int .u8 (y : Int))) = bv (l.set i (UInt8.ofNat y))
    rw [List.take_set, ht, e1]
    simp [bv, List.map_set]
theorem own_cell {w : World} {base : Nat} {A : Option Addr} {n c : Nat} {l : List UInt8} (h : Own w base (.slice A n c) l) (i : Nat) (hi : i < n) : ∃ (g : Nat) (u : UInt8), A = some ⟨g, 0, none⟩ ∧ base ≤ g ∧ w.cell? ⟨g, i, none⟩ = some (.int .u8 (u.toNat : Int)) ∧ w.frozen? ⟨g, i, none⟩ = false ∧ ∃ cs, Row w g 5 cs := by
  rcases h.2 with ⟨h1, h0⟩ | ⟨g, cap, cur, h1, hb, hg, hnc, hcm, hs, ht⟩
  · have e := h1
    simp only [Value.slice.injEq] at e
    omega
  · simp only [Value.slice.injEq] at h1
    obtain ⟨rfl, hn, rfl⟩ := h1
    have hr : Row w g 5 cur.toList := hg
    refine ⟨g, l.getD i 0, rfl, hb, ?_, hr.frozen i, _, hr⟩
    rw [hr.cell]
    have h2 : (bv l)[i]? = some (.int .u8 ((l.getD i 0).toNat : Int)) := by simp [bv, show i < l.length by omega]
    rw [← ht, List.getElem?_take, if_pos (by omega)] at h2
    exact h2
theorem xor_nat (u : UInt8) : ∃ y : Nat, y < 256 ∧ bits .xor .u8 (u.toNat : Int) 238 = (y : Int) := by
  have h := u8_xor_v u 238
  rw [show (((238 : UInt8).toNat : Nat) : Int) = 238 from rfl] at h
  exact ⟨(u ^^^ 238).toNat, (u ^^^ 238).toNat_lt, h⟩
theorem by_own {w : World} {A : Option Addr} {n c base : Nat} {l : List UInt8} (h : By w A n c l) (hb : ∀ k, (Value.slice A n c).ownBlock = some k → base ≤ k) : Own w base (.slice A n c) l := by
  have hn : l.length = n := by have := h.1; rw [bv_length] at this; omega
  unfold Own
  rw [hn]
  refine ⟨h.1, ?_⟩
  rcases h.2 with hv | ⟨g, cap, cur, hv, _, rest⟩
  · exact .inl hv
  · refine .inr ⟨g, cap, cur, hv, hb g ?_, rest⟩
    rw [hv]
    rfl
/-- what stands while own bytes are written over -/
structure BI (W0 : World) (B : Nat) (v : Value) (n : Nat) (W : World) : Prop where
  own : ∃ l', l'.length = n ∧ Own W B v l'
  hb : Below B W0 W
  nc : ∀ (k : Nat) (o : Obj), W0.heap[k]? = some o → o.isCells = false → W.heap[k]? = some o
theorem BI.of {W : World} {B : Nat} {A : Option Addr} {n c : Nat} {l : List UInt8} (h : By W A n c l) (hb : ∀ k, (Value.slice A n c).ownBlock = some k → B ≤ k) : BI W B (.slice A n c) n W :=
  ⟨⟨l, by have := h.1; rw [bv_length] at this; omega, by_own h hb⟩, Below.refl _ _, fun _ _ h _ => h⟩
theorem BI.set {W0 W : World} {B n i y : Nat} {A : Option Addr} {m c g : Nat} (h : BI W0 B (.slice A m c) n W) (hA : A = some ⟨g, 0, none⟩) (hB : B ≤ g) (hr : ∃ cs, Row W g 5 cs) (hy : y < 256) : BI W0 B (.slice A m c) n (W.setCell ⟨g, i, none⟩ (.int .u8 (y : Int))) := by
  subst hA
  obtain ⟨l', hl, ho⟩ := h.own
  obtain ⟨l2, h2, ho2⟩ := own_set ho g i y hy rfl
  refine ⟨⟨l2, by omega, ho2⟩, h.hb.setCell hB _, fun k o hk hc => ?_⟩
  have hne : k ≠ g := fun e => by
    obtain ⟨cs, hr⟩ := hr
    have h3 := h.nc k o hk hc
    rw [e, show W.heap[g]? = _ from hr] at h3
    cases h3
    cases hc
  exact (Below.heap_setCell W ⟨g, i, none⟩ _ k hne).trans (h.nc k o hk hc)
end Go.Proofs.Yteemdjamgbbjhaa.Wr
