/-
  The reference's DecodeRow, SameRow.
-/
import Derived.Test.YtnljhopikjkflaaRec23
import Derived.Test.YtnljhopikjkflaaRec16
import Derived.Test.YtnljhopikjkflaaRecD
import Derived.Test.YtnljhopikjkflaaOct7
import Derived.Deep.Cut
import Derived.Deep.CutRange
namespace Go.Proofs.Ytnljhopikjkflaa.Rec
set_option maxRecDepth 100000
open Go.RowKit Go.Proofs.Ytnljhopikjkflaa.Wd Go.Proofs.Ytnljhopikjkflaa.Oct Go.Proofs.Ytnljhopikjkflaa.Dsk

theorem bs_from {W : World} {B : Nat} {b o c : Nat} {l : List UInt8} (h : Bs W B (some ⟨b, o, none⟩) l) (p : Nat) (hc : l.length ≤ c) : Bs W B (if c = p then some ⟨b, o, none⟩ else some ⟨b, o + p, none⟩) (l.drop p) := by
  by_cases e : c = p
  · rw [List.drop_eq_nil_of_le (by omega)]
    exact Bs.nil _ _ _
  · rw [if_neg e]
    by_cases hp : p ≤ l.length
    · have := Bs.cut h p (l.length - p) (by omega)
      rw [List.take_of_length_le (by rw [List.length_drop]; exact Nat.le_refl _)] at this
      simpa [Addr.add_lit] using this
    · rw [List.drop_eq_nil_of_le (by omega)]
      exact Bs.nil _ _ _
def DecD (w : World) (DM : Int × List RM) (e : Ending) (w' : World) : Prop := ∃ v ys, e = .returned (.tuple #[v, .int .i64 DM.1]) ∧ Rs w' w.heap.size v ys ∧ ys.map (·.1) = DM.2 ∧ Below w.heap.size w w'
/-- what the rounds hold -/
structure RF (w : World) (l : List UInt8) (i p : Nat) (v : Value) (ys : List (RM × RS)) (W : World) : Prop where
  e : rdE l i = (0, p, ys.map (·.1))
  r : Rs W w.heap.size v ys
  hb : Below w.heap.size w W

set_option maxHeartbeats 8000000 in
theorem refDecodeRow_any (A : Option Addr) (n c : Nat) (l : List UInt8) (w : World) (hl : l.length = n) (hn : n ≤ 100000) (hnc : n ≤ c) (hcm : c ≤ 140737488351232) (hb : Bs w w.heap.size A l) :
    Calls Try.prog 19 #[.slice A n c] w (DecR w l) := by
  obtain ⟨iR, hiR, hzR, hsR, hbR⟩ := info_parts info_rec
  have HL := Lib.hid hl
  have HB := Lib.hid hb
  clear hl hb
  show Calls _ _ _ w (DecD w (decRowM l))
  obtain ⟨DM, hDM⟩ : ∃ DM, DM = decRowM l := ⟨_, rfl⟩
  rw [← hDM]
  have HDE := Lib.hid hDM
  clear hDM
  by_cases h2 : n < 2
  case pos =>
    have HDM : Hid (DM = (7, [])) := (show _ = _ by rw [HDE.out]; unfold decRowM; rw [if_pos (by rw [HL.out]; exact h2)])
    have h2i : (n : Int) < 2 := by omega
    go_enter Try.func19, Try.ntmps19
    go_wp2
    exact bodyPost_ret (v := .tuple #[.slice none 0 0, .int .i64 7]) (by simp [results, Try.results19, go_sem]) rfl ⟨_, [], by rw [HDM.out], Rs.nil _ _, by rw [HDM.out]; rfl, Below.refl _ _⟩
  have h2i : ¬ (n : Int) < 2 := by omega
  obtain ⟨b, o, rfl, hblt, hcc⟩ := HB.out (by rw [HL.out]; omega)
  have hc2 : (2 : Int) ≤ (c : Int) := by omega
  have HN2 : Hid (¬ l.length < 2) := (show ¬ _ by rw [HL.out]; exact h2)
  obtain ⟨m, hm⟩ : ∃ m, m = num (l.take 2) := ⟨_, rfl⟩
  have HM := Lib.hid hm
  have HNU := Lib.hid (num_any (some ⟨b, o, none⟩) (l.take 2) 2 c w.heap.size w (by rw [List.length_take, HL.out]; omega) (by omega) (Bs.cut HB.out 0 2 (by rw [HL.out]; omega) |> fun h => by simpa [Addr.add_lit] using h))
  rw [← hm] at HNU
  have hm16 : m < 65536 := by
    have := num_lt (l.take 2)
    rw [List.length_take, show min 2 l.length = 2 by rw [HL.out]; omega] at this
    rw [hm]; exact this
  have hwm : IntKind.i64.wrap (m : Int) = (m : Int) := by simp [IntKind.wrap, IntKind.signed, IntKind.bits]; omega
  clear hm hcc
  by_cases h64 : 64 < m
  case pos =>
    have h64i : (64 : Int) < (m : Int) := by omega
    have HDM : Hid (DM = (3, [])) := (show _ = _ by rw [HDE.out]; unfold decRowM; rw [if_neg HN2.out, if_pos (by rw [← HM.out]; exact h64)])
    go_enter Try.func19, Try.ntmps19
    go_wp2_with fail
    refine HNU.out.mono ?_
    rintro e w1 ⟨rfl, rfl⟩
    go_wp2
    exact bodyPost_ret (v := .tuple #[.slice none 0 0, .int .i64 3]) (by simp [results, Try.results19, go_sem]) rfl ⟨_, [], by rw [HDM.out], Rs.nil _ _, by rw [HDM.out]; rfl, Below.refl _ _⟩
  have h64i : ¬ (64 : Int) < (m : Int) := by omega
  go_enter Try.func19, Try.ntmps19
  go_wp2_with fail
  refine HNU.out.mono ?_
  rintro e w1 ⟨rfl, rfl⟩
  clear HNU
  go_wp2_with fail
  have HI0 : Hid (RF w l 0 2 (.slice none 0 0) [] w) := ⟨rfl, Rs.nil _ _, Below.refl _ _⟩
  go_loopw [5, 6, 7] (fun t5 t6 t7 wr => ∃ (i p : Nat) (v : Value) (ys : List (RM × RS)), i ≤ m ∧ p ≤ n ∧ t5 = .int .i64 (p : Int) ∧ t6 = v ∧ t7 = .int .i64 (i : Int) ∧ Hid (RF w l i p v ys wr)) (fun _ _ t7 _ => m - (intOf t7).toNat)
  case atStart => exact ⟨0, 2, _, _, by omega, by omega, rfl, rfl, rfl, HI0⟩
  case round =>
    obtain ⟨i, p, v, ys, hi, hpn, rfl, rfl, rfl, HI⟩ := hrel
    clear HI0
    by_cases hlt : i < m
    case neg =>
      have h1 : ¬ (i : Int) < (m : Int) := by omega
      obtain rfl : i = m := by omega
      have HDMD : Hid (DM = if p < l.length ∨ rowM (ys.map (·.1)) = false then (150, []) else (0, ys.map (·.1))) := (show _ = _ by
        rw [HDE.out]
        unfold decRowM
        rw [if_neg HN2.out, ← HM.out, if_neg h64, HI.out.e, if_neg (by simp)])
      by_cases hp : p < n
      case pos =>
        have hpi : (p : Int) < (n : Int) := by omega
        have HDM : Hid (DM = (150, [])) := (show _ = _ by rw [HDMD.out, if_pos (.inl (by rw [HL.out]; exact hp))])
        go_wp2
        exact bodyPost_ret (v := .tuple #[.slice none 0 0, .int .i64 150]) (by simp [results, Try.results19, go_sem]) rfl ⟨_, [], by rw [HDM.out], Rs.nil _ _, by rw [HDM.out]; rfl, HI.out.hb⟩
      have hpi : ¬ (p : Int) < (n : Int) := by omega
      obtain ⟨Av, cv, hv, -, -, -, hrl⟩ := HI.out.r.rl
      subst hv
      have HYL : Hid (ys.length = i) := (show _ = _ by have := (rdE_seg (by have := HN2.out; omega) HI.out.e).1; rwa [List.length_map] at this)
      have HRM := Lib.hid (rightRow_any Av ys.length cv ys wr rfl (by have := HYL.out; omega) hrl (fun y hy => rdE_u4 HI.out.e y.1 (List.mem_map_of_mem hy)))
      clear hrl
      generalize hRB : rowM (ys.map (·.1)) = RB at HDMD HRM
      clear hRB
      go_wp2_with fail
      refine HRM.out.mono ?_
      rintro e w3 ⟨rfl, hb3⟩
      have HB3 := Lib.hid (HI.out.hb.trans (hb3.mono HI.out.hb.size))
      have HR3 := Lib.hid (HI.out.r.below hb3)
      clear hb3 HRM
      cases RB
      · have HDM : Hid (DM = (150, [])) := (show _ = _ by rw [HDMD.out, if_pos (.inr rfl)])
        go_wp2
        exact bodyPost_ret (v := .tuple #[.slice none 0 0, .int .i64 150]) (by simp [results, Try.results19, go_sem]) rfl ⟨_, [], by rw [HDM.out], Rs.nil _ _, by rw [HDM.out]; rfl, HB3.out⟩
      · have HDM : Hid (DM = (0, ys.map (·.1))) := (show _ = _ by rw [HDMD.out, if_neg (by rw [HL.out]; simp; omega)])
        go_wp2
        exact bodyPost_ret (v := .tuple #[.slice Av ys.length cv, .int .i64 0]) (by simp [results, Try.results19, go_sem]) rfl ⟨_, ys, by rw [HDM.out], HR3.out, by rw [HDM.out], HB3.out⟩
    have h1 : (i : Int) < (m : Int) := by omega
    have hpi : (p : Int) ≤ (n : Int) := by omega
    have hpc : (p : Int) ≤ (c : Int) := by omega
    have hp0 : 0 ≤ (p : Int) := by omega
    have hpcN : p ≤ c := by omega
    by_cases hcp : c = p
    case pos =>
      obtain rfl : p = c := hcp.symm
      obtain ⟨Z, hZ⟩ : ∃ Z, Z = recM (l.drop p) 0 := ⟨_, rfl⟩
      have HZ := Lib.hid hZ
      have HRD := Lib.hid (ref_decode (some ⟨b, o, none⟩) 0 0 (l.drop p) wr (by rw [List.length_drop, HL.out]; omega) (by omega) (by omega) (by rw [List.drop_eq_nil_of_le (by rw [HL.out]; omega)]; exact Bs.nil _ _ _))
      rw [← hZ] at HRD
      unfold DecOut at HRD
      clear hZ
      obtain ⟨z1, zr, z3, z4⟩ := Z
      dsimp only at HRD
      unfold rcs at HRD
      have HSH : Hid ((recM l p).1 = z1 ∧ (recM l p).2.1 = zr ∧ (recM l p).2.2.1 = p + z3) := (show _ ∧ _ ∧ _ from by rw [recM_shift l p, ← HZ.out]; exact ⟨rfl, rfl, rfl⟩)
      go_wp2_with fail
      refine HRD.out.mono ?_
      rintro e w3 ⟨s, rfl, hr3, hb3⟩
      have HI3 : Hid (RF w l i p u6 ys w3) := ⟨HI.out.e, HI.out.r.below hb3, HI.out.hb.trans (hb3.mono HI.out.hb.size)⟩
      have HR3 := Lib.hid hr3
      clear hr3 hb3 HRD HI HZ
      go_upto_region 12 with fail
      have RX8 : Hid (Row (w3.alloc (.cells #[.int .u64 (zr.lsn : Int), .int .i64 zr.kind, .int .u64 (zr.txn : Int), .int .u64 (zr.back : Int), .int .i64 zr.page, .int .i64 zr.slot, .slice s.Ao s.no s.co, .slice s.An s.nn s.cn, .int .u64 (zr.next : Int)] 34)) w3.heap.size 34 (rcs zr s)) := Row.new w3 _ _
      have hwa : Below w3.heap.size w3 (w3.alloc (.cells #[.int .u64 (zr.lsn : Int), .int .i64 zr.kind, .int .u64 (zr.txn : Int), .int .u64 (zr.back : Int), .int .i64 zr.page, .int .i64 zr.slot, .slice s.Ao s.no s.co, .slice s.An s.nn s.cn, .int .u64 (zr.next : Int)] 34)) := (Below.refl _ _).alloc (Nat.le_refl _) _
      have HI8 : Hid (RF w l i p u6 ys (w3.alloc (.cells #[.int .u64 (zr.lsn : Int), .int .i64 zr.kind, .int .u64 (zr.txn : Int), .int .u64 (zr.back : Int), .int .i64 zr.page, .int .i64 zr.slot, .slice s.Ao s.no s.co, .slice s.An s.nn s.cn, .int .u64 (zr.next : Int)] 34))) := ⟨HI3.out.e, HI3.out.r.below hwa, HI3.out.hb.trans (hwa.mono HI3.out.hb.size)⟩
      have HR8 := Lib.hid ((HR3.out.below hwa).more hwa.size)
      generalize w3.alloc (.cells #[.int .u64 (zr.lsn : Int), .int .i64 zr.kind, .int .u64 (zr.txn : Int), .int .u64 (zr.back : Int), .int .i64 zr.page, .int .i64 zr.slot, .slice s.Ao s.no s.co, .slice s.An s.nn s.cn, .int .u64 (zr.next : Int)] 34) = w8 at RX8 HI8 HR8 hwa ⊢
      generalize w3.heap.size = P8 at RX8 hwa ⊢
      clear HI3 HR3 hwa
      have hz : ¬ z1 = 0 := by
        have h7 := recM_nil (l.drop p) (by rw [List.length_drop, HL.out]; omega)
        have h8 := HSH.out.1
        rw [recM_shift] at h8
        rw [← h8]
        dsimp only
        omega
      have hne : (z1 != 0) = true := by simp [hz]
      have HDM : Hid (DM = (z1, [])) := (show _ = _ by
        have hf := rdE_fail HI8.out.e (by rw [HSH.out.1]; exact hz)
        have hst := rdE_stays (l := l) (i := i + 1) (by rw [hf, HSH.out.1]; exact hz) m (by omega)
        rw [HDE.out]
        unfold decRowM
        rw [if_neg HN2.out, ← HM.out, if_neg h64, hst, hf, HSH.out.1, if_pos hz])
      go_wp2
      exact bodyPost_ret (v := .tuple #[.slice none 0 0, .int .i64 z1]) (by simp [results, Try.results19, go_sem]) rfl ⟨_, [], by rw [HDM.out], Rs.nil _ _, by rw [HDM.out]; rfl, HI8.out.hb⟩
    obtain ⟨Z, hZ⟩ : ∃ Z, Z = recM (l.drop p) 0 := ⟨_, rfl⟩
    have HZ := Lib.hid hZ
    have HRD := Lib.hid (ref_decode (some ⟨b, o + p, none⟩) (n - p) (c - p) (l.drop p) wr (by rw [List.length_drop, HL.out]) (by omega) (by omega) (by have := (bs_from (c := c) (HB.out.below HI.out.hb) p (by rw [HL.out]; exact hnc)).more HI.out.hb.size; rwa [if_neg hcp] at this))
    rw [← hZ] at HRD
    unfold DecOut at HRD
    clear hZ
    obtain ⟨z1, zr, z3, z4⟩ := Z
    dsimp only at HRD
    unfold rcs at HRD
    have HSH : Hid ((recM l p).1 = z1 ∧ (recM l p).2.1 = zr ∧ (recM l p).2.2.1 = p + z3) := (show _ ∧ _ ∧ _ from by rw [recM_shift l p, ← HZ.out]; exact ⟨rfl, rfl, rfl⟩)
    go_wp2_with fail
    refine HRD.out.mono ?_
    rintro e w3 ⟨s, rfl, hr3, hb3⟩
    have HI3 : Hid (RF w l i p u6 ys w3) := ⟨HI.out.e, HI.out.r.below hb3, HI.out.hb.trans (hb3.mono HI.out.hb.size)⟩
    have HR3 := Lib.hid hr3
    clear hr3 hb3 HRD HI HZ
    go_upto_region 12 with fail
    have RX8 : Hid (Row (w3.alloc (.cells #[.int .u64 (zr.lsn : Int), .int .i64 zr.kind, .int .u64 (zr.txn : Int), .int .u64 (zr.back : Int), .int .i64 zr.page, .int .i64 zr.slot, .slice s.Ao s.no s.co, .slice s.An s.nn s.cn, .int .u64 (zr.next : Int)] 34)) w3.heap.size 34 (rcs zr s)) := Row.new w3 _ _
    have hwa : Below w3.heap.size w3 (w3.alloc (.cells #[.int .u64 (zr.lsn : Int), .int .i64 zr.kind, .int .u64 (zr.txn : Int), .int .u64 (zr.back : Int), .int .i64 zr.page, .int .i64 zr.slot, .slice s.Ao s.no s.co, .slice s.An s.nn s.cn, .int .u64 (zr.next : Int)] 34)) := (Below.refl _ _).alloc (Nat.le_refl _) _
    have HI8 : Hid (RF w l i p u6 ys (w3.alloc (.cells #[.int .u64 (zr.lsn : Int), .int .i64 zr.kind, .int .u64 (zr.txn : Int), .int .u64 (zr.back : Int), .int .i64 zr.page, .int .i64 zr.slot, .slice s.Ao s.no s.co, .slice s.An s.nn s.cn, .int .u64 (zr.next : Int)] 34))) := ⟨HI3.out.e, HI3.out.r.below hwa, HI3.out.hb.trans (hwa.mono HI3.out.hb.size)⟩
    have HR8 := Lib.hid ((HR3.out.below hwa).more hwa.size)
    generalize w3.alloc (.cells #[.int .u64 (zr.lsn : Int), .int .i64 zr.kind, .int .u64 (zr.txn : Int), .int .u64 (zr.back : Int), .int .i64 zr.page, .int .i64 zr.slot, .slice s.Ao s.no s.co, .slice s.An s.nn s.cn, .int .u64 (zr.next : Int)] 34) = w8 at RX8 HI8 HR8 hwa ⊢
    generalize w3.heap.size = P8 at RX8 hwa ⊢
    clear HI3 HR3 hwa
    by_cases hz : z1 = 0
    case neg =>
      have hne : (z1 != 0) = true := by simp [hz]
      have HDM : Hid (DM = (z1, [])) := (show _ = _ by
        have hf := rdE_fail HI8.out.e (by rw [HSH.out.1]; exact hz)
        have hst := rdE_stays (l := l) (i := i + 1) (by rw [hf, HSH.out.1]; exact hz) m (by omega)
        rw [HDE.out]
        unfold decRowM
        rw [if_neg HN2.out, ← HM.out, if_neg h64, hst, hf, HSH.out.1, if_pos hz])
      go_wp2
      exact bodyPost_ret (v := .tuple #[.slice none 0 0, .int .i64 z1]) (by simp [results, Try.results19, go_sem]) rfl ⟨_, [], by rw [HDM.out], Rs.nil _ _, by rw [HDM.out]; rfl, HI8.out.hb⟩
    subst hz
    have hnx := rdE_next HI8.out.e HSH.out.1
    rw [HSH.out.2.1, HSH.out.2.2] at hnx
    have hle : p + z3 ≤ n := by have := (rdE_seg (by have := HN2.out; omega) hnx).2.1.lt; rw [HL.out] at this; exact this
    have HNX := Lib.hid hnx
    have hYL : ys.length ≤ 100000 := by
      have := (rdE_seg (by have := HN2.out; omega) HI8.out.e).1
      rw [List.length_map] at this
      omega
    have HYL := Lib.hid hYL
    clear hnx hYL
    rw [if_pos rfl]
    have hwz : IntKind.i64.wrap ((p : Int) + (z3 : Int)) = (p : Int) + (z3 : Int) := by simp [IntKind.wrap, IntKind.signed, IntKind.bits]; omega
    have h00 : ((0 : Int) != 0) = false := by decide
    have hwa : Below w8.heap.size w8 (w8.alloc (.cells #[.int .u64 (zr.lsn : Int), .int .i64 zr.kind, .int .u64 (zr.txn : Int), .int .u64 (zr.back : Int), .int .i64 zr.page, .int .i64 zr.slot, .slice s.Ao s.no s.co, .slice s.An s.nn s.cn, .int .u64 (zr.next : Int)] 34)) := (Below.refl _ _).alloc (Nat.le_refl _) _
    have HPR := Lib.hid (HI8.out.r.below hwa)
    have HPB := Lib.hid (HI8.out.hb.trans (hwa.mono HI8.out.hb.size))
    have HR10 := Lib.hid ((HR8.out.below hwa).more hwa.size)
    have HCL : Hid (∀ j u, (rcs zr s)[j]? = some u → (w8.alloc (.cells #[.int .u64 (zr.lsn : Int), .int .i64 zr.kind, .int .u64 (zr.txn : Int), .int .u64 (zr.back : Int), .int .i64 zr.page, .int .i64 zr.slot, .slice s.Ao s.no s.co, .slice s.An s.nn s.cn, .int .u64 (zr.next : Int)] 34)).cell? ((⟨w8.heap.size, 0, none⟩ : Addr).add j) = some u) := (show ∀ j u, _ → _ from fun j u hu => by
      rw [Addr.add_lit, Nat.zero_add]
      exact ((Row.new w8 34 (rcs zr s)).cell j).trans hu)
    have HSZ := Lib.hid HPB.out.size
    have HC8 : Hid (w8.rangeAt P8 0 [.int .u64 (zr.lsn : Int), .int .i64 zr.kind, .int .u64 (zr.txn : Int), .int .u64 (zr.back : Int), .int .i64 zr.page, .int .i64 zr.slot, .slice s.Ao s.no s.co, .slice s.An s.nn s.cn, .int .u64 (zr.next : Int)]) := Row.all RX8.out
    have HIN := Lib.hid (show (Try.prog.info? 34).map (·.size) = some ([.int .u64 (zr.lsn : Int), .int .i64 zr.kind, .int .u64 (zr.txn : Int), .int .u64 (zr.back : Int), .int .i64 zr.page, .int .i64 zr.slot, .slice s.Ao s.no s.co, .slice s.An s.nn s.cn, .int .u64 (zr.next : Int)] : List Value).length from rec_info)
    clear hwa HI8 HR8
    go_wp2_with (first
      | (with_reducible refine wpList_load_row (op := ⟨some 37, _, _, _, _, _⟩) ?_ 34 (.tmp 8) ?_ P8 0 ?_ [.int .u64 (zr.lsn : Int), .int .i64 zr.kind, .int .u64 (zr.txn : Int), .int .u64 (zr.back : Int), .int .i64 zr.page, .int .i64 zr.slot, .slice s.Ao s.no s.co, .slice s.An s.nn s.cn, .int .u64 (zr.next : Int)] _ HC8.out Try.underlying34 ?_ HIN.out ?_)
      | (with_reducible refine wpList_build1 (o := ⟨some 38, _, _, _, _, _⟩) rfl 22 34 (.tmp 37) rfl [.int .u64 (zr.lsn : Int), .int .i64 zr.kind, .int .u64 (zr.txn : Int), .int .u64 (zr.back : Int), .int .i64 zr.page, .int .i64 zr.slot, .slice s.Ao s.no s.co, .slice s.An s.nn s.cn, .int .u64 (zr.next : Int)] (rcs zeroR zeroS) iR ?_ Try.underlying22 hiR hzR hsR rfl (by decide) (by decide) ?_)
      | (at_builtin; (refine wpList_append_rec (o := ⟨some 39, _, _, _, _, _⟩) rfl (.tmp 36) (.tmp 38) rfl w.heap.size u6 ys rfl HPR.out ⟨w8.heap.size, 0, none⟩ 1 zr s rfl HCL.out HR10.out HYL.out HSZ.out ?_; intro v11 w11 hp11 hg11 hb11)))
    all_goals try (first | rfl | (simp; done))
    have HN11 : Hid (RF w l (i + 1) (p + z3) v11 (ys ++ [(zr, s)]) w11) := ⟨by rw [HNX.out, List.map_append]; rfl, hp11, HPB.out.trans hb11⟩
    clear hp11 hg11 hb11 HPR HPB HCL HR10 HC8 RX8
    go_wp2
    go_roundw
    case rel => exact ⟨i + 1, p + z3, v11, _, by omega, hle, rfl, rfl, by go_num, HN11⟩
    case measure => simp [intOf]; omega

set_option maxHeartbeats 4000000 in
theorem sameRow_any (A : Option Addr) (n c : Nat) (xs : List (RM × RS)) (A2 : Option Addr) (c2 : Nat) (ys : List (RM × RS)) (w : World) (hl : xs.length = n) (hm : n ≤ 100000) (hR : Rl w w.heap.size A xs) (hR2 : Rl w w.heap.size A2 ys) (he : xs.map (·.1) = ys.map (·.1)) :
    Calls Try.prog 20 #[.slice A n c, .slice A2 n c2] w fun e w' => e = .returned (.bool true) ∧ Below w.heap.size w w' := by
  have HL := Lib.hid hl
  have HR := Lib.hid hR
  have HR2 := Lib.hid hR2
  have HE := Lib.hid he
  have HL2 : Hid (ys.length = n) := (show _ = _ by have := congrArg List.length he; rw [List.length_map, List.length_map, hl] at this; exact this.symm)
  clear hl hR hR2 he
  have hnn : ((n : Int) != (n : Int)) = false := by simp
  go_enter Try.func20, Try.ntmps20
  go_wp2
  go_loopw [5] (fun t5 wr => ∃ k : Nat, k ≤ n ∧ t5 = .int .i64 (k : Int) ∧ Hid (Below w.heap.size w wr)) (fun t5 _ => n - (intOf t5).toNat)
  case atStart => exact ⟨0, by omega, rfl, Below.refl _ _⟩
  case round =>
    obtain ⟨k, hk, rfl, HI⟩ := hrel
    by_cases hlt : k < n
    case neg =>
      have h1 : ¬ (k : Int) < (n : Int) := by omega
      go_wp2
      go_ret
      exact ⟨rfl, HI.out⟩
    have h1 : (k : Int) < (n : Int) := by omega
    have hk0 : 0 ≤ (k : Int) := by omega
    obtain ⟨x, hx⟩ : ∃ x, xs[k]? = some x := ⟨_, List.getElem?_eq_getElem (by rw [HL.out]; exact hlt)⟩
    obtain ⟨y, hy⟩ : ∃ y, ys[k]? = some y := ⟨_, List.getElem?_eq_getElem (by rw [HL2.out]; exact hlt)⟩
    have hxy : x.1 = y.1 := by
      have h3 : (xs.map (·.1))[k]? = some x.1 := by rw [List.getElem?_map, hx]; rfl
      rw [HE.out, List.getElem?_map, hy] at h3
      exact (Option.some.inj h3).symm
    obtain ⟨b, o, rfl, hblt, hc⟩ := HR.out.1 (by rw [HL.out]; omega)
    obtain ⟨b2, o2, rfl, hblt2, hc2⟩ := HR2.out.1 (by rw [HL2.out]; omega)
    obtain ⟨r, s⟩ := x
    obtain ⟨r2, s2⟩ := y
    obtain rfl : r = r2 := hxy
    have HC : Hid (∀ W, Below w.heap.size w W → W.rangeAt b (o + k * 9) (rcs r s)) := (show ∀ W, _ → _ from fun W hW j v hj => (hW.cell (p := ⟨b, o + k * 9 + j, none⟩) hblt).trans (hc k _ hx j v hj))
    have HC2 : Hid (∀ W, Below w.heap.size w W → W.rangeAt b2 (o2 + k * 9) (rcs r s2)) := (show ∀ W, _ → _ from fun W hW j v hj => (hW.cell (p := ⟨b2, o2 + k * 9 + j, none⟩) hblt2).trans (hc2 k _ hy j v hj))
    have HRX := Lib.hid (HR.out.2 _ (List.mem_of_getElem? hx))
    have HRY := Lib.hid (HR2.out.2 _ (List.mem_of_getElem? hy))
    have HSM : Hid (∀ W, Below w.heap.size w W → Calls Try.prog 14 #[.agg (rcs r s).toArray, .agg (rcs r s2).toArray] W fun e w' => e = .returned (.bool true) ∧ Below W.heap.size W w') := (show ∀ W, _ → _ from fun W hW => by
      have := same_ref r r s s2 W.heap.size W ((HRX.out.below hW).more hW.size) ((HRY.out.below hW).more hW.size) (Nat.le_refl _)
      rwa [show sameB r r = true by simp [sameB]] at this)
    clear hc hc2 hx hy HRX HRY
    go_upto_region 6 with fail
    refine wp_region_held_drew (S := fun w' => Below w.heap.size w w') (by kernel_rfl) (HI.out.trans ((below_drew _).mono HI.out.size)) (fun hHeld => ?_)
    have S0 := Lib.hid hHeld
    clear hHeld HI
    generalize wr.drew = wj at S0 ⊢
    refine wpAnyH_take (i := 0) (oi := ⟨some 17, _, _, _, _, _⟩) (v := ?va1) rfl (by kernel_rfl) (by kernel_rfl) (by kernel_rfl) (fun _ _ _ h => h) (Or.inl ⟨by rfl, ?ya1⟩) S0.out ?ra1
    case ya1 =>
      rintro w' hSw
      go_simp
      try with_reducible rfl
    try simp only [Act.put, List.setIfInBounds_toArray, List.set_cons_zero, List.set_cons_succ]
    refine wpAnyH_take (i := 1) (oi := ⟨some 18, _, _, _, _, _⟩) (v := ?va2) rfl (by kernel_rfl) (by kernel_rfl) (by kernel_rfl) (fun _ _ _ h => h) (Or.inl ⟨by rfl, ?ya2⟩) S0.out ?ra2
    case ya2 =>
      rintro w' hSw
      go_simp
      try with_reducible rfl
    try simp only [Act.put, List.setIfInBounds_toArray, List.set_cons_zero, List.set_cons_succ]
    refine wpAnyH_take (i := 2) (oi := ⟨some 19, _, _, _, _, _⟩) (v := ?va3) rfl (by kernel_rfl) (by kernel_rfl) (by kernel_rfl) (fun _ _ _ h => h) (Or.inl ⟨by rfl, ?ya3⟩) S0.out ?ra3
    case ya3 =>
      rintro w' hSw
      go_simp
      try with_reducible rfl
    try simp only [Act.put, List.setIfInBounds_toArray, List.set_cons_zero, List.set_cons_succ]
    refine wpAnyH_take (i := 3) (oi := ⟨some 20, _, _, _, _, _⟩) rfl (by kernel_rfl) (by kernel_rfl) (by kernel_rfl) (fun _ _ _ h => h) (yieldsIf_load_mid (by rfl) 34 (.tmp 19) rfl b (o + k * 9) ?xa4 (rcs r s) _ (fun W h => HC.out W h) Try.underlying34 rfl rec_info) S0.out ?ra4
    case xa4 => first | rfl | (simp [Act.eval, go_sem]; done)
    try simp only [Act.put, List.setIfInBounds_toArray, List.set_cons_zero, List.set_cons_succ]
    refine wpAnyH_take (i := 4) (oi := ⟨some 21, _, _, _, _, _⟩) (v := ?va5) rfl (by kernel_rfl) (by kernel_rfl) (by kernel_rfl) (fun _ _ _ h => h) (Or.inl ⟨by rfl, ?ya5⟩) S0.out ?ra5
    case ya5 =>
      rintro w' hSw
      go_simp
      try with_reducible rfl
    try simp only [Act.put, List.setIfInBounds_toArray, List.set_cons_zero, List.set_cons_succ]
    refine wpAnyH_take (i := 5) (oi := ⟨some 22, _, _, _, _, _⟩) (v := ?va6) rfl (by kernel_rfl) (by kernel_rfl) (by kernel_rfl) (fun _ _ _ h => h) (Or.inl ⟨by rfl, ?ya6⟩) S0.out ?ra6
    case ya6 =>
      rintro w' hSw
      go_simp
      try with_reducible rfl
    try simp only [Act.put, List.setIfInBounds_toArray, List.set_cons_zero, List.set_cons_succ]
    refine wpAnyH_take (i := 6) (oi := ⟨some 23, _, _, _, _, _⟩) (v := ?va7) rfl (by kernel_rfl) (by kernel_rfl) (by kernel_rfl) (fun _ _ _ h => h) (Or.inl ⟨by rfl, ?ya7⟩) S0.out ?ra7
    case ya7 =>
      rintro w' hSw
      go_simp
      try with_reducible rfl
    try simp only [Act.put, List.setIfInBounds_toArray, List.set_cons_zero, List.set_cons_succ]
    refine wpAnyH_take (i := 7) (oi := ⟨some 24, _, _, _, _, _⟩) rfl (by kernel_rfl) (by kernel_rfl) (by kernel_rfl) (fun _ _ _ h => h) (yieldsIf_load_mid (by rfl) 34 (.tmp 23) rfl b2 (o2 + k * 9) ?xa8 (rcs r s2) _ (fun W h => HC2.out W h) Try.underlying34 rfl rec_info) S0.out ?ra8
    case xa8 => first | rfl | (simp [Act.eval, go_sem]; done)
    try simp only [Act.put, List.setIfInBounds_toArray, List.set_cons_zero, List.set_cons_succ]
    refine wpAnyH_ready (rs := [8]) (by kernel_rfl) (by simp) ?_
    refine (AllReadyH.cons rfl (fun K hK => ?_) AllReadyH.nil)
    go_simp
    refine (HSM.out _ S0.out).mono ?_
    rintro e w9 ⟨rfl, hb9⟩
    have S9 : Hid (Below w.heap.size w w9) := S0.out.trans (hb9.mono S0.out.size)
    clear hb9 S0
    refine hK _ _ S9.out (fun _ => ?_)
    clear hK K
    try simp only [Act.put, List.setIfInBounds_toArray, List.set_cons_zero, List.set_cons_succ]
    refine wpAnyH_take (i := 9) (oi := ⟨some 26, _, _, _, _, _⟩) (v := ?va10) rfl (by kernel_rfl) (by kernel_rfl) (by kernel_rfl) (fun _ _ _ h => h) (Or.inl ⟨by rfl, ?ya10⟩) S9.out ?ra10
    case ya10 =>
      rintro w' hSw
      go_simp
      try with_reducible rfl
    try simp only [Act.put, List.setIfInBounds_toArray, List.set_cons_zero, List.set_cons_succ]
    refine wpAnyH_done (by kernel_rfl) ?_ _
    go_wp2
    go_roundw
    case rel => exact ⟨k + 1, by omega, by go_num, S9⟩
    case measure => simp [intOf]; omega
end Go.Proofs.Ytnljhopikjkflaa.Rec
