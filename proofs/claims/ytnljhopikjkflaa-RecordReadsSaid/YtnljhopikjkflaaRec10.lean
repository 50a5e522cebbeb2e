/-
  Decode.
-/
import Derived.Test.YtnljhopikjkflaaRec9
namespace Go.Proofs.Ytnljhopikjkflaa.Rec
set_option maxRecDepth 100000
open Go.RowKit Go.Proofs.Ytnljhopikjkflaa.Wd Go.Proofs.Ytnljhopikjkflaa.Oct Go.Proofs.Ytnljhopikjkflaa.Dsk

theorem recM_zero (l : List UInt8) (at_ : Nat) (h : (recM l at_).1 ≠ 0) : (recM l at_).2.1 = zeroR := by
  have e : recM l at_ = recM l at_ := rfl
  unfold recM at h ⊢
  simp only at h ⊢
  split
  · rfl
  · rename_i h1
    rw [if_neg h1] at h
    split
    · rfl
    · rename_i h2
      rw [if_neg h2] at h
      split
      · rename_i h3
        rw [if_pos h3] at h
        exact absurd rfl h
      · rfl
theorem res_cell_tmp2 {P : Program} {fn : Func} {p q q2 : Tmp} {ty : TypeId} (h : fn.results = #[.cell p ty, .tmp q, .tmp q2]) (tmps : Array Value) (w : World) (a : Addr) (v u u2 : Value) (hp : tmps.getD p undef = .pointer (some a)) (hl : (loadVar ty a).run P w = .ok v w) (hq : tmps.getD q undef = u) (hq2 : tmps.getD q2 undef = u2) :
    (results fn tmps).run P w = .ok (.tuple #[v, u, u2]) w := by
  simp only [results, h]
  simp only [Array.getD_eq_getD_getElem?] at *
  simp [Sem.run_bind, Result.andThen, hq, hq2]
  rw [hp, show (asAddr (.pointer (some a))).run P w = .ok a w from rfl]
  simp only []
  rw [hl]
theorem Rdr.le {w : World} {g : Nat} {l : List UInt8} {at_ : Nat} {err : Int} (h : Rdr w g l at_ err) : at_ ≤ l.length := by
  obtain ⟨A, n, c, _, hn, _, ha, _⟩ := h
  have := hn.out
  omega
/-- what Decode answers: the error, the record, how many bytes -/
def DecOut (w : World) (Z : Int × RM × (Nat × Int)) (e : Ending) (w' : World) : Prop :=
  ∃ s, e = .returned (.tuple #[.agg (rcs Z.2.1 s).toArray, .int .i64 (if Z.1 = 0 then (Z.2.2.1 : Int) else 0), .int .i64 Z.1]) ∧ RecAt w' w'.heap.size Z.2.1 s ∧ Below w.heap.size w w'
theorem below_grown {w a b : World} {g : Nat} (h : Below w.heap.size w a) (k : a.grownBy b (some g)) (hg : w.heap.size ≤ g) : Below w.heap.size w b :=
  ⟨k.os.trans h.os, k.tape.trans h.tape, k.output.trans h.output, Nat.le_trans h.size k.size, fun j hj => (k.block j (Nat.lt_of_lt_of_le hj h.size) (fun e => by have := Option.some.inj e; omega)).trans (h.block j hj)⟩

set_option maxHeartbeats 2000000 in
theorem decode_any (A : Option Addr) (l : List UInt8) (n c : Nat) (w : World) (hl : l.length = n) (hn : n ≤ 140737488351232) (B : Nat) (hb : Bs w B A l) (hB : B ≤ w.heap.size) (hA : A = none → c = 0) :
    Calls Try.prog 30 #[.slice A n c] w (DecOut w (recM l 0)) := by
  have mixed : Try.prog.follows .mixedOrders = true := by kernel_rfl
  have HZ0 := Lib.hid (recM_zero l 0)
  have HRC := Lib.hid (fun g w (h : Rdr w g l 0 0) => record_any g l 0 w h (by omega))
  have HL := Lib.hid hl
  have HA := Lib.hid hA
  generalize recM l 0 = Z at HZ0 HRC ⊢
  have hb1 : Bs (w.alloc (.cells #[.int .u64 0, .int .i64 0, .int .u64 0, .int .u64 0, .int .i64 0, .int .i64 0, .slice none 0 0, .slice none 0 0, .int .u64 0] 34)) B A l := hb.alloc hB _
  have HB1 := Lib.hid hb1
  clear hl hA hb hb1
  go_enter Try.func30, Try.ntmps30
  go_wp2_with fail
  have r2 : Row (w.alloc (.cells #[.int .u64 0, .int .i64 0, .int .u64 0, .int .u64 0, .int .i64 0, .int .i64 0, .slice none 0 0, .slice none 0 0, .int .u64 0] 34)) w.heap.size 34 zcs := Row.new w _ _
  have hbl : Below w.heap.size w (w.alloc (.cells #[.int .u64 0, .int .i64 0, .int .u64 0, .int .u64 0, .int .i64 0, .int .i64 0, .slice none 0 0, .slice none 0 0, .int .u64 0] 34)) := (Below.refl _ _).alloc (Nat.le_refl _) _
  have hs0 : (w.alloc (.cells #[.int .u64 0, .int .i64 0, .int .u64 0, .int .u64 0, .int .i64 0, .int .i64 0, .slice none 0 0, .slice none 0 0, .int .u64 0] 34)).heap.size = w.heap.size + 1 := by simp
  refine (read_rec A l n c _ HL.out (by omega) B HB1.out (by omega) HA.out).mono ?_
  rintro e w1 ⟨g, rfl, hg, hR1, hb1⟩
  have R21 := Lib.hid (r2.below hb1 (by omega))
  have HB := Lib.hid (hbl.trans (hb1.mono (by omega)))
  have HR1 := Lib.hid hR1
  have hgw : w.heap.size < g := by omega
  have hg1 := hR1.lt
  clear r2 hbl hR1 hb1 HB1
  go_wp2_with fail
  have R22 := Lib.hid (R21.out.alloc (.cells #[.pointer (some ⟨g, 0, none⟩)] 69))
  have R52 := Lib.hid (Row.new w1 69 [.pointer (some ⟨g, 0, none⟩)])
  have HB2 := Lib.hid (HB.out.alloc HB.out.size (.cells #[.pointer (some ⟨g, 0, none⟩)] 69))
  have hR2 : Rdr (w1.alloc (.cells #[.pointer (some ⟨g, 0, none⟩)] 69)) g l 0 0 := HR1.out.below ((Below.refl _ _).alloc (Nat.le_refl _) _) hg1
  have hs2 : (w1.alloc (.cells #[.pointer (some ⟨g, 0, none⟩)] 69)).heap.size = w1.heap.size + 1 := by simp
  refine (HRC.out g _ hR2).mono ?_
  rintro e w3 ⟨s, rfl, hrec, hR3, hg3⟩
  have HREC := Lib.hid hrec
  have HR3 := Lib.hid hR3
  have R23 := Lib.hid (Row.grown2 R22.out hg3 (by omega))
  have R53 := Lib.hid (Row.grown2 R52.out hg3 (by omega))
  have HB3 := Lib.hid (below_grown HB2.out hg3 (by omega))
  have hs3 : w1.heap.size < w3.heap.size := by have := hg3.size; omega
  have hw13 : w.heap.size < w1.heap.size := by have := hg1; omega
  clear hrec hR3 hg3 hR2
  unfold rcs
  by_cases hZ : Z.1 = 0
  · have hZb : (Z.1 != 0) = false := by simp [hZ]
    have hat : Z.2.2.1 ≤ n := by have := Rdr.le HR3.out; have := HL.out; omega
    have hsub : IntKind.i64.wrap ((n : Int) - ((n : Int) - (Z.2.2.1 : Int))) = (Z.2.2.1 : Int) := by rw [IntKind.wrap_i64]; omega
    go_upto_region 5 with fail
    have HR4 := Lib.hid (HR3.out.below ((Below.refl _ _).alloc (Nat.le_refl _) (.cells #[.int .u64 (Z.2.1.lsn : Int), .int .i64 Z.2.1.kind, .int .u64 (Z.2.1.txn : Int), .int .u64 (Z.2.1.back : Int), .int .i64 Z.2.1.page, .int .i64 Z.2.1.slot, .slice s.Ao s.no s.co, .slice s.An s.nn s.cn, .int .u64 (Z.2.1.next : Int)] 34)) HR3.out.lt)
    have R24 := Lib.hid (R23.out.alloc (.cells #[.int .u64 (Z.2.1.lsn : Int), .int .i64 Z.2.1.kind, .int .u64 (Z.2.1.txn : Int), .int .u64 (Z.2.1.back : Int), .int .i64 Z.2.1.page, .int .i64 Z.2.1.slot, .slice s.Ao s.no s.co, .slice s.An s.nn s.cn, .int .u64 (Z.2.1.next : Int)] 34))
    have R54 := Lib.hid (R53.out.alloc (.cells #[.int .u64 (Z.2.1.lsn : Int), .int .i64 Z.2.1.kind, .int .u64 (Z.2.1.txn : Int), .int .u64 (Z.2.1.back : Int), .int .i64 Z.2.1.page, .int .i64 Z.2.1.slot, .slice s.Ao s.no s.co, .slice s.An s.nn s.cn, .int .u64 (Z.2.1.next : Int)] 34))
    have HREC4 := Lib.hid ((HREC.out.alloc (Nat.le_refl _) (.cells #[.int .u64 (Z.2.1.lsn : Int), .int .i64 Z.2.1.kind, .int .u64 (Z.2.1.txn : Int), .int .u64 (Z.2.1.back : Int), .int .i64 Z.2.1.page, .int .i64 Z.2.1.slot, .slice s.Ao s.no s.co, .slice s.An s.nn s.cn, .int .u64 (Z.2.1.next : Int)] 34)).more (by simp : w3.heap.size ≤ (w3.alloc (.cells #[.int .u64 (Z.2.1.lsn : Int), .int .i64 Z.2.1.kind, .int .u64 (Z.2.1.txn : Int), .int .u64 (Z.2.1.back : Int), .int .i64 Z.2.1.page, .int .i64 Z.2.1.slot, .slice s.Ao s.no s.co, .slice s.An s.nn s.cn, .int .u64 (Z.2.1.next : Int)] 34)).heap.size))
    have R64 := Lib.hid (show Row (w3.alloc (.cells #[.int .u64 (Z.2.1.lsn : Int), .int .i64 Z.2.1.kind, .int .u64 (Z.2.1.txn : Int), .int .u64 (Z.2.1.back : Int), .int .i64 Z.2.1.page, .int .i64 Z.2.1.slot, .slice s.Ao s.no s.co, .slice s.An s.nn s.cn, .int .u64 (Z.2.1.next : Int)] 34)) w3.heap.size 34 (rcs Z.2.1 s) from Row.new w3 34 [.int .u64 (Z.2.1.lsn : Int), .int .i64 Z.2.1.kind, .int .u64 (Z.2.1.txn : Int), .int .u64 (Z.2.1.back : Int), .int .i64 Z.2.1.page, .int .i64 Z.2.1.slot, .slice s.Ao s.no s.co, .slice s.An s.nn s.cn, .int .u64 (Z.2.1.next : Int)])
    have HB4 := Lib.hid (HB3.out.alloc HB3.out.size (.cells #[.int .u64 (Z.2.1.lsn : Int), .int .i64 Z.2.1.kind, .int .u64 (Z.2.1.txn : Int), .int .u64 (Z.2.1.back : Int), .int .i64 Z.2.1.page, .int .i64 Z.2.1.slot, .slice s.Ao s.no s.co, .slice s.An s.nn s.cn, .int .u64 (Z.2.1.next : Int)] 34))
    generalize w3.alloc (.cells #[.int .u64 (Z.2.1.lsn : Int), .int .i64 Z.2.1.kind, .int .u64 (Z.2.1.txn : Int), .int .u64 (Z.2.1.back : Int), .int .i64 Z.2.1.page, .int .i64 Z.2.1.slot, .slice s.Ao s.no s.co, .slice s.An s.nn s.cn, .int .u64 (Z.2.1.next : Int)] 34) = w4 at *
    have HI := Lib.hid (show (Try.prog.info? 34).map (·.size) = some (rcs Z.2.1 s).length from rec_info)
    refine wp_region_held_drew (S := fun w' => Row w' w3.heap.size 34 (rcs Z.2.1 s) ∧ Row w' w1.heap.size 69 [.pointer (some ⟨g, 0, none⟩)]) (by kernel_rfl) ⟨Row.drew R64.out, Row.drew R54.out⟩ (fun hHeld => ?_)
    refine wpAnyH_take (i := 0) (oi := ⟨some 19, _, _, _, _, _⟩) rfl (by kernel_rfl) (by kernel_rfl) (by kernel_rfl) (fun _ _ _ h => h) (yieldsIf_load_mid (by rfl) 34 (.tmp 6) rfl w3.heap.size 0 ?x0 (rcs Z.2.1 s) _ (fun _ hS => Row.all hS.1) Try.underlying34 rfl HI.out) hHeld ?r0
    case x0 => first | rfl | (simp [Act.eval, go_sem]; done)
    try simp only [Act.put, List.setIfInBounds_toArray, List.set_cons_zero, List.set_cons_succ]
    refine wpAnyH_take (i := 1) (oi := ⟨some 20, _, _, _, _, _⟩) (v := ?v1) rfl (by kernel_rfl) (by kernel_rfl) (by kernel_rfl) (fun _ _ _ h => h) (Or.inl ⟨by rfl, ?y1⟩) hHeld ?r1
    case y1 =>
      rintro w' hSw
      go_simp
      try with_reducible rfl
    try simp only [Act.put, List.setIfInBounds_toArray, List.set_cons_zero, List.set_cons_succ]
    refine wpAnyH_take (i := 2) (oi := ⟨some 21, _, _, _, _, _⟩) (v := ?v2) rfl (by kernel_rfl) (by kernel_rfl) (by kernel_rfl) (fun _ _ _ h => h) (Or.inl ⟨by rfl, ?y2⟩) hHeld ?r2
    case y2 =>
      rintro w' hSw
      go_simp
      try with_reducible rfl
    try simp only [Act.put, List.setIfInBounds_toArray, List.set_cons_zero, List.set_cons_succ]
    refine wpAnyH_take (i := 3) (oi := ⟨some 22, _, _, _, _, _⟩) (v := ?v3) rfl (by kernel_rfl) (by kernel_rfl) (by kernel_rfl) (fun _ _ _ h => h) (Or.inl ⟨by rfl, ?y3⟩) hHeld ?r3
    case y3 =>
      rintro w' hSw
      go_simp
      try with_reducible rfl
    try simp only [Act.put, List.setIfInBounds_toArray, List.set_cons_zero, List.set_cons_succ]
    refine wpAnyH_take (i := 4) (oi := ⟨some 23, _, _, _, _, _⟩) (v := ?v4) rfl (by kernel_rfl) (by kernel_rfl) (by kernel_rfl) (fun _ _ _ h => h) (Or.inl ⟨by rfl, ?y4⟩) hHeld ?r4
    case y4 =>
      rintro w' hSw
      have c0 : w'.cell? ⟨w1.heap.size, 0, none⟩ = some (.pointer (some ⟨g, 0, none⟩)) := hSw.2.cell 0
      go_simp
      try with_reducible rfl
    try simp only [Act.put, List.setIfInBounds_toArray, List.set_cons_zero, List.set_cons_succ]
    refine wpAnyH_ready (rs := [5]) (by kernel_rfl) (by simp) ?_
    refine AllReadyH.cons rfl (fun K hK => ?_) AllReadyH.nil
    go_simp
    refine (left_any g l _ n _ _ (show Rdr w4.drew g l Z.2.2.1 Z.2.2.2 from HR4.out) HL.out).mono ?_
    rintro e w5 ⟨rfl, q, rfl⟩
    refine hK _ _ ⟨R64.out.drewN 1 |>.drewN q, R54.out.drewN 1 |>.drewN q⟩ (fun _ => ?_)
    clear hK K
    try simp only [Act.put, List.setIfInBounds_toArray, List.set_cons_zero, List.set_cons_succ]
    refine wpAnyH_take (i := 6) (oi := ⟨some 25, _, _, _, _, _⟩) (v := ?v6) rfl (by kernel_rfl) (by kernel_rfl) (by kernel_rfl) (fun _ _ _ h => h) (Or.inl ⟨by rfl, ?y6⟩) ⟨R64.out.drewN 1 |>.drewN q, R54.out.drewN 1 |>.drewN q⟩ ?r6
    case y6 =>
      rintro w' hSw
      go_simp
      try with_reducible rfl
    try simp only [Act.put, List.setIfInBounds_toArray, List.set_cons_zero, List.set_cons_succ]
    refine wpAnyH_ready (rs := [7]) (by kernel_rfl) (by simp) ?_
    refine AllReadyH.cons rfl (fun K hK => ?_) AllReadyH.nil
    rw [if_pos (by rfl)]
    refine wp_store_whole 34 (.tmp 2) (.tmp 19) rfl w.heap.size (rcs Z.2.1 s) rfl rfl 34 zcs (R24.out.drewN 1 |>.drewN q) rfl rcs_one rec_info ?_
    intro w8 hr8 hg8
    have HW := Lib.hid hr8
    have S8 : Row w8 w3.heap.size 34 (rcs Z.2.1 s) ∧ Row w8 w1.heap.size 69 [.pointer (some ⟨g, 0, none⟩)] := ⟨Row.grown2 (R64.out.drewN 1 |>.drewN q) hg8 (by omega), Row.grown2 (R54.out.drewN 1 |>.drewN q) hg8 (by omega)⟩
    have HS8 := Lib.hid S8
    have HREC8 := Lib.hid ((RecAt.far (r0 := zeroR) (s0 := zeroS) HREC4.out (Nat.le_refl _) R24.out (w' := w8) (fun j hj hlt => hg8.block j hlt (fun e => hj (Option.some.inj e)))).more (show w4.heap.size ≤ w8.heap.size from hg8.size))
    have HB8 : Hid (Below w.heap.size w w8) := ⟨hg8.os.trans HB4.out.os, hg8.tape.trans HB4.out.tape, hg8.output.trans HB4.out.output, Nat.le_trans HB4.out.size hg8.size, fun j hj => (hg8.block j (Nat.lt_of_lt_of_le hj HB4.out.size) (fun e => by have := Option.some.inj e; omega)).trans (HB4.out.block j hj)⟩
    clear hr8 hg8 S8
    refine hK _ _ HS8.out (fun _ => ?_)
    clear hK K
    try simp only [Act.put, List.setIfInBounds_toArray, List.set_cons_zero, List.set_cons_succ]
    refine wpAnyH_take (i := 8) (oi := ⟨some 3, _, _, _, _, _⟩) (v := ?v8) rfl (by kernel_rfl) (by kernel_rfl) (by kernel_rfl) (fun _ _ _ h => h) (Or.inl ⟨by rfl, ?y8⟩) HS8.out ?r8
    case y8 =>
      rintro w' hSw
      go_simp
      try with_reducible rfl
    try simp only [Act.put, List.setIfInBounds_toArray, List.set_cons_zero, List.set_cons_succ]
    refine wpAnyH_take (i := 9) (oi := ⟨some 4, _, _, _, _, _⟩) (v := ?v9) rfl (by kernel_rfl) (by kernel_rfl) (by kernel_rfl) (fun _ _ _ h => h) (Or.inl ⟨by rfl, ?y9⟩) HS8.out ?r9
    case y9 =>
      rintro w' hSw
      go_simp
      try with_reducible rfl
    try simp only [Act.put, List.setIfInBounds_toArray, List.set_cons_zero, List.set_cons_succ]
    refine wpAnyH_done (by kernel_rfl) ?_ _
    go_wp2
    have HRES := Lib.hid (run_loadVar_mid (P := Try.prog) w8 w.heap.size 0 34 (rcs Z.2.1 s) _ (Row.all HW.out) Try.underlying34 rfl HI.out)
    refine bodyPost_ret (v := .tuple #[.agg (rcs Z.2.1 s).toArray, .int .i64 (Z.2.2.1 : Int), .int .i64 0]) (res_cell_tmp2 (p := 2) (q := 3) (q2 := 4) (ty := 34) rfl _ _ ⟨w.heap.size, 0, none⟩ _ _ _ rfl HRES.out rfl rfl) rfl ?_
    refine ⟨s, by rw [hZ, if_pos rfl], HREC8.out, HB8.out⟩
  · have hZb : (Z.1 != 0) = true := by simp [hZ]
    have HI := Lib.hid (show (Try.prog.info? 34).map (·.size) = some (rcs zeroR zeroS).length from rec_info)
    have HLE := Lib.hid (show (rcs zeroR zeroS).length = zcs.length from rfl)
    have HONE : Hid (∀ v ∈ (rcs zeroR zeroS), v.oneCell' = true) := rcs_one
    have R24 := Lib.hid (R23.out.alloc (.cells #[.int .u64 (Z.2.1.lsn : Int), .int .i64 Z.2.1.kind, .int .u64 (Z.2.1.txn : Int), .int .u64 (Z.2.1.back : Int), .int .i64 Z.2.1.page, .int .i64 Z.2.1.slot, .slice s.Ao s.no s.co, .slice s.An s.nn s.cn, .int .u64 (Z.2.1.next : Int)] 34))
    have HB4 := Lib.hid (HB3.out.alloc HB3.out.size (.cells #[.int .u64 (Z.2.1.lsn : Int), .int .i64 Z.2.1.kind, .int .u64 (Z.2.1.txn : Int), .int .u64 (Z.2.1.back : Int), .int .i64 Z.2.1.page, .int .i64 Z.2.1.slot, .slice s.Ao s.no s.co, .slice s.An s.nn s.cn, .int .u64 (Z.2.1.next : Int)] 34))
    go_wp2_with (first
      | (with_reducible refine wpList_store_whole (op := ⟨none, _, _, _, _, _⟩) ?_ 34 (.tmp 2) (.tmp 17) ?_ w.heap.size (rcs zeroR zeroS) ?_ ?_ 34 zcs R24.out HLE.out HONE.out HI.out ?_))
    all_goals try (first | rfl | (simp; done))
    intro w8 hr8 hg8
    have HRES := Lib.hid (run_loadVar_mid (P := Try.prog) w8 w.heap.size 0 34 (rcs zeroR zeroS) _ (Row.all hr8) Try.underlying34 rfl HI.out)
    have HB8 : Hid (Below w.heap.size w w8) := ⟨hg8.os.trans HB4.out.os, hg8.tape.trans HB4.out.tape, hg8.output.trans HB4.out.output, Nat.le_trans HB4.out.size hg8.size, fun j hj => (hg8.block j (Nat.lt_of_lt_of_le hj HB4.out.size) (fun e => by have := Option.some.inj e; omega)).trans (HB4.out.block j hj)⟩
    clear hr8 hg8
    go_wp2
    refine bodyPost_ret (v := .tuple #[.agg (rcs zeroR zeroS).toArray, .int .i64 0, .int .i64 Z.1]) (res_cell_tmp2 (p := 2) (q := 3) (q2 := 4) (ty := 34) rfl _ _ ⟨w.heap.size, 0, none⟩ _ _ _ rfl HRES.out rfl rfl) rfl ?_
    refine ⟨zeroS, by rw [HZ0.out hZ, if_neg hZ], ?_, HB8.out⟩
    rw [HZ0.out hZ]
    exact RecAt.zero w8
end Go.Proofs.Ytnljhopikjkflaa.Rec
