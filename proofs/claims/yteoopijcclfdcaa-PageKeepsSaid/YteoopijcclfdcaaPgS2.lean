/-
  PageKeeps: what is set is there, and all other slots are as they were. No condition.
-/
import Derived.Test.YteoopijcclfdcaaPgO
import Derived.Test.YteoopijcclfdcaaPgL
import Derived.Deep.Cut
import Derived.Deep.CutRange
import Derived.Great.BuildSlice
import Derived.Deep.SlicePairs
namespace Go.Proofs.Yteoopijcclfdcaa.PgKeep
set_option maxRecDepth 100000
open Go.RowKit Go.Proofs.Yteoopijcclfdcaa.Wd Go.Proofs.Yteoopijcclfdcaa.Oct Go.Proofs.Yteoopijcclfdcaa.Dsk Go.Proofs.Yteoopijcclfdcaa.Rec Go.Proofs.Yteoopijcclfdcaa.Pg Go.ChangeShapes Go.WideShapes Go.ChangeAt

theorem own : ownKnob Try.prog.godebug = none := by kernel_rfl
theorem laidOut : laidOutB Try.prog = true := by kernel_rfl
theorem same_self (n : Int) (l : Nat) (f : Nat → List UInt8) : sameM n l f n l f = true := by simp [sameM, eq4]
theorem short_lens {w : World} {B : Nat} {f : Nat → List UInt8} {s : PS} (h : PgAt w B (shortS f) s) : ∀ k, k < 4 → s.n k ≤ 100000 := fun k hk => by
  rw [← h.lens k hk]
  unfold shortS
  rw [List.length_take]
  omega
theorem free_cases (n : Nat → Nat) : freeN true n = -1 ∨ ∃ k, k < 4 ∧ n k = 0 ∧ freeN true n = (k : Int) := by
  unfold freeN
  rw [if_pos rfl]
  by_cases h0 : n 0 = 0
  · exact .inr ⟨0, by omega, h0, by rw [if_pos h0]; rfl⟩
  rw [if_neg h0]
  by_cases h1 : n 1 = 0
  · exact .inr ⟨1, by omega, h1, by rw [if_pos h1]; rfl⟩
  rw [if_neg h1]
  by_cases h2 : n 2 = 0
  · exact .inr ⟨2, by omega, h2, by rw [if_pos h2]; rfl⟩
  rw [if_neg h2]
  by_cases h3 : n 3 = 0
  · exact .inr ⟨3, by omega, h3, by rw [if_pos h3]; rfl⟩
  rw [if_neg h3]
  exact .inl rfl
/-- the page, the one in which a slot was set, the bytes that were set -/
structure Kp (w : World) (Q : Nat) (num : Int) (lsn : Nat) (f : Nat → List UInt8) (s : PS) (g : Nat → List UInt8) (z : PS) (A : Option Addr) (m c : Nat) (b : List UInt8) (W : World) : Prop where
  ra : Row W w.heap.size 28 (pcs num lsn s)
  rb : Row W Q 28 (pcs num 7 z)
  pa : PgAt W W.heap.size f s
  pb : PgAt W W.heap.size g z
  sb : Sl W W.heap.size A m c b
  hb : Below w.heap.size w W
theorem Kp.then {w W W' : World} {Q : Nat} {num : Int} {lsn : Nat} {f : Nat → List UInt8} {s : PS} {g : Nat → List UInt8} {z : PS} {A : Option Addr} {m c : Nat} {b : List UInt8} (h : Kp w Q num lsn f s g z A m c b W) (hb : Below W.heap.size W W') : Kp w Q num lsn f s g z A m c b W' :=
  ⟨h.ra.below hb h.ra.lt, h.rb.below hb h.rb.lt, (h.pa.below hb).more hb.size, (h.pb.below hb).more hb.size, (h.sb.below hb).more hb.size, h.hb.trans (hb.mono h.hb.size)⟩
theorem set_ok {num : Int} {f : Nat → List UInt8} {K : Bool} {slot : Int} {b : List UInt8} {l : Nat} (h : setE K slot b.length = 0) : K = true ∧ b.length ≤ 52 ∧ ∃ k : Nat, k < 4 ∧ slot = (k : Int) ∧ setM num f K slot b l = ⟨0, num, l, upd f k b⟩ := by
  have hM : setM num f K slot b l = ⟨0, num, l, upd f slot.toNat b⟩ := by unfold setM; rw [if_pos h]
  unfold setE at h
  by_cases h0 : askE K slot = 0
  · rw [if_pos h0] at h
    unfold askE at h0
    cases K
    · cases h0
    · rw [if_pos rfl] at h0
      by_cases hs : 0 ≤ slot ∧ slot < 4
      · refine ⟨rfl, ?_, slot.toNat, by omega, by omega, hM⟩
        by_cases h52 : 52 < b.length
        · rw [if_pos h52] at h
          cases h
        · omega
      · rw [if_neg hs] at h0
        cases h0
  · rw [if_neg h0] at h
    exact absurd h h0

set_option maxHeartbeats 4000000 in
theorem keep_walk (x : PX) (slot : Int) (A : Option Addr) (n c : Nat) (l : List UInt8) (w : World) (hx : PgOk w x) (hl : Sl w w.heap.size A n c l) (hc : c ≤ 140737488351232) :
    Calls Try.prog 8 #[.agg x.cells.toArray, .int .i64 slot, .slice A n c] w fun e w' => e = .returned (.bool true) ∧ Below w.heap.size w w' := by
  have mixed : Try.prog.follows .mixedOrders = true := by kernel_rfl
  obtain ⟨num, lsn, f, s⟩ := x
  have HX := Lib.hid hx
  have HLS := Lib.hid hl
  have hnc : n ≤ c := hl.cap
  clear hx hl
  unfold PX.cells
  dsimp only
  go_enter Try.func8, Try.ntmps8
  go_upto_region 1 with fail
  have HB := Lib.hid (boxed w num lsn s)
  generalize w.alloc (.cells (pcs num lsn s).toArray 28) = w1 at HB ⊢
  go_wp2_with fail
  refine (wakes_any _).mono ?_
  rintro e w2 ⟨rfl, hb2⟩
  have HB2 := Lib.hid (HB.out.then hb2)
  clear hb2 HB
  go_upto_region 3 with fail
  refine wp_region_held_drew (S := fun _ => True) (by kernel_rfl) trivial (fun hHeld => ?_)
  have HB3 := Lib.hid (HB2.out.still ⟨1, rfl⟩ : Bx w num lsn s w2.drew)
  clear HB2
  generalize w2.drew = w3 at HB3 ⊢
  refine wpAnyH_take (i := 2) (oi := ⟨some 21, _, _, _, _, _⟩) (v := ?v2k) rfl (by kernel_rfl) (by kernel_rfl) (by kernel_rfl) (fun _ _ _ h => h) (Or.inl ⟨by rfl, ?y2k⟩) trivial ?r2k
  case y2k =>
    rintro w' hSw
    go_simp
    try with_reducible rfl
  try simp only [Act.put, List.setIfInBounds_toArray, List.set_cons_zero, List.set_cons_succ]
  refine wpAnyH_take (i := 3) (oi := ⟨some 22, _, _, _, _, _⟩) (v := ?v3k) rfl (by kernel_rfl) (by kernel_rfl) (by kernel_rfl) (fun _ _ _ h => h) (Or.inl ⟨by rfl, ?y3k⟩) trivial ?r3k
  case y3k =>
    rintro w' hSw
    go_simp
    try with_reducible rfl
  try simp only [Act.put, List.setIfInBounds_toArray, List.set_cons_zero, List.set_cons_succ]
  refine wpAnyH_take (i := 4) (oi := ⟨some 23, _, _, _, _, _⟩) (v := ?v4k) rfl (by kernel_rfl) (by kernel_rfl) (by kernel_rfl) (fun _ _ _ h => h) (Or.inl ⟨by rfl, ?y4k⟩) trivial ?r4k
  case y4k =>
    rintro w' hSw
    go_simp
    try with_reducible rfl
  try simp only [Act.put, List.setIfInBounds_toArray, List.set_cons_zero, List.set_cons_succ]
  refine wpAnyH_take (i := 5) (oi := ⟨some 24, _, _, _, _, _⟩) (v := ?v5k) rfl (by kernel_rfl) (by kernel_rfl) (by kernel_rfl) (fun _ _ _ h => h) (Or.inl ⟨by rfl, ?y5k⟩) trivial ?r5k
  case y5k =>
    rintro w' hSw
    go_simp
    try with_reducible rfl
  try simp only [Act.put, List.setIfInBounds_toArray, List.set_cons_zero, List.set_cons_succ]
  obtain ⟨m, hme⟩ : ∃ m : Nat, (m : Int) = (if 60 < (n : Int) then 60 else (n : Int)) := ⟨min 60 n, by split <;> omega⟩
  rw [← hme]
  have hm60 : m = min 60 n := by split at hme <;> omega
  clear hme
  have hmc : (m : Int) ≤ (c : Int) := by omega
  have hm0 : 0 ≤ (m : Int) := by omega
  have HM60 := Lib.hid hm60
  clear hm60
  refine wpAnyH_take (i := 6) (oi := ⟨some 25, _, _, _, _, _⟩) (v := ?v6k) rfl (by kernel_rfl) (by kernel_rfl) (by kernel_rfl) (fun _ _ _ h => h) (Or.inl ⟨by rfl, ?y6k⟩) trivial ?r6k
  case y6k =>
    rintro w' hSw
    go_simp
    try with_reducible rfl
  try simp only [Act.put, List.setIfInBounds_toArray, List.set_cons_zero, List.set_cons_succ]
  refine wpAnyH_ready (rs := [0]) (by kernel_rfl) (by simp) ?_
  refine AllReadyH.cons rfl (fun K hK => ?_) AllReadyH.nil
  refine wp_load_mid 28 (.tmp 3) rfl w.heap.size 0 rfl (pcs num lsn s) _ (Row.all HB3.out.row) Try.underlying28 rfl page_info ?_
  refine hK _ _ trivial (fun _ => ?_)
  clear hK K
  try simp only [Act.put, List.setIfInBounds_toArray, List.set_cons_zero, List.set_cons_succ]
  refine wpAnyH_ready (rs := [1]) (by kernel_rfl) (by simp) ?_
  refine AllReadyH.cons rfl (fun K hK => ?_) AllReadyH.nil
  go_simp
  refine (short_any num lsn f s w.heap.size w3 (HX.out.at_.below HB3.out.hb) HB3.out.hb.size).mono ?_
  rintro e w4 ⟨s3, rfl, hpo, hb⟩
  have HB4 := Lib.hid (HB3.out.then hb)
  have HPO4 := Lib.hid (hpo.mono HB3.out.hb.size)
  clear hpo hb HB3
  refine hK _ _ trivial (fun _ => ?_)
  clear hK K
  try simp only [Act.put, List.setIfInBounds_toArray, List.set_cons_zero, List.set_cons_succ]
  refine wpAnyH_ready (rs := [7]) (by kernel_rfl) (by simp) ?_
  refine AllReadyH.cons rfl (fun K hK => ?_) AllReadyH.nil
  refine wp_store_whole 28 (.tmp 3) (.tmp 20) rfl w.heap.size (pcs num lsn s3) rfl rfl 28 (pcs num lsn s) HB4.out.row rfl pcs_one page_info ?_
  intro w5 hr hg
  have HR5 := Lib.hid hr
  have HB5 := Lib.hid (HB4.out.hb.grown hg HB4.out.hb.size (fun k hk => by have := Option.some.inj hk; omega))
  have HPO5 : Hid (PO w5 w.heap.size (shortS f) s3) := fun j hj => (HPO4.out j hj).kept hg (own_ne (HPO4.out j hj) HB4.out.row (by decide))
  clear hr hg HB4 HPO4
  refine hK _ _ trivial (fun _ => ?_)
  clear hK K
  try simp only [Act.put, List.setIfInBounds_toArray, List.set_cons_zero, List.set_cons_succ]
  refine wpAnyH_take (i := 8) (oi := ⟨some 2, _, _, _, _, _⟩) (v := ?v8k) rfl (by kernel_rfl) (by kernel_rfl) (by kernel_rfl) (fun _ _ _ h => h) (Or.inl ⟨by rfl, ?y8k⟩) trivial ?r8k
  case y8k =>
    rintro w' hSw
    go_simp
    try with_reducible rfl
  try simp only [Act.put, List.setIfInBounds_toArray, List.set_cons_zero, List.set_cons_succ]
  refine wpAnyH_done (by kernel_rfl) ?_ _
  have HSL5 : Hid (Sl w5 w5.heap.size A m c (l.take 60)) := ((Pg.Sl.pre HLS.out 60 m HM60.out).below HB5.out).more HB5.out.size
  have hlt5 := HR5.out.lt
  have HPG5 := Lib.hid HPO5.out.at_
  have hlen : (l.take 60).length ≤ 60 := by rw [List.length_take]; omega
  have HSH := Lib.hid (fun k hk => short_lens HPG5.out k hk)
  clear HPO5 HLS HX HM60
  generalize shortS f = g at HPG5
  generalize l.take 60 = b at HSL5 hlen
  have HST := Lib.hid (set_any num lsn g s3 slot A m c b 7 w5.heap.size w5 HPG5.out (Nat.le_refl _) HSH.out HSL5.out)
  rw [show ((7 : Nat) : Int) = 7 from rfl] at HST
  have ha0 : w5.cell? ⟨w.heap.size, 0, none⟩ = some (.int .i64 num) := HR5.out.cell 0
  have ha1 : w5.cell? ⟨w.heap.size, 1, none⟩ = some (.int .u64 (lsn : Int)) := HR5.out.cell 1
  have ha2 : w5.cell? ⟨w.heap.size, 2, none⟩ = some (.slice (s3.A 0) (s3.n 0) (s3.c 0)) := HR5.out.cell 2
  have ha3 : w5.cell? ⟨w.heap.size, 3, none⟩ = some (.slice (s3.A 1) (s3.n 1) (s3.c 1)) := HR5.out.cell 3
  have ha4 : w5.cell? ⟨w.heap.size, 4, none⟩ = some (.slice (s3.A 2) (s3.n 2) (s3.c 2)) := HR5.out.cell 4
  have ha5 : w5.cell? ⟨w.heap.size, 5, none⟩ = some (.slice (s3.A 3) (s3.n 3) (s3.c 3)) := HR5.out.cell 5
  unfold pcs at HST
  by_cases hE : setE (okN num s3.n) slot b.length = 0
  case neg =>
    have hD : setM num g (okN num s3.n) slot b 7 = badP (setE (okN num s3.n) slot b.length) := by unfold setM; rw [if_neg hE]
    rw [hD] at HST
    generalize setE (okN num s3.n) slot b.length = E at HST hE
    have hne : (E != 0) = true := by simp [hE]
    clear hD hE
    unfold badP at HST
    go_wp2_with fail
    refine HST.out.mono ?_
    rintro e w6 ⟨z, rfl, hpo6, hb6⟩
    have HB6 := Lib.hid (HB5.out.trans (hb6.mono HB5.out.size))
    have HPG6 := Lib.hid hpo6.at_
    clear hpo6 hb6 HST ha0 ha1 ha2 ha3 ha4 ha5
    unfold pcs
    go_upto_region 5 with fail
    have HX7 := Lib.hid (boxed w6 0 0 z)
    unfold pcs at HX7
    rw [show ((0 : Nat) : Int) = 0 from rfl] at HX7
    have HB7 := Lib.hid (HB6.out.trans (HX7.out.hb.mono HB6.out.size))
    have HPG7 := Lib.hid ((HPG6.out.below HX7.out.hb).more HX7.out.hb.size)
    generalize w6.alloc (.cells #[.int .i64 0, .int .u64 0, .slice (z.A 0) (z.n 0) (z.c 0), .slice (z.A 1) (z.n 1) (z.c 1), .slice (z.A 2) (z.n 2) (z.c 2), .slice (z.A 3) (z.n 3) (z.c 3)] 28) = w7 at HX7 HB7 HPG7 ⊢
    have HR7 := Lib.hid HX7.out.row
    clear HX7 HB6 HPG6
    generalize w6.heap.size = P at HR7 ⊢
    have ha0 : w7.cell? ⟨P, 0, none⟩ = some (.int .i64 0) := HR7.out.cell 0
    have ha1 : w7.cell? ⟨P, 1, none⟩ = some (.int .u64 0) := HR7.out.cell 1
    have ha2 : w7.cell? ⟨P, 2, none⟩ = some (.slice (z.A 0) (z.n 0) (z.c 0)) := HR7.out.cell 2
    have ha3 : w7.cell? ⟨P, 3, none⟩ = some (.slice (z.A 1) (z.n 1) (z.c 1)) := HR7.out.cell 3
    have ha4 : w7.cell? ⟨P, 4, none⟩ = some (.slice (z.A 2) (z.n 2) (z.c 2)) := HR7.out.cell 4
    have ha5 : w7.cell? ⟨P, 5, none⟩ = some (.slice (z.A 3) (z.n 3) (z.c 3)) := HR7.out.cell 5
    have HSM := Lib.hid (psame_any 0 0 z none_ 0 0 zs none_ w7.heap.size w7 HPG7.out (PO.nil w7 w7.heap.size).at_ (Nat.le_refl _) (fun k hk => by rw [← HPG7.out.lens k hk]; show 0 ≤ _; omega))
    rw [same_self] at HSM
    unfold pcs zs at HSM
    go_wp2_with fail
    refine HSM.out.mono ?_
    rintro e w8 ⟨rfl, hb8⟩
    have HB8 := Lib.hid (HB7.out.trans (hb8.mono HB7.out.size))
    clear hb8
    go_wp2
    go_ret
    exact ⟨rfl, HB8.out⟩
  obtain ⟨hK, h52, k, hk4, hs, hM⟩ := set_ok (num := num) (f := g) (l := 7) hE
  subst hs
  rw [hM] at HST
  have HKK := Lib.hid hK
  clear hK hE hM
  go_wp2_with fail
  refine HST.out.mono ?_
  rintro e w6 ⟨z, rfl, hpo6, hb6⟩
  have HR6 := Lib.hid (HR5.out.below hb6 hlt5)
  have HB6 := Lib.hid (HB5.out.trans (hb6.mono HB5.out.size))
  have HPA6 := Lib.hid ((HPG5.out.below hb6).more hb6.size)
  have HPB6 := Lib.hid hpo6.at_
  have HSL6 := Lib.hid ((HSL5.out.below hb6).more hb6.size)
  clear hpo6 hb6 HST ha0 ha1 ha2 ha3 ha4 ha5 HR5 HB5 HPG5 HSL5 hlt5
  unfold pcs
  go_upto_region 5 with fail
  have HX7 := Lib.hid (boxed w6 num 7 z)
  unfold pcs at HX7
  rw [show ((7 : Nat) : Int) = 7 from rfl] at HX7
  have HK7 : Hid (Kp w w6.heap.size num lsn g s3 (upd g k b) z A m c b (w6.alloc (.cells #[.int .i64 num, .int .u64 7, .slice (z.A 0) (z.n 0) (z.c 0), .slice (z.A 1) (z.n 1) (z.c 1), .slice (z.A 2) (z.n 2) (z.c 2), .slice (z.A 3) (z.n 3) (z.c 3)] 28))) :=
    ⟨HR6.out.alloc _, HX7.out.row, (HPA6.out.below HX7.out.hb).more HX7.out.hb.size, (HPB6.out.below HX7.out.hb).more HX7.out.hb.size, (HSL6.out.below HX7.out.hb).more HX7.out.hb.size, HB6.out.trans (HX7.out.hb.mono HB6.out.size)⟩
  generalize w6.alloc (.cells #[.int .i64 num, .int .u64 7, .slice (z.A 0) (z.n 0) (z.c 0), .slice (z.A 1) (z.n 1) (z.c 1), .slice (z.A 2) (z.n 2) (z.c 2), .slice (z.A 3) (z.n 3) (z.c 3)] 28) = w7 at HK7 ⊢
  clear HX7 HR6 HB6 HPA6 HPB6 HSL6
  generalize w6.heap.size = P at HK7 ⊢
  have HKZ : Hid (okN num z.n = true) := okN_iff.2 ⟨(okN_iff.1 HKK.out).1, fun j hj => by
    rw [← HK7.out.pb.lens j hj]
    by_cases hjk : j = k
    · rw [hjk, upd_at]; exact h52
    · rw [upd_not _ _ hjk, HK7.out.pa.lens j hj]
      exact (okN_iff.1 HKK.out).2 j hj⟩
  have HZL := Lib.hid (fun j (hj : j < 4) => Nat.le_trans ((okN_iff.1 HKZ.out).2 j hj) (by omega : 52 ≤ 100000))
  have HGQ : Hid (∀ (i : Int) (W : World), Kp w P num lsn g s3 (upd g k b) z A m c b W → 0 ≤ i ∧ i < 4 → Calls Try.prog 24 #[.agg #[.int .i64 num, .int .u64 7, .slice (z.A 0) (z.n 0) (z.c 0), .slice (z.A 1) (z.n 1) (z.c 1), .slice (z.A 2) (z.n 2) (z.c 2), .slice (z.A 3) (z.n 3) (z.c 3)], .int .i64 i] W (Gt W 0 (upd g k b i.toNat))) := by
    intro i W h hi
    have := get_any num 7 (upd g k b) z i W.heap.size W h.pb (Nat.le_refl _) HZL.out
    rw [HKZ.out, ask_in hi, if_pos rfl] at this
    exact this
  have HGP : Hid (∀ (i : Int) (W : World), Kp w P num lsn g s3 (upd g k b) z A m c b W → 0 ≤ i ∧ i < 4 → Calls Try.prog 24 #[.agg #[.int .i64 num, .int .u64 (lsn : Int), .slice (s3.A 0) (s3.n 0) (s3.c 0), .slice (s3.A 1) (s3.n 1) (s3.c 1), .slice (s3.A 2) (s3.n 2) (s3.c 2), .slice (s3.A 3) (s3.n 3) (s3.c 3)], .int .i64 i] W (Gt W 0 (g i.toNat))) := by
    intro i W h hi
    have := get_any num lsn g s3 i W.heap.size W h.pa (Nat.le_refl _) HSH.out
    rw [HKK.out, ask_in hi, if_pos rfl] at this
    exact this
  clear HKK HSH
  have hd0 : ((0 : Int) != 0) = false := by decide
  go_wp2_with fail
  go_loopw [6, 38] (fun t6 t38 wr => ∃ i : Nat, i ≤ 4 ∧ t38 = .int .i64 (i : Int) ∧ t6 = .bool false ∧ Hid (Kp w P num lsn g s3 (upd g k b) z A m c b wr)) (fun _ t38 _ => 4 - (intOf t38).toNat)
  case atStart => exact ⟨0, by omega, rfl, rfl, HK7⟩
  case round =>
    obtain ⟨i, hi4, rfl, rfl, HK⟩ := hrel
    clear HK7
    by_cases hlt : i < 4
    · have h1 : (i : Int) < 4 := by omega
      have h0 : 0 ≤ (i : Int) := by omega
      have ha0 : wr.cell? ⟨P, 0, none⟩ = some (.int .i64 num) := HK.out.rb.cell 0
      have ha1 : wr.cell? ⟨P, 1, none⟩ = some (.int .u64 7) := HK.out.rb.cell 1
      have ha2 : wr.cell? ⟨P, 2, none⟩ = some (.slice (z.A 0) (z.n 0) (z.c 0)) := HK.out.rb.cell 2
      have ha3 : wr.cell? ⟨P, 3, none⟩ = some (.slice (z.A 1) (z.n 1) (z.c 1)) := HK.out.rb.cell 3
      have ha4 : wr.cell? ⟨P, 4, none⟩ = some (.slice (z.A 2) (z.n 2) (z.c 2)) := HK.out.rb.cell 4
      have ha5 : wr.cell? ⟨P, 5, none⟩ = some (.slice (z.A 3) (z.n 3) (z.c 3)) := HK.out.rb.cell 5
      go_wp2_with fail
      refine (HGQ.out (i : Int) wr HK.out ⟨h0, h1⟩).mono ?_
      rw [Int.toNat_natCast]
      rintro e w8 ⟨v8, rfl, ho8, hb8⟩
      have HK8 := Lib.hid (HK.out.then hb8)
      obtain ⟨A8, n8, c8, rfl, hs8⟩ := ho8.sl
      have HS8 := Lib.hid hs8
      clear ho8 hb8 hs8 HK ha0 ha1 ha2 ha3 ha4 ha5
      have ha0 : w8.cell? ⟨w.heap.size, 0, none⟩ = some (.int .i64 num) := HK8.out.ra.cell 0
      have ha1 : w8.cell? ⟨w.heap.size, 1, none⟩ = some (.int .u64 (lsn : Int)) := HK8.out.ra.cell 1
      have ha2 : w8.cell? ⟨w.heap.size, 2, none⟩ = some (.slice (s3.A 0) (s3.n 0) (s3.c 0)) := HK8.out.ra.cell 2
      have ha3 : w8.cell? ⟨w.heap.size, 3, none⟩ = some (.slice (s3.A 1) (s3.n 1) (s3.c 1)) := HK8.out.ra.cell 3
      have ha4 : w8.cell? ⟨w.heap.size, 4, none⟩ = some (.slice (s3.A 2) (s3.n 2) (s3.c 2)) := HK8.out.ra.cell 4
      have ha5 : w8.cell? ⟨w.heap.size, 5, none⟩ = some (.slice (s3.A 3) (s3.n 3) (s3.c 3)) := HK8.out.ra.cell 5
      go_wp2_with fail
      refine (HGP.out (i : Int) w8 HK8.out ⟨h0, h1⟩).mono ?_
      rw [Int.toNat_natCast]
      rintro e w9 ⟨v9, rfl, ho9, hb9⟩
      have HK9 := Lib.hid (HK8.out.then hb9)
      have HS9 := Lib.hid ((HS8.out.below hb9).more hb9.size)
      obtain ⟨A9, n9, c9, rfl, hs9⟩ := ho9.sl
      have HT9 := Lib.hid hs9
      clear ho9 hb9 hs9 HK8 HS8 ha0 ha1 ha2 ha3 ha4 ha5
      by_cases hik : i = k
      · have hikb : ((i : Int) == (k : Int)) = true := by simp [hik]
        have HU : Hid (Sl w9 w9.heap.size A8 n8 c8 b) := (show Sl _ _ _ _ _ _ by have := HS9.out; rw [hik, upd_at] at this; exact this)
        clear hik HS9 HT9
        go_wp2_with fail
        refine (bytesEq_any A8 A n8 c8 m c b b w9.heap.size w9.heap.size w9 HU.out.len HK9.out.sb.len HU.out.bs HK9.out.sb.bs).mono ?_
        rintro e w10 ⟨rfl, rfl⟩
        rw [show decide (b = b) = true by simp]
        clear HU
        go_wp2
        go_roundw
        case rel => exact ⟨i + 1, by omega, by go_num, rfl, HK9⟩
        case measure => simp [intOf]; omega
      · have hikb : ((i : Int) == (k : Int)) = false := by simp; omega
        have HU : Hid (Sl w9 w9.heap.size A8 n8 c8 (g i)) := (show Sl _ _ _ _ _ _ by have := HS9.out; rw [upd_not _ _ hik] at this; exact this)
        clear hik HS9
        go_wp2_with fail
        refine (bytesEq_any A8 A9 n8 c8 n9 c9 (g i) (g i) w9.heap.size w9.heap.size w9 HU.out.len HT9.out.len HU.out.bs HT9.out.bs).mono ?_
        rintro e w10 ⟨rfl, rfl⟩
        rw [show decide (g i = g i) = true by simp]
        clear HU HT9
        go_wp2
        go_roundw
        case rel => exact ⟨i + 1, by omega, by go_num, rfl, HK9⟩
        case measure => simp [intOf]; omega
    · have h1 : ¬ (i : Int) < 4 := by omega
      have ha0 : wr.cell? ⟨P, 0, none⟩ = some (.int .i64 num) := HK.out.rb.cell 0
      have ha1 : wr.cell? ⟨P, 1, none⟩ = some (.int .u64 7) := HK.out.rb.cell 1
      have ha2 : wr.cell? ⟨P, 2, none⟩ = some (.slice (z.A 0) (z.n 0) (z.c 0)) := HK.out.rb.cell 2
      have ha3 : wr.cell? ⟨P, 3, none⟩ = some (.slice (z.A 1) (z.n 1) (z.c 1)) := HK.out.rb.cell 3
      have ha4 : wr.cell? ⟨P, 4, none⟩ = some (.slice (z.A 2) (z.n 2) (z.c 2)) := HK.out.rb.cell 4
      have ha5 : wr.cell? ⟨P, 5, none⟩ = some (.slice (z.A 3) (z.n 3) (z.c 3)) := HK.out.rb.cell 5
      have HFR := Lib.hid (free_any num 7 z wr)
      rw [HKZ.out] at HFR
      unfold pcs at HFR
      rw [show ((7 : Nat) : Int) = 7 from rfl] at HFR
      have HFC := Lib.hid (free_cases z.n)
      generalize freeN true z.n = F at HFR HFC
      go_wp2_with fail
      refine HFR.out.mono ?_
      rintro e w8 ⟨rfl, hb8⟩
      have HK8 := Lib.hid (HK.out.then hb8)
      clear hb8 HK HFR ha0 ha1 ha2 ha3 ha4 ha5
      rcases HFC.out with hF | ⟨j, hj, hz, hF⟩
      · subst hF
        clear HFC
        go_wp2
        go_ret
        exact ⟨rfl, HK8.out.hb⟩
      · subst hF
        clear HFC
        have hj0 : 0 ≤ (j : Int) := by omega
        have HZ := Lib.hid hz
        clear hz
        have ha0 : w8.cell? ⟨P, 0, none⟩ = some (.int .i64 num) := HK8.out.rb.cell 0
        have ha1 : w8.cell? ⟨P, 1, none⟩ = some (.int .u64 7) := HK8.out.rb.cell 1
        have ha2 : w8.cell? ⟨P, 2, none⟩ = some (.slice (z.A 0) (z.n 0) (z.c 0)) := HK8.out.rb.cell 2
        have ha3 : w8.cell? ⟨P, 3, none⟩ = some (.slice (z.A 1) (z.n 1) (z.c 1)) := HK8.out.rb.cell 3
        have ha4 : w8.cell? ⟨P, 4, none⟩ = some (.slice (z.A 2) (z.n 2) (z.c 2)) := HK8.out.rb.cell 4
        have ha5 : w8.cell? ⟨P, 5, none⟩ = some (.slice (z.A 3) (z.n 3) (z.c 3)) := HK8.out.rb.cell 5
        go_wp2_with fail
        refine (HGQ.out (j : Int) w8 HK8.out ⟨hj0, by omega⟩).mono ?_
        rw [Int.toNat_natCast]
        rintro e w9 ⟨v9, rfl, ho9, hb9⟩
        have HK9 := Lib.hid (HK8.out.then hb9)
        obtain ⟨A9, n9, c9, rfl, hs9⟩ := ho9.sl
        obtain rfl : n9 = 0 := by
          have h3 := hs9.len
          rw [HK9.out.pb.lens j hj, HZ.out] at h3
          omega
        clear ho9 hb9 hs9 HK8 ha0 ha1 ha2 ha3 ha4 ha5
        have hq0 : w9.cell? ⟨P, 0, none⟩ = some (.int .i64 num) := HK9.out.rb.cell 0
        have hq1 : w9.cell? ⟨P, 1, none⟩ = some (.int .u64 7) := HK9.out.rb.cell 1
        have hp0 : w9.cell? ⟨w.heap.size, 0, none⟩ = some (.int .i64 num) := HK9.out.ra.cell 0
        have hnn : (num == num) = true := by simp
        go_wp2
        go_ret
        exact ⟨rfl, HK9.out.hb⟩

theorem resT_PageKeeps : Try.f8.resultTypes = #[4] := by kernel_rfl
set_option maxRecDepth 100000 in
theorem lifted_PageKeeps (os : Os) (started : os.Started) (H : Type) (enc : TypeId × Value → H) :
    ReturnsInHanded {} Try.checked os 8 .any (Rows.pageKeepsSpec.pre6 enc Try.prog Try.f8 Rows.pageKeepsRow.domain false) (Rows.pageKeepsSpec.post enc Try.prog Try.f8 false true false false) := by
  refine Lift.law_lift (C := Try.checked) (s := Rows.pageKeepsSpec) (tb := 4) own laidOut started (by kernel_rfl) Try.func8
    (ChangeSpec.witness6 (enc := enc) (C := Try.checked) false ⟨#[], #[.agg #[.int .i64 0, .int .u64 0, .slice none 0 0, .slice none 0 0, .slice none 0 0, .slice none 0 0], .int .i64 0, .slice none 0 0], []⟩ 8 (by kernel_rfl) (by kernel_rfl) (by kernel_rfl) (by kernel_rfl))
    rfl resT_PageKeeps Try.underlying4 (by
      have hr : ∀ t ∈ ([28, 3, 25] : List TypeId), Try.prog.readableRec t = true ∧ t < Try.prog.types.size := by
        intro t ht
        simp only [List.mem_cons, List.not_mem_nil, or_false] at ht
        rcases ht with rfl | rfl | rfl <;> exact ⟨by kernel_rfl, of_decide_eq_true (by kernel_rfl)⟩
      intro t ht
      exact hr t (by
        have ht' : t ∈ Try.f8.params.toList := ht
        rw [Try.params8] at ht'
        exact ht')) ?_
  intro W base args ds p hval0 hA0 hsz0
  have hval : ∀ (j : Nat) t v, Try.f8.params[j]? = some t → args[j]? = some v → Value.okWide Try.prog W .any base t v := hval0
  have hA : DataW.TrodAll enc Try.prog W 0 (fun _ => true) true Try.f8.params.toList args.toList ds p := hA0
  have hsz : (DataW.weightsEach Try.prog Try.f8.params.toList ds).all (· ≤ reachBytes) = true := hsz0
  clear hval0 hA0 hsz0
  rw [Try.params8] at hA hval hsz
  obtain ⟨v0, vs0, d0, ds0, p0, q0, hargs, rfl, rfl, h0, r0⟩ := trodAll_cons hA
  obtain ⟨v1, vs1, d1, ds1, p1, q1, rfl, rfl, rfl, h1, r1⟩ := trodAll_cons r0
  obtain ⟨v2, vs2, d2, ds2, p2, q2, rfl, rfl, rfl, h2, r2⟩ := trodAll_cons r1
  obtain ⟨rfl, rfl, rfl⟩ := trodAll_nil r2
  obtain rfl : args = #[v0, v1, v2] := by cases args; simp_all
  obtain ⟨cs0, rfl, _⟩ := okWide_struct Try.underlying28 (hval 0 28 v0 rfl rfl)
  obtain ⟨fuel0, hf0⟩ := h0
  obtain ⟨o0, hcs0, hok0⟩ := open_page hf0 (by rw [List.all_eq_true] at hsz ⊢; intro z hz; exact hsz z (DataW.weights_mem_each (j := 0) (t := 28) (d := d0) rfl rfl z hz))
  have hv0 : Value.agg cs0 = .agg o0.cells.toArray := by
    have : cs0.toList = o0.cells := by simpa [Value.cells] using hcs0
    rw [← this]
  rw [hv0]
  obtain ⟨a1, rfl, rfl, rfl, w1⟩ := open_int Try.underlying3 (hval 1 3 v1 rfl rfl) h1
  obtain ⟨A2, len2, cap2, l2, rfl, hl2, hlc2, hcm2, hn2, hb2, hd2⟩ := Lift.open_bytes Try.underlying25 Try.underlying5 (by kernel_rfl) (hval 2 25 v2 rfl rfl) h2
  have hc2 : cap2 ≤ 140737488351232 := Lift.bytes_reach bytes_u8 hsz (j := 2) rfl rfl Try.underlying25 hd2
  exact ⟨rfl, keep_walk o0 a1 A2 len2 cap2 l2 W hok0 ⟨hl2, hlc2, hcm2, hn2, hb2⟩ hc2⟩

theorem proved_PageKeeps : Rows.PageKeepsSaid :=
  OpenClaim.holds_of_wide 8 Try.f8 rfl rfl rfl rfl rfl rfl rfl ⟨rfl, rfl, rfl, rfl, rfl⟩ rfl rfl rfl rfl rfl (by kernel_rfl) Try.func8 (by kernel_rfl)
    (of_decide_eq_true (by kernel_rfl)) (by unfold Func.isWrapper; first | (rw [if_pos (by decide +kernel)]; kernel_rfl) | (rw [if_neg (by decide +kernel)]; exact ⟨rfl, rfl⟩))
    (fun os started H enc _ => lifted_PageKeeps os started H enc)
end Go.Proofs.Yteoopijcclfdcaa.PgKeep
