/-
  The reference's bytes of a page.
-/
import Derived.Test.YtnljhopikjkflaaPgI
import Derived.Test.YtnljhopikjkflaaPgC
import Derived.Test.YtnljhopikjkflaaSum3
namespace Go.Proofs.Ytnljhopikjkflaa.Pg
set_option maxRecDepth 100000
open Go.RowKit Go.Proofs.Ytnljhopikjkflaa.Wd Go.Proofs.Ytnljhopikjkflaa.Oct Go.Proofs.Ytnljhopikjkflaa.Dsk Go.Proofs.Ytnljhopikjkflaa.Rec Go.Proofs.Ytnljhopikjkflaa.Sum Go.Proofs.Ytnljhopikjkflaa.Sm

theorem hi_take (n x : Nat) : ∀ j, j < n → (hi n x).take (j + 1) = (hi n x).take j ++ [UInt8.ofNat (x / 256 ^ (n - 1 - j))] := by
  induction n with
  | zero => intro j hj; omega
  | succ n ih =>
    intro j hj
    cases j with
    | zero => simp [hi]
    | succ j =>
      have := ih j (by omega)
      rw [hi, List.take_succ_cons, this, List.take_succ_cons, List.cons_append, show n + 1 - 1 - (j + 1) = n - 1 - j from by omega]
theorem shr_byte (x p : Nat) : ((UInt8.ofNat (x / 256 ^ p)).toNat : Int) = (x : Int) / 2 ^ (8 * p) % 256 := by
  have e : (256 : Nat) ^ p = 2 ^ (8 * p) := by rw [Nat.pow_mul]
  rw [e]
  simp
set_option maxHeartbeats 1000000 in
theorem rhigh_any (x n : Nat) (w : World) (hn : 0 < n) (hn8 : n ≤ 8) :
    Calls Try.prog 70 #[.int .u64 (x : Int), .int .i64 (n : Int)] w (Grew w w.heap.size (hi n x)) := by
  obtain ⟨i0, hi0, hz0, hz1, hz2⟩ := info_parts info5
  go_enter Try.func70, Try.ntmps70
  go_wp2_with fail
  go_loopw [5, 6] (fun t5 t6 wr => ∃ (j : Nat) (q : Int) (v : Value), j ≤ n ∧ t5 = v ∧ t6 = .int .i64 q ∧ Hid (q = (n : Int) - 1 - j) ∧ Hid (Own wr w.heap.size v ((hi n x).take j) ∧ Below w.heap.size w wr)) (fun _ t6 _ => (intOf t6 + 1).toNat)
  case atStart => exact ⟨0, (n : Int) - 1, _, by omega, rfl, rfl, (show _ = _ by simp), ⟨World.ownsRow_nil _ _ _ _, Below.refl _ _⟩⟩
  case round =>
    obtain ⟨j, q, v, hj, rfl, rfl, HQ, HO⟩ := hrel
    by_cases hlt : j < n
    · obtain ⟨p, hp⟩ : ∃ p : Nat, q = (p : Int) := ⟨q.toNat, by have := HQ.out; omega⟩
      subst hp
      have hp8 : p < 8 := by have := HQ.out; omega
      have HPE : Hid (n - 1 - j = p) := (show _ = _ by have := HQ.out; omega)
      have hge : 0 ≤ (p : Int) := by omega
      have hpx : ((UInt8.ofNat (x / 256 ^ p)).toNat : Int) = (x : Int) / 2 ^ (8 * p) % 256 := shr_byte x p
      obtain ⟨l, hl⟩ : ∃ l, l = (hi n x).take j := ⟨_, rfl⟩
      have hlj : l.length = j := by rw [hl, List.length_take, hi_length]; omega
      have HNX : Hid ((hi n x).take (j + 1) = l ++ [UInt8.ofNat (x / 256 ^ p)]) := (show _ = _ by rw [hi_take n x j hlt, HPE.out, hl])
      rw [← hl] at HO
      clear hl
      generalize hub : UInt8.ofNat (x / 256 ^ p) = ub at hpx HNX
      clear hub
      have HOO := Lib.hid HO.out.1
      have HOB := Lib.hid HO.out.2
      clear HO
      have HRB : Hid (Row (wr.alloc (.cells #[.int .u8 ((x : Int) / 2 ^ (8 * p) % 256)] 5)) wr.heap.size 5 (bv [ub])) := (show Row _ _ _ _ by
        rw [show bv [ub] = [Value.int .u8 ((x : Int) / 2 ^ (8 * p) % 256)] from by rw [← hpx]; rfl]
        exact Row.new wr _ _)
      have hj8 : j ≤ 8 := by omega
      clear hpx
      go_upto_region 4 with (first
        | (at_builtin; (refine wpList_append_bs (o := ⟨some 20, _, _, _, _, _⟩) rfl (.tmp 13) (.tmp 19) 25 rfl w.heap.size 5 i0 (.int .u8 0) Try.underlying25 hi0 hz0 hz1 hz2 rfl u5 l.length (bv l) rfl (HOO.out.below ((Below.refl _ _).alloc (Nat.le_refl _) _)) (some ⟨wr.heap.size, 0, none⟩) 1 1 [ub] rfl rfl (wr.heap.size + 1) (Row.bs HRB.out (Nat.lt_succ_self _)) (fun h => by cases h) (by omega) (by have := HOB.out.size; simp; omega) ?_; intro v2 w2 hown2 hg2)))
      have HO2 : Hid (Own w2 w.heap.size v2 (l ++ [ub])) := Lib.hid (show Own w2 w.heap.size v2 (l ++ [ub]) from (by unfold Own; rw [List.length_append, bv_append]; exact hown2))
      have HB2 := Lib.hid (HOB.out.trans (((Below.refl w.heap.size wr).alloc (show w.heap.size ≤ wr.heap.size from HOB.out.size) _).trans (below_own hg2 (fun k hk => (World.ownsRow.lt HOO.out k hk).1) (by have := HOB.out.size; simp; omega))))
      clear hown2 hg2 HRB HOO HOB
      go_wp2
      go_roundw
      case rel => exact ⟨j + 1, (p : Int) - 1, v2, by omega, rfl, by go_num, (show _ = _ by have := HQ.out; omega), ⟨by rw [HNX.out]; exact HO2.out, HB2.out⟩⟩
      case measure => simp [intOf] <;> omega
    · obtain rfl : j = n := by omega
      have hq : q = -1 := by have := HQ.out; omega
      subst hq
      have HV : Hid (Own wr w.heap.size u5 (hi j x)) := (show Own _ _ _ _ by have := HO.out.1; rw [List.take_of_length_le (by rw [hi_length]; omega)] at this; exact this)
      have HBE := Lib.hid HO.out.2
      clear HO
      go_wp2
      go_ret
      exact ⟨_, rfl, HV.out, HBE.out⟩
theorem rhigh2 (x : Nat) (w : World) : Calls Try.prog 70 #[.int .u64 (x : Int), .int .i64 2] w (Grew w w.heap.size (hi 2 x)) := by
  have h := rhigh_any x 2 w (by omega) (by omega)
  rw [show ((2 : Nat) : Int) = 2 from rfl] at h
  exact h
theorem rhigh4 (x : Nat) (w : World) : Calls Try.prog 70 #[.int .u64 (x : Int), .int .i64 4] w (Grew w w.heap.size (hi 4 x)) := by
  have h := rhigh_any x 4 w (by omega) (by omega)
  rw [show ((4 : Nat) : Int) = 4 from rfl] at h
  exact h
theorem rhigh8 (x : Nat) (w : World) : Calls Try.prog 70 #[.int .u64 (x : Int), .int .i64 8] w (Grew w w.heap.size (hi 8 x)) := by
  have h := rhigh_any x 8 w (by omega) (by omega)
  rw [show ((8 : Nat) : Int) = 8 from rfl] at h
  exact h
theorem wp_append_a {P : Program} {w : World} {o : Oper} {a : Act} {K : Act → World → Prop} {Q : Exit → Act → World → Prop} (s x : Operand) (t : TypeId)
    (ho : o.op = .call { callee := .builtin .append, args := #[s, x], argTypes := #[t, t] })
    (base : Nat) (e : TypeId) (i : TypeInfo) (z : Value) (ht : P.underlying t = some (.slice e)) (hi : P.info? e = some i) (hz : i.zero = some z) (hsize : i.size = 1) (hby : i.bytes = 1) (hzs : z.cells.size = 1)
    (v : Value) (n : Nat) (xs : List Value) (hs : a.eval s = v) (hown : w.ownsRow base e 1 v n xs)
    (ad : Addr) (m c : Nat) (l : List UInt8) (hx : a.eval x = .slice (some ad) m c) (hl : l.length = m) (B : Nat) (hr : Bs w B (some ad) l)
    (h63 : n + m ≤ 140737488355328) (hbase : base ≤ w.heap.size)
    (h : ∀ v' w', w'.ownsRow base e 1 v' (n + m) (xs ++ bv l) → w.grownBy w' v.ownBlock → K (a.put o.dst v') w') : o.wp P a w K Q := by
  refine wp_append_own w s x t ho base e i z 1 1 ht hi hz hsize hby hzs (by omega) v n xs hs hown ad m c (bv l) hx (by rw [bv_length]; omega) (fun j u hu => ?_) bv_one (by unfold maxLen; omega) (by omega) hbase fun v' w' h2 h3 _ => h v' w' h2 h3
  have hj : j < l.length := by simpa [bv_length] using (List.getElem?_eq_some_iff.1 hu).1
  obtain ⟨b, o, e, _, hc⟩ := hr (by omega)
  obtain rfl := Option.some.inj e
  rw [Addr.add_lit, hc j hj, ← hu]
  simp [bv, hj]
set_option maxHeartbeats 4000000 in
theorem rbytes_any (m lsn : Nat) (sl : Nat → List UInt8) (s : PS) (B : Nat) (w : World) (h : PgAt w B sl s) (hB : B ≤ w.heap.size) (hok : okN (m : Int) s.n = true) :
    Calls Try.prog 53 #[.agg (pcs (m : Int) lsn s).toArray] w (Grew w w.heap.size (pageB (m : Int) lsn sl)) := by
  have mixed : Try.prog.follows .mixedOrders = true := by kernel_rfl
  obtain ⟨i0, hi0, hz0, hz1, hz2⟩ := info_parts info5
  have hok2 := okN_iff.1 hok
  have hm32 : m < 32 := by omega
  have hw64 : IntKind.u64.wrap (m : Int) = (m : Int) := by simp [IntKind.wrap, IntKind.signed, IntKind.bits]; omega
  have HN := Lib.hid hok2.2
  have HP := Lib.hid h
  have HSL := Lib.hid (fun k (hk : k < 4) => (show (sl k).length ≤ 52 by rw [h.lens k hk]; exact hok2.2 k hk))
  have HIX := Lib.hid (idx_any s)
  unfold scs at HIX
  clear h hok hok2
  unfold pcs
  go_enter Try.func53, Try.ntmps53
  go_upto_region 1 with fail
  have HB := Lib.hid (boxed w (m : Int) lsn s)
  unfold pcs at HB
  generalize w.alloc (.cells #[.int .i64 (m : Int), .int .u64 (lsn : Int), .slice (s.A 0) (s.n 0) (s.c 0), .slice (s.A 1) (s.n 1) (s.c 1), .slice (s.A 2) (s.n 2) (s.c 2), .slice (s.A 3) (s.n 3) (s.c 3)] 48) = w1 at HB ⊢
  refine wp_region_held_drew (S := fun w' => Row w' w.heap.size 48 (pcs (m : Int) lsn s)) (by kernel_rfl) HB.out.row (fun hHeld => ?_)
  have HBd := Lib.hid (HB.out.then (Oct.below_still (Below.refl _ _) ⟨1, rfl⟩ : Below w1.heap.size w1 w1.drew))
  clear HB
  generalize w1.drew = wd at *
  refine wpAnyH_take (i := 0) (oi := ⟨some 6, _, _, _, _, _⟩) (v := ?v0p) rfl (by kernel_rfl) (by kernel_rfl) (by kernel_rfl) (fun _ _ _ h => h) (Or.inl ⟨by rfl, ?y0p⟩) hHeld ?r0p
  case y0p =>
    rintro w' hSw
    go_simp
    try with_reducible rfl
  try simp only [Act.put, List.setIfInBounds_toArray, List.set_cons_zero, List.set_cons_succ]
  refine wpAnyH_take (i := 1) (oi := ⟨some 7, _, _, _, _, _⟩) (v := ?v1p) rfl (by kernel_rfl) (by kernel_rfl) (by kernel_rfl) (fun _ _ _ h => h) (Or.inl ⟨by rfl, ?y1p⟩) hHeld ?r1p
  case y1p =>
    rintro w' hSw
    have h0 : w'.cell? ⟨w.heap.size, 0, none⟩ = some (.int .i64 (m : Int)) := hSw.cell 0
    go_simp
    try with_reducible rfl
  try simp only [Act.put, List.setIfInBounds_toArray, List.set_cons_zero, List.set_cons_succ]
  refine wpAnyH_take (i := 2) (oi := ⟨some 8, _, _, _, _, _⟩) (v := ?v2p) rfl (by kernel_rfl) (by kernel_rfl) (by kernel_rfl) (fun _ _ _ h => h) (Or.inl ⟨by rfl, ?y2p⟩) hHeld ?r2p
  case y2p =>
    rintro w' hSw
    go_simp
    try with_reducible rfl
  try simp only [Act.put, List.setIfInBounds_toArray, List.set_cons_zero, List.set_cons_succ]
  refine wpAnyH_take (i := 4) (oi := ⟨some 10, _, _, _, _, _⟩) (v := ?v4p) rfl (by kernel_rfl) (by kernel_rfl) (by kernel_rfl) (fun _ _ _ h => h) (Or.inl ⟨by rfl, ?y4p⟩) hHeld ?r4p
  case y4p =>
    rintro w' hSw
    go_simp
    try with_reducible rfl
  try simp only [Act.put, List.setIfInBounds_toArray, List.set_cons_zero, List.set_cons_succ]
  refine wpAnyH_take (i := 5) (oi := ⟨some 11, _, _, _, _, _⟩) (v := ?v5p) rfl (by kernel_rfl) (by kernel_rfl) (by kernel_rfl) (fun _ _ _ h => h) (Or.inl ⟨by rfl, ?y5p⟩) hHeld ?r5p
  case y5p =>
    rintro w' hSw
    have h0 : w'.cell? ⟨w.heap.size, 1, none⟩ = some (.int .u64 (lsn : Int)) := hSw.cell 1
    go_simp
    try with_reducible rfl
  try simp only [Act.put, List.setIfInBounds_toArray, List.set_cons_zero, List.set_cons_succ]
  refine wpAnyH_ready (rs := [3]) (by kernel_rfl) (by simp) ?_
  refine AllReadyH.cons rfl (fun K hK => ?_) AllReadyH.nil
  go_simp

  refine (rhigh2 m wd).mono ?_
  rintro e w2 ⟨v2, rfl, ho2, hb2⟩
  have HB2 := Lib.hid (HBd.out.then hb2)
  have HO2 := Lib.hid (ho2.mono HBd.out.sz)
  clear hb2 ho2 HBd
  refine hK _ _ HB2.out.row (fun _ => ?_)
  clear hK K
  try simp only [Act.put, List.setIfInBounds_toArray, List.set_cons_zero, List.set_cons_succ]
  refine wpAnyH_ready (rs := [6]) (by kernel_rfl) (by simp) ?_
  refine AllReadyH.cons rfl (fun K hK => ?_) AllReadyH.nil
  go_simp
  refine (rhigh8 lsn w2).mono ?_
  rintro e w3 ⟨v3, rfl, ho3, hb3⟩
  have HB3 := Lib.hid (HB2.out.then hb3)
  have HO3 := Lib.hid (HO2.out.below hb3)
  obtain ⟨A3, n3, c3, rfl, hs3⟩ := ho3.sl
  have HS3 := Lib.hid hs3
  obtain ⟨ad3, rfl⟩ : ∃ ad, A3 = some ad := by
    obtain ⟨b, o, e, _⟩ := hs3.bs (by simp [hi_length])
    exact ⟨_, e⟩
  clear hb3 ho3 hs3 HB2 HO2
  refine hK _ _ HB3.out.row (fun _ => ?_)
  clear hK K
  try simp only [Act.put, List.setIfInBounds_toArray, List.set_cons_zero, List.set_cons_succ]
  refine wpAnyH_ready (rs := [7]) (by kernel_rfl) (by simp) ?_
  refine AllReadyH.cons rfl (fun K hK => ?_) AllReadyH.nil
  rw [if_pos (by rfl)]
  refine wp_append_a (.tmp 9) (.tmp 12) 25 rfl (w.heap.size + 1) 5 i0 (.int .u8 0) Try.underlying25 hi0 hz0 hz1 hz2 rfl v2 _ (bv (hi 2 m)) rfl HO3.out ad3 n3 c3 (hi 8 lsn) rfl HS3.out.len w3.heap.size HS3.out.bs (by have := HS3.out.len; simp [hi_length] at *; omega) HB3.out.sz ?_
  intro v4 w4 hown4 hg4
  have hbo4 := below_own hg4 (fun k hk => (World.ownsRow.lt HO3.out k hk).1) HB3.out.sz
  have HB4 : Hid (Bx w (m : Int) lsn s w4) := ⟨HB3.out.row.below hbo4 (Nat.lt_succ_self _), HB3.out.hb.trans (hbo4.mono (Nat.le_succ _)), Nat.le_trans HB3.out.sz hbo4.size⟩
  clear hbo4
  have HO4 : Hid (Own w4 (w.heap.size + 1) v4 (headB (m : Int) lsn ++ slotsB sl 0)) := (show Own _ _ _ _ by
    unfold Own
    rw [show headB (m : Int) lsn ++ slotsB sl 0 = hi 2 m ++ hi 8 lsn by simp [headB, slotsB], bv_append, List.length_append]
    rw [HS3.out.len]
    exact hown4)
  clear hown4 hg4 HB3 HO3 HS3
  refine hK _ _ HB4.out.row (fun _ => ?_)
  clear hK K
  try simp only [Act.put, List.setIfInBounds_toArray, List.set_cons_zero, List.set_cons_succ]
  refine wpAnyH_take (i := 8) (oi := ⟨some 3, _, _, _, _, _⟩) (v := ?v8p) rfl (by kernel_rfl) (by kernel_rfl) (by kernel_rfl) (fun _ _ _ h => h) (Or.inl ⟨by rfl, ?y8p⟩) HB4.out.row ?r8p
  case y8p =>
    rintro w' hSw
    go_simp
    try with_reducible rfl
  try simp only [Act.put, List.setIfInBounds_toArray, List.set_cons_zero, List.set_cons_succ]
  refine wpAnyH_done (by kernel_rfl) ?_ _
  have HO3 := Lib.hid HO4.out
  have HB3 := Lib.hid HB4.out
  clear HO4 HB4
  have ha0 : w4.cell? ⟨w.heap.size, 2, none⟩ = some (.slice (s.A 0) (s.n 0) (s.c 0)) := HB3.out.row.cell 2
  have ha1 : w4.cell? ⟨w.heap.size, 3, none⟩ = some (.slice (s.A 1) (s.n 1) (s.c 1)) := HB3.out.row.cell 3
  have ha2 : w4.cell? ⟨w.heap.size, 4, none⟩ = some (.slice (s.A 2) (s.n 2) (s.c 2)) := HB3.out.row.cell 4
  have ha3 : w4.cell? ⟨w.heap.size, 5, none⟩ = some (.slice (s.A 3) (s.n 3) (s.c 3)) := HB3.out.row.cell 5
  go_wp2_with fail
  clear ha0 ha1 ha2 ha3
  go_loopw [3, 16] (fun t3 t16 wr => ∃ (k : Nat) (v : Value), k ≤ 4 ∧ t3 = v ∧ t16 = .int .i64 (k : Int) ∧ Hid (Own wr (w.heap.size + 1) v (headB (m : Int) lsn ++ slotsB sl k) ∧ Below w.heap.size w wr ∧ w.heap.size + 1 ≤ wr.heap.size)) (fun _ t16 _ => 4 - (intOf t16).toNat)
  case atStart => exact ⟨0, _, by omega, rfl, rfl, ⟨HO3.out, HB3.out.hb, HB3.out.sz⟩⟩
  case round =>
    obtain ⟨k, v, hk, rfl, rfl, HV⟩ := hrel
    obtain ⟨Av, nv, cv, rfl, h1, h2, h3, h4, h5⟩ := HV.out.1.open
    have HVL := Lib.hid h1
    have HLN := Lib.hid (slotsB_len HSL.out k hk)
    have hnv : nv = 10 + 53 * k := by have := HVL.out; simp [headB, hi_length, HLN.out] at this; omega
    have HNV := Lib.hid hnv
    have hnv1 : nv ≤ 222 := by omega
    clear h1 h3 h4 h5 hnv HB3 HO3
    by_cases hlt : k < 4
    · have h1 : (k : Int) < 4 := by omega
      have hix := HIX.out k hlt
      have hnk := HN.out k hlt
      have hnk2 : (s.n k : Int) % 256 = (s.n k : Int) := by omega
      have HSK := Lib.hid ((HP.out k hlt).below (HV.out.2.1.mono hB))
      have HUB := Lib.hid (ub_cell (s.n k) hnk wr)
      obtain ⟨L, hL⟩ : ∃ L, L = headB (m : Int) lsn ++ slotsB sl k := ⟨_, rfl⟩
      have HL := Lib.hid hL
      have HOV : Hid (Own wr (w.heap.size + 1) (.slice Av nv cv) L) := (show Own _ _ _ _ by rw [hL]; exact HV.out.1)
      have HLL : Hid (L.length = nv) := (show _ = _ by rw [hL]; exact HVL.out)
      have HVB := Lib.hid HV.out.2
      clear hL HV
      go_upto_region 6 with (first
        | (at_builtin; (refine wpList_append_bs (o := ⟨some 24, _, _, _, _, _⟩) rfl (.tmp 19) (.tmp 23) 25 rfl (w.heap.size + 1) 5 i0 (.int .u8 0) Try.underlying25 hi0 hz0 hz1 hz2 rfl (.slice Av nv cv) L.length (bv L) rfl (World.ownsRow.alloc HOV.out _) (some ⟨wr.heap.size, 0, none⟩) 1 1 [ub (s.n k)] rfl rfl (wr.heap.size + 1) HUB.out (fun hh => by cases hh) (by have := HLL.out; omega) (by have := HVB.out.2; simp; omega) ?_; intro v2 w2 hown2 hg2; have HG2 := Lib.hid (below_own hg2 (fun k hk => (World.ownsRow.lt HOV.out k hk).1) (by have := HVB.out.2; simp; omega)); have HO2 := Lib.hid hown2; have HS2 := Lib.hid (show w.heap.size + 1 ≤ w2.heap.size from Nat.le_trans (by have := HVB.out.2; simp; omega) HG2.out.size); clear hown2 hg2))
        | (at_builtin; refine wpList_append_bs (o := ⟨some 26, _, _, _, _, _⟩) rfl (.tmp 24) (.tmp 25) 25 rfl (w.heap.size + 1) 5 i0 (.int .u8 0) Try.underlying25 hi0 hz0 hz1 hz2 rfl v2 (L.length + 1) (bv L ++ bv [ub (s.n k)]) rfl HO2.out (s.A k) (s.n k) (s.c k) (sl k) rfl HSK.out.len B (((HSK.out.bs.alloc (Nat.le_trans hB HVB.out.1.size) _)).below (HG2.out.mono (by omega))) HSK.out.nil (by have := HLL.out; omega) HS2.out ?_; intro v3 w3 hown3 hg3; have HG3 := Lib.hid (below_own hg3 (fun k hk => (World.ownsRow.lt HO2.out k hk).1) HS2.out); have HO3 := Lib.hid hown3; clear hown3 hg3))
      have HO4 : Hid (Own w3 (w.heap.size + 1) v3 (L ++ (ub (s.n k) :: sl k))) := by
        have h := HO3.out
        show Own _ _ _ _
        unfold Own
        rw [show (L ++ (ub (s.n k) :: sl k)).length = L.length + 1 + s.n k from by have := HSK.out.len; simp; omega]
        simpa [bv] using h
      have HS3 := Lib.hid (Nat.le_trans HS2.out HG3.out.size)
      clear HO2 HO3
      obtain ⟨q, hq, hqn⟩ : ∃ q : Nat, 52 - (s.n k : Int) = (q : Int) ∧ q = 52 - s.n k := ⟨52 - s.n k, by omega, rfl⟩
      have HQN := Lib.hid hqn
      have hq52 : q ≤ 52 := by omega
      clear hqn
      go_upto_region 7 with (first
        | (at_builtin; (refine wpList_append_noughts (o := ⟨some 31, _, _, _, _, _⟩) rfl (.tmp 27) (.tmp 30) 25 3 rfl (w.heap.size + 1) 5 i0 Try.underlying25 Try.underlying3 hi0 hz0 hz1 hz2 v3 (L ++ (ub (s.n k) :: sl k)).length (bv (L ++ (ub (s.n k) :: sl k))) rfl HO4.out q rfl (by have := HLL.out; have := HSK.out.len; simp; omega) HS3.out ?_; intro v5 w5 hown5 hg5; have HG5 := Lib.hid (below_own hg5 (fun k hk => (World.ownsRow.lt HO4.out k hk).1) HS3.out); have HO5 := Lib.hid hown5; clear hown5 hg5)))
      have HV5 : Hid (Own w5 (w.heap.size + 1) v5 (headB (m : Int) lsn ++ slotsB sl (k + 1)) ∧ Below w.heap.size w w5 ∧ w.heap.size + 1 ≤ w5.heap.size) := by
        refine ⟨?_, ?_, Nat.le_trans HS3.out HG5.out.size⟩
        · have e : L ++ (ub (s.n k) :: sl k) ++ List.replicate q 0 = headB (m : Int) lsn ++ slotsB sl (k + 1) := by
            rw [HL.out, HQN.out, ← HSK.out.len]
            simp [slotsB, slotB]
          rw [← e]
          have h := HO5.out
          unfold Own
          rw [show (L ++ (ub (s.n k) :: sl k) ++ List.replicate q (0 : UInt8)).length = (L ++ (ub (s.n k) :: sl k)).length + q from by rw [List.length_append, List.length_replicate], bv_append, ← bv_zero]
          exact h
        · exact ((HVB.out.1.alloc HVB.out.1.size _).trans (HG2.out.mono (by omega))).trans ((HG3.out.mono (by omega)).trans (HG5.out.mono (by omega)))
      clear HO5 HG5 HO4 HG2 HG3 HS2 HS3 HVB HOV HLL HUB HSK hix hq HQN hq52
      go_wp2
      go_roundw
      case rel => exact ⟨k + 1, _, by omega, rfl, by go_num, HV5.out⟩
      case measure => simp [intOf]; omega
    · obtain rfl : k = 4 := by omega
      have hn222 : nv = 222 := by have := HNV.out; omega
      subst hn222
      clear HNV hlt
      have HV1 := Lib.hid HV.out.1
      have HVL1 : Hid ((headB (m : Int) lsn ++ slotsB sl 4).length ≤ 222) := (show _ ≤ _ by rw [HVL.out]; exact Nat.le_refl _)
      go_upto_region 9 with (first
        | (at_builtin; (refine wpList_append_noughts (o := ⟨some 34, _, _, _, _, _⟩) rfl (.tmp 33) (.const (.int .i64 30)) 25 3 rfl (w.heap.size + 1) 5 i0 Try.underlying25 Try.underlying3 hi0 hz0 hz1 hz2 (.slice Av 222 cv) (headB (m : Int) lsn ++ slotsB sl 4).length (bv (headB (m : Int) lsn ++ slotsB sl 4)) rfl HV1.out 30 rfl (by have := HVL1.out; omega) HV.out.2.2 ?_; intro v6 w6 hown6 hg6; have HG6 := Lib.hid (below_own hg6 (fun k hk => (World.ownsRow.lt HV1.out k hk).1) HV.out.2.2); have HO6' := Lib.hid hown6; clear hown6 hg6)))
      have HO6 : Hid (Own w6 (w.heap.size + 1) v6 (bodyB (m : Int) lsn sl)) := (show Own _ _ _ _ by
        have h := HO6'.out
        unfold Own bodyB
        rw [show (headB (m : Int) lsn ++ slotsB sl 4 ++ List.replicate 30 (0 : UInt8)).length = (headB (m : Int) lsn ++ slotsB sl 4).length + 30 from by rw [List.length_append, List.length_replicate], bv_append, ← bv_zero]
        exact h)
      have HB6 := Lib.hid (HV.out.2.1.trans (HG6.out.mono (by omega)))
      have HSZ6 : Hid (w.heap.size + 1 ≤ w6.heap.size) := Nat.le_trans HV.out.2.2 HG6.out.size
      have HLB := Lib.hid (bodyB_len (num := (m : Int)) (lsn := lsn) HSL.out)
      obtain ⟨BB, hBB⟩ : ∃ BB, BB = bodyB (m : Int) lsn sl := ⟨_, rfl⟩
      rw [← hBB] at HO6 HLB
      have HPB : Hid (pageB (m : Int) lsn sl = BB ++ hi 4 (sm 2197175160 4 BB)) := (show _ = _ by rw [hBB]; rfl)
      clear hBB HO6' HG6 HV HV1 HVL1 HVL HLN
      obtain ⟨A6, n6, c6, rfl, hs6⟩ := HO6.out.sl
      have HS6 := Lib.hid hs6
      have hn6 : n6 = 252 := by have := HS6.out.len; have := HLB.out; omega
      subst hn6
      have hsm : sm 2197175160 4 BB < 256 ^ 4 := sm_lt poly32 BB
      have HSM := Lib.hid hsm
      clear hs6 hsm
      go_wp2_with fail
      refine (ref32_any A6 BB c6 252 w6 HS6.out.len (by unfold maxLen; omega) w6.heap.size HS6.out.bs).mono ?_
      rintro e w7 ⟨rfl, rfl⟩
      have HX7 : Hid (sm 2197175160 4 BB < 18446744073709551616) := (show _ < _ by have := HSM.out; omega)
      generalize sm 2197175160 4 BB = x at HX7 HPB HSM ⊢
      have hw64x : IntKind.u64.wrap (x : Int) = (x : Int) := u64_wrap (Int.natCast_nonneg _) (by have := HX7.out; omega)
      go_wp2_with fail
      refine (rhigh4 x w6).mono ?_
      rintro e w8 ⟨v8, rfl, ho8, hb8⟩
      have HO8 := Lib.hid (HO6.out.below hb8)
      obtain ⟨A8, n8, c8, rfl, hs8⟩ := ho8.sl
      have HS8 := Lib.hid hs8
      have HBE := Lib.hid hb8
      clear ho8 hb8 hs8
      go_wp2_with (first
        | (at_builtin; refine wpList_append_bs (o := ⟨some 39, _, _, _, _, _⟩) rfl (.tmp 35) (.tmp 38) 25 rfl (w.heap.size + 1) 5 i0 (.int .u8 0) Try.underlying25 hi0 hz0 hz1 hz2 rfl (.slice A6 252 c6) BB.length (bv BB) rfl HO8.out A8 n8 c8 (hi 4 x) rfl HS8.out.len w8.heap.size HS8.out.bs HS8.out.nil (by have := HLB.out; have := HS8.out.len; simp [hi_length] at *; omega) (Nat.le_trans HSZ6.out HBE.out.size) ?_; intro v9 w9 hown9 hg9; have HG9 := Lib.hid (below_own hg9 (fun k hk => (World.ownsRow.lt HO8.out k hk).1) (Nat.le_trans HSZ6.out HBE.out.size)); have HO9 := Lib.hid hown9; clear hown9 hg9))
      go_ret
      refine ⟨v9, rfl, ?_, (HB6.out.trans (HBE.out.mono HB6.out.size)).trans (HG9.out.mono (by omega))⟩
      rw [HPB.out]
      have h := HO9.out
      refine Own.mono (base := w.heap.size + 1) ?_ (by omega)
      unfold Own
      rw [List.length_append, bv_append, HS8.out.len]
      exact h
end Go.Proofs.Ytnljhopikjkflaa.Pg
