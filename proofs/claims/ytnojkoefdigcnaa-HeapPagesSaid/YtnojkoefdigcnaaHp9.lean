/-
  Heap: the reference's bytes of a tuple, and its Decode.
-/
import Derived.Test.YtnojkoefdigcnaaHp3
import Derived.Test.YtnojkoefdigcnaaPgG
import Derived.Test.YtnojkoefdigcnaaPgC
import Derived.LoopTactic
import Derived.Deep.RegionHeld
import Derived.Deep.Cut
import Derived.WalkLawsBesides
namespace Go.Proofs.Ytnojkoefdigcnaa.Hp
set_option maxRecDepth 100000
open Go.RowKit Go.Proofs.Ytnojkoefdigcnaa.Dsk Go.Proofs.Ytnojkoefdigcnaa.Pg Go.Proofs.Ytnojkoefdigcnaa.Rec Go.Proofs.Ytnojkoefdigcnaa.Wd Go.Proofs.Ytnojkoefdigcnaa.Wi Go.Proofs.Ytnojkoefdigcnaa.Ky Go.Proofs.Ytnojkoefdigcnaa.Oct Go.Proofs.Ytnojkoefdigcnaa.Rec Go.Proofs.Ytnojkoefdigcnaa.Lift
theorem hi_take (n x : Nat) : ∀ j, j < n → (hi n x).take (j + 1) = (hi n x).take j ++ [UInt8.ofNat (x / 256 ^ (n - 1 - j))] := by
  induction n with
  | zero => intro j hj; omega
  | succ n ih =>
    intro j hj
    cases j with
    | zero => simp [hi]
    | succ j =>
      have := ih j (by omega)
      rw [hi, List.take_succ_cons, this, List.take_succ_cons, List.cons_append, show n + 1 - 1 - (j + 1) = n - 1 - j from by omega]
theorem shr_byte (x p : Nat) : ((UInt8.ofNat (x / 256 ^ p)).toNat : Int) = (x : Int) / 2 ^ (8 * p) % 256 := by
  have e : (256 : Nat) ^ p = 2 ^ (8 * p) := by rw [Nat.pow_mul]
  rw [e]
  simp
theorem rhigh_any (x n : Nat) (w : World) (hn : 0 < n) (hn8 : n ≤ 8) :
    Calls Try.prog 36 #[.int .u64 (x : Int), .int .i64 (n : Int)] w (Grew w w.heap.size (hi n x)) := by
  obtain ⟨i0, hi0, hz0, hz1, hz2⟩ := info_parts info5
  go_enter Try.func36, Try.ntmps36
  go_wp2_with fail
  go_loopw [5, 6] (fun t5 t6 wr => ∃ (j : Nat) (q : Int) (v : Value), j ≤ n ∧ t5 = v ∧ t6 = .int .i64 q ∧ Hid (q = (n : Int) - 1 - j) ∧ Hid (Own wr w.heap.size v ((hi n x).take j) ∧ Below w.heap.size w wr)) (fun _ t6 _ => (intOf t6 + 1).toNat)
  case atStart => exact ⟨0, (n : Int) - 1, _, by omega, rfl, rfl, (show _ = _ by simp), ⟨World.ownsRow_nil _ _ _ _, Below.refl _ _⟩⟩
  case round =>
    obtain ⟨j, q, v, hj, rfl, rfl, HQ, HO⟩ := hrel
    by_cases hlt : j < n
    · obtain ⟨p, hp⟩ : ∃ p : Nat, q = (p : Int) := ⟨q.toNat, by have := HQ.out; omega⟩
      subst hp
      have hp8 : p < 8 := by have := HQ.out; omega
      have HPE : Hid (n - 1 - j = p) := (show _ = _ by have := HQ.out; omega)
      have hge : 0 ≤ (p : Int) := by omega
      have hpx : ((UInt8.ofNat (x / 256 ^ p)).toNat : Int) = (x : Int) / 2 ^ (8 * p) % 256 := shr_byte x p
      obtain ⟨l, hl⟩ : ∃ l, l = (hi n x).take j := ⟨_, rfl⟩
      have hlj : l.length = j := by rw [hl, List.length_take, hi_length]; omega
      have HNX : Hid ((hi n x).take (j + 1) = l ++ [UInt8.ofNat (x / 256 ^ p)]) := (show _ = _ by rw [hi_take n x j hlt, HPE.out, hl])
      rw [← hl] at HO
      clear hl
      generalize hub : UInt8.ofNat (x / 256 ^ p) = ub at hpx HNX
      clear hub
      have HOO := Lib.hid HO.out.1
      have HOB := Lib.hid HO.out.2
      clear HO
      have HRB : Hid (Row (wr.alloc (.cells #[.int .u8 ((x : Int) / 2 ^ (8 * p) % 256)] 5)) wr.heap.size 5 (bv [ub])) := (show Row _ _ _ _ by
        rw [show bv [ub] = [Value.int .u8 ((x : Int) / 2 ^ (8 * p) % 256)] from by rw [← hpx]; rfl]
        exact Row.new wr _ _)
      have hj8 : j ≤ 8 := by omega
      clear hpx
      go_upto_region 4 with (first
        | (at_builtin; (refine wpList_append_bs (o := ⟨some 20, _, _, _, _, _⟩) rfl (.tmp 13) (.tmp 19) 31 rfl w.heap.size 5 i0 (.int .u8 0) Try.underlying31 hi0 hz0 hz1 hz2 rfl u5 l.length (bv l) rfl (HOO.out.below ((Below.refl _ _).alloc (Nat.le_refl _) _)) (some ⟨wr.heap.size, 0, none⟩) 1 1 [ub] rfl rfl (wr.heap.size + 1) (Row.bs HRB.out (Nat.lt_succ_self _)) (fun h => by cases h) (by omega) (by have := HOB.out.size; simp; omega) ?_; intro v2 w2 hown2 hg2)))
      have HO2 : Hid (Own w2 w.heap.size v2 (l ++ [ub])) := Lib.hid (show Own w2 w.heap.size v2 (l ++ [ub]) from (by unfold Own; rw [List.length_append, bv_append]; exact hown2))
      have HB2 := Lib.hid (HOB.out.trans (((Below.refl w.heap.size wr).alloc (show w.heap.size ≤ wr.heap.size from HOB.out.size) _).trans (below_own hg2 (fun k hk => (World.ownsRow.lt HOO.out k hk).1) (by have := HOB.out.size; simp; omega))))
      clear hown2 hg2 HRB HOO HOB
      go_wp2
      go_roundw
      case rel => exact ⟨j + 1, (p : Int) - 1, v2, by omega, rfl, by go_num, (show _ = _ by have := HQ.out; omega), ⟨by rw [HNX.out]; exact HO2.out, HB2.out⟩⟩
      case measure => simp [intOf] <;> omega
    · obtain rfl : j = n := by omega
      have hq : q = -1 := by have := HQ.out; omega
      subst hq
      have HV : Hid (Own wr w.heap.size u5 (hi j x)) := (show Own _ _ _ _ by have := HO.out.1; rw [List.take_of_length_le (by rw [hi_length]; omega)] at this; exact this)
      have HBE := Lib.hid HO.out.2
      clear HO
      go_wp2
      go_ret
      exact ⟨_, rfl, HV.out, HBE.out⟩
theorem rhigh4 (x : Nat) (w : World) : Calls Try.prog 36 #[.int .u64 (x : Int), .int .i64 4] w (Grew w w.heap.size (hi 4 x)) := by
  have h := rhigh_any x 4 w (by omega) (by omega)
  rw [show ((4 : Nat) : Int) = 4 from rfl] at h
  exact h
theorem rhigh8 (x : Nat) (w : World) : Calls Try.prog 36 #[.int .u64 (x : Int), .int .i64 8] w (Grew w w.heap.size (hi 8 x)) := by
  have h := rhigh_any x 8 w (by omega) (by omega)
  rw [show ((8 : Nat) : Int) = 8 from rfl] at h
  exact h
theorem wp_append_a {P : Program} {w : World} {o : Oper} {a : Act} {K : Act → World → Prop} {Q : Exit → Act → World → Prop} (s x : Operand) (t : TypeId)
    (ho : o.op = .call { callee := .builtin .append, args := #[s, x], argTypes := #[t, t] })
    (base : Nat) (e : TypeId) (i : TypeInfo) (z : Value) (ht : P.underlying t = some (.slice e)) (hi : P.info? e = some i) (hz : i.zero = some z) (hsize : i.size = 1) (hby : i.bytes = 1) (hzs : z.cells.size = 1)
    (v : Value) (n : Nat) (xs : List Value) (hs : a.eval s = v) (hown : w.ownsRow base e 1 v n xs)
    (ad : Addr) (m c : Nat) (l : List UInt8) (hx : a.eval x = .slice (some ad) m c) (hl : l.length = m) (B : Nat) (hr : Bs w B (some ad) l)
    (h63 : n + m ≤ 140737488355328) (hbase : base ≤ w.heap.size)
    (h : ∀ v' w', w'.ownsRow base e 1 v' (n + m) (xs ++ bv l) → w.grownBy w' v.ownBlock → K (a.put o.dst v') w') : o.wp P a w K Q := by
  refine wp_append_own w s x t ho base e i z 1 1 ht hi hz hsize hby hzs (by omega) v n xs hs hown ad m c (bv l) hx (by rw [bv_length]; omega) (fun j u hu => ?_) bv_one (by unfold maxLen; omega) (by omega) hbase fun v' w' h2 h3 _ => h v' w' h2 h3
  have hj : j < l.length := by simpa [bv_length] using (List.getElem?_eq_some_iff.1 hu).1
  obtain ⟨b, o, e, _, hc⟩ := hr (by omega)
  obtain rfl := Option.some.inj e
  rw [Addr.add_lit, hc j hj, ← hu]
  simp [bv, hj]
theorem rnum_any (A : Option Addr) (n c B : Nat) (l : List UInt8) (w : World) (hl : l.length = n) (hn : n ≤ 8) (hb : Bs w B A l) :
    Calls Try.prog 39 #[.slice A n c] w fun e w' => e = .returned (.int .u64 (num l : Int)) ∧ w = w' := by
  have HL := Lib.hid hl
  have HB := Lib.hid hb
  clear hl hb
  go_enter Try.func39, Try.ntmps39
  go_wp2_with fail
  go_loopw [3, 8] (fun t3 t8 wr => ∃ k : Nat, k ≤ n ∧ t8 = .int .i64 (k : Int) ∧ t3 = .int .u64 (num (l.take k) : Int) ∧ wr = w) (fun _ t _ => n - (intOf t).toNat)
  case atStart => exact ⟨0, by omega, rfl, rfl, rfl⟩
  case round =>
    obtain ⟨k, hk, rfl, rfl, rfl⟩ := hrel
    by_cases hlt : k < n
    · have h1 : (k : Int) < (n : Int) := by omega
      have h0 : 0 ≤ (k : Int) := by omega
      obtain ⟨b, o, rfl, -, hc⟩ := HB.out (by rw [HL.out]; omega)
      have hx := hc k (by rw [HL.out]; exact hlt)
      have HS : Hid (num (l.take (k + 1)) = num (l.take k) * 256 + (l.getD k 0).toNat) := (show _ = _ by
        rw [List.take_succ_eq_append_getElem (by rw [HL.out]; exact hlt), num_snoc]
        simp [List.getD_eq_getElem?_getD, show k < l.length by rw [HL.out]; exact hlt])
      have HX : Hid (num (l.take k) < 256 ^ 7) := (show _ < _ from Nat.lt_of_lt_of_le (num_lt _) (Nat.pow_le_pow_right (by omega) (by rw [List.length_take, HL.out]; omega)))
      clear hc
      generalize l.getD k 0 = u at hx HS
      generalize num (l.take k) = x at HS HX ⊢
      have hx7 := HX.out
      have hu := u.toNat_lt
      have hw1 : IntKind.u64.wrap ((x : Int) * 256) = (x : Int) * 256 := by simp [IntKind.wrap, IntKind.signed, IntKind.bits]; omega
      have hw2 : IntKind.u64.wrap ((u.toNat : Nat) : Int) = ((u.toNat : Nat) : Int) := by simp [IntKind.wrap, IntKind.signed, IntKind.bits]; omega
      have hw3 : IntKind.u64.wrap ((x : Int) * 256 + ((u.toNat : Nat) : Int)) = ((x * 256 + u.toNat : Nat) : Int) := by simp [IntKind.wrap, IntKind.signed, IntKind.bits]; omega
      clear hx7 hu
      generalize u.toNat = y at *
      go_wp2
      go_roundw
      case rel => exact ⟨k + 1, by omega, by go_num, by rw [HS.out]; exact congrArg _ (by omega), by trivial⟩
      case measure => simp [intOf]; omega
    · obtain rfl : k = n := by omega
      have hA : l.take k = l := List.take_of_length_le (by rw [HL.out]; exact Nat.le_refl _)
      rw [hA]
      clear hA
      go_wp2
      go_ret
      exact ⟨rfl, rfl⟩

theorem wp_append_d {P : Program} {w : World} {o : Oper} {a : Act} {K : Act → World → Prop} {Q : Exit → Act → World → Prop} (dst : Option Tmp) (hd : o.dst = dst) (s x : Operand) (t : TypeId)
    (ho : o.op = .call { callee := .builtin .append, args := #[s, x], argTypes := #[t, t] })
    (base : Nat) (e : TypeId) (i : TypeInfo) (z : Value) (ht : P.underlying t = some (.slice e)) (hi : P.info? e = some i) (hz : i.zero = some z) (hsize : i.size = 1) (hby : i.bytes = 1) (hzs : z.cells.size = 1)
    (v : Value) (n : Nat) (xs : List Value) (hs : a.eval s = v) (hown : w.ownsRow base e 1 v n xs)
    (ad : Addr) (m c : Nat) (l : List UInt8) (hx : a.eval x = .slice (some ad) m c) (hl : l.length = m) (B : Nat) (hr : Bs w B (some ad) l)
    (h63 : n + m ≤ 140737488355328) (hbase : base ≤ w.heap.size)
    (h : ∀ v' w', w'.ownsRow base e 1 v' (n + m) (xs ++ bv l) → w.grownBy w' v.ownBlock → K (a.put dst v') w') : o.wp P a w K Q := by
  subst hd
  exact wp_append_a s x t ho base e i z ht hi hz hsize hby hzs v n xs hs hown ad m c l hx hl B hr h63 hbase h
theorem own_kept1 {W W' : World} {base : Nat} {v : Value} {l : List UInt8} (h : Own W base v l) (hk : ∀ k, v.ownBlock = some k → W'.heap[k]? = W.heap[k]?) : Own W' base v l := by
  refine ⟨h.1, ?_⟩
  rcases h.2 with h0 | ⟨g, cap, cur, rfl, hb, hg, rest⟩
  · exact .inl h0
  · exact .inr ⟨g, cap, cur, rfl, hb, (hk g rfl).trans hg, rest⟩
/-- bytes of one's own that were made since -/
def BytesA (w0 : World) (l : List UInt8) (t : Value) (wx : World) : Prop := Own wx w0.heap.size t l ∧ Below w0.heap.size w0 wx
def five (x0 x1 y0 y1 v : Int) : Nat → Int
  | 0 => x0
  | 1 => x1
  | 2 => y0
  | 3 => y1
  | _ => v
theorem idx5 (x0 x1 y0 y1 v : Int) (k : Nat) (hk : k < 5) (u : World) : (Instr.index 86 (.agg #[.int .i64 x0, .int .i64 x1, .int .i64 y0, .int .i64 y1, .int .i64 v]) (.int .i64 (k : Int))).run Try.prog u = .ok (.int .i64 (five x0 x1 y0 y1 v k)) u := by
  match k, hk with
  | 0, _ => exact show (Instr.index 86 (.agg #[.int .i64 x0, .int .i64 x1, .int .i64 y0, .int .i64 y1, .int .i64 v]) (.int .i64 0)).run Try.prog u = .ok (.int .i64 x0) u by kernel_rfl
  | 1, _ => exact show (Instr.index 86 (.agg #[.int .i64 x0, .int .i64 x1, .int .i64 y0, .int .i64 y1, .int .i64 v]) (.int .i64 1)).run Try.prog u = .ok (.int .i64 x1) u by kernel_rfl
  | 2, _ => exact show (Instr.index 86 (.agg #[.int .i64 x0, .int .i64 x1, .int .i64 y0, .int .i64 y1, .int .i64 v]) (.int .i64 2)).run Try.prog u = .ok (.int .i64 y0) u by kernel_rfl
  | 3, _ => exact show (Instr.index 86 (.agg #[.int .i64 x0, .int .i64 x1, .int .i64 y0, .int .i64 y1, .int .i64 v]) (.int .i64 3)).run Try.prog u = .ok (.int .i64 y1) u by kernel_rfl
  | 4, _ => exact show (Instr.index 86 (.agg #[.int .i64 x0, .int .i64 x1, .int .i64 y0, .int .i64 y1, .int .i64 v]) (.int .i64 4)).run Try.prog u = .ok (.int .i64 v) u by kernel_rfl
set_option maxHeartbeats 4000000 in
theorem rbytes_t (r a b : Nat) (x0 x1 y0 y1 v : Int) (w : World) (hr : r ≤ 4294967295) : Calls Try.prog 13 #[TV r a b x0 x1 y0 y1 v] w (Grew w w.heap.size (tb r a b x0 x1 y0 y1 v)) := by
  have mixed : Try.prog.follows .mixedOrders = true := by kernel_rfl
  obtain ⟨i0, hi0, hz0, hz1, hz2⟩ := info_parts info5
  have HIX := Lib.hid (idx5 x0 x1 y0 y1 v)
  have hw64 : IntKind.u64.wrap (r : Int) = (r : Int) := by simp [IntKind.wrap, IntKind.signed, IntKind.bits]; omega
  go_enter Try.func13, Try.ntmps13
  go_upto_region 1 with fail
  have RT_b1 := Lib.hid (row_last w (w.heap.size) 30 [.int .u32 r, .int .u64 a, .int .u64 b, .int .i64 x0, .int .i64 x1, .int .i64 y0, .int .i64 y1, .int .i64 v] (by simp))
  have B_b1 := Lib.hid ((Below.refl w.heap.size w).alloc (Nat.le_refl _) (.cells #[.int .u32 r, .int .u64 a, .int .u64 b, .int .i64 x0, .int .i64 x1, .int .i64 y0, .int .i64 y1, .int .i64 v] 30))
  generalize (w.alloc (.cells #[.int .u32 r, .int .u64 a, .int .u64 b, .int .i64 x0, .int .i64 x1, .int .i64 y0, .int .i64 y1, .int .i64 v] 30)) = Vb1 at RT_b1 B_b1 ⊢
  have HSV := Lib.hid B_b1.out.size
  go_cut [3] from 6 to 17 (fun t wx => BytesA Vb1 (hi 4 r ++ hi 4 a ++ hi 4 b) t wx)
  case first =>
    refine wp_region_held_drew (S := fun w' => Below Vb1.heap.size Vb1 w') (by kernel_rfl) (Below.refl _ _).drew (fun hHeld => ?_)
    have HSZ := Lib.hid (show Vb1.drew.heap.size = Vb1.heap.size from rfl)
    have S_b2 := Lib.hid hHeld
    clear hHeld
    generalize Vb1.drew = Db2 at S_b2 HSZ ⊢
    refine wpAnyH_take (i := 0) (oi := ⟨some 6, _, _, _, _, _⟩) (v := ?vbq_1) rfl (by kernel_rfl) (by kernel_rfl) (by kernel_rfl) (fun _ _ _ h => h) (Or.inl ⟨by rfl, ?ybq_1⟩) S_b2.out ?rbq_1
    case ybq_1 =>
      rintro w' hSw
      go_simp
      try with_reducible rfl
    try simp only [Act.put, List.setIfInBounds_toArray, List.set_cons_zero, List.set_cons_succ]
    refine wpAnyH_take (i := 1) (oi := ⟨some 7, _, _, _, _, _⟩) (v := ?vbq_2) rfl (by kernel_rfl) (by kernel_rfl) (by kernel_rfl) (fun _ _ _ h => h) (Or.inl ⟨by rfl, ?ybq_2⟩) S_b2.out ?rbq_2
    case ybq_2 =>
      rintro w' hSw
      have k0 := (RT_b1.out.below hSw RT_b1.out.lt).cell 0
      have k1 := (RT_b1.out.below hSw RT_b1.out.lt).cell 1
      have k2 := (RT_b1.out.below hSw RT_b1.out.lt).cell 2
      have k3 := (RT_b1.out.below hSw RT_b1.out.lt).cell 3
      have k4 := (RT_b1.out.below hSw RT_b1.out.lt).cell 4
      have k5 := (RT_b1.out.below hSw RT_b1.out.lt).cell 5
      have k6 := (RT_b1.out.below hSw RT_b1.out.lt).cell 6
      have k7 := (RT_b1.out.below hSw RT_b1.out.lt).cell 7
      simp only [List.getElem?_cons_zero, List.getElem?_cons_succ] at k0 k1 k2 k3 k4 k5 k6 k7
      go_simp
      try with_reducible rfl
    try simp only [Act.put, List.setIfInBounds_toArray, List.set_cons_zero, List.set_cons_succ]
    refine wpAnyH_take (i := 2) (oi := ⟨some 8, _, _, _, _, _⟩) (v := ?vbq_3) rfl (by kernel_rfl) (by kernel_rfl) (by kernel_rfl) (fun _ _ _ h => h) (Or.inl ⟨by rfl, ?ybq_3⟩) S_b2.out ?rbq_3
    case ybq_3 =>
      rintro w' hSw
      go_simp
      try with_reducible rfl
    try simp only [Act.put, List.setIfInBounds_toArray, List.set_cons_zero, List.set_cons_succ]
    refine wpAnyH_take (i := 4) (oi := ⟨some 10, _, _, _, _, _⟩) (v := ?vbq_4) rfl (by kernel_rfl) (by kernel_rfl) (by kernel_rfl) (fun _ _ _ h => h) (Or.inl ⟨by rfl, ?ybq_4⟩) S_b2.out ?rbq_4
    case ybq_4 =>
      rintro w' hSw
      go_simp
      try with_reducible rfl
    try simp only [Act.put, List.setIfInBounds_toArray, List.set_cons_zero, List.set_cons_succ]
    refine wpAnyH_take (i := 5) (oi := ⟨some 11, _, _, _, _, _⟩) (v := ?vbq_5) rfl (by kernel_rfl) (by kernel_rfl) (by kernel_rfl) (fun _ _ _ h => h) (Or.inl ⟨by rfl, ?ybq_5⟩) S_b2.out ?rbq_5
    case ybq_5 =>
      rintro w' hSw
      have k0 := (RT_b1.out.below hSw RT_b1.out.lt).cell 0
      have k1 := (RT_b1.out.below hSw RT_b1.out.lt).cell 1
      have k2 := (RT_b1.out.below hSw RT_b1.out.lt).cell 2
      have k3 := (RT_b1.out.below hSw RT_b1.out.lt).cell 3
      have k4 := (RT_b1.out.below hSw RT_b1.out.lt).cell 4
      have k5 := (RT_b1.out.below hSw RT_b1.out.lt).cell 5
      have k6 := (RT_b1.out.below hSw RT_b1.out.lt).cell 6
      have k7 := (RT_b1.out.below hSw RT_b1.out.lt).cell 7
      simp only [List.getElem?_cons_zero, List.getElem?_cons_succ] at k0 k1 k2 k3 k4 k5 k6 k7
      go_simp
      try with_reducible rfl
    try simp only [Act.put, List.setIfInBounds_toArray, List.set_cons_zero, List.set_cons_succ]
    refine wpAnyH_take (i := 8) (oi := ⟨some 14, _, _, _, _, _⟩) (v := ?vbq_6) rfl (by kernel_rfl) (by kernel_rfl) (by kernel_rfl) (fun _ _ _ h => h) (Or.inl ⟨by rfl, ?ybq_6⟩) S_b2.out ?rbq_6
    case ybq_6 =>
      rintro w' hSw
      go_simp
      try with_reducible rfl
    try simp only [Act.put, List.setIfInBounds_toArray, List.set_cons_zero, List.set_cons_succ]
    refine wpAnyH_take (i := 9) (oi := ⟨some 15, _, _, _, _, _⟩) (v := ?vbq_7) rfl (by kernel_rfl) (by kernel_rfl) (by kernel_rfl) (fun _ _ _ h => h) (Or.inl ⟨by rfl, ?ybq_7⟩) S_b2.out ?rbq_7
    case ybq_7 =>
      rintro w' hSw
      have k0 := (RT_b1.out.below hSw RT_b1.out.lt).cell 0
      have k1 := (RT_b1.out.below hSw RT_b1.out.lt).cell 1
      have k2 := (RT_b1.out.below hSw RT_b1.out.lt).cell 2
      have k3 := (RT_b1.out.below hSw RT_b1.out.lt).cell 3
      have k4 := (RT_b1.out.below hSw RT_b1.out.lt).cell 4
      have k5 := (RT_b1.out.below hSw RT_b1.out.lt).cell 5
      have k6 := (RT_b1.out.below hSw RT_b1.out.lt).cell 6
      have k7 := (RT_b1.out.below hSw RT_b1.out.lt).cell 7
      simp only [List.getElem?_cons_zero, List.getElem?_cons_succ] at k0 k1 k2 k3 k4 k5 k6 k7
      go_simp
      try with_reducible rfl
    try simp only [Act.put, List.setIfInBounds_toArray, List.set_cons_zero, List.set_cons_succ]
    refine wpAnyH_ready (rs := [3]) (by kernel_rfl) (by simp) ?_
    refine (AllReadyH.cons rfl (fun K hK => ?_) AllReadyH.nil)
    go_simp
    refine (rhigh4 r Db2).mono ?_
    rintro e Xbq_8 ⟨w9, rfl, ho, hb⟩
    obtain ⟨A9, n9, c9, rfl, hs⟩ := ho.sl
    obtain ⟨ad9, rfl⟩ : ∃ ad, A9 = some ad := by
      obtain ⟨b, o, e, _⟩ := hs.bs (by simp [hi_length])
      exact ⟨_, e⟩
    have O9bq_8 := Lib.hid ho
    have Sbq_8 := Lib.hid (S_b2.out.trans (hb.mono S_b2.out.size))
    clear hb ho hs S_b2 
    refine hK _ _ Sbq_8.out (fun _ => ?_)
    clear hK K
    try simp only [Act.put, List.setIfInBounds_toArray, List.set_cons_zero, List.set_cons_succ]
    refine wpAnyH_ready (rs := [6]) (by kernel_rfl) (by simp) ?_
    refine (AllReadyH.cons rfl (fun K hK => ?_) AllReadyH.nil)
    go_simp
    refine (rhigh4 a Xbq_8).mono ?_
    rintro e Xbq_9 ⟨w12, rfl, ho, hb⟩
    obtain ⟨A12, n12, c12, rfl, hs⟩ := ho.sl
    obtain ⟨ad12, rfl⟩ : ∃ ad, A12 = some ad := by
      obtain ⟨b, o, e, _⟩ := hs.bs (by simp [hi_length])
      exact ⟨_, e⟩
    have O12bq_9 := Lib.hid ho
    have N9_12 : Hid (∀ k, (Value.slice (some ad9) n9 c9).ownBlock = some k → k < Xbq_8.heap.size) := Lib.hid (fun k hk => (World.ownsRow.lt O9bq_8.out k hk).2)
    have O9bq_9 := Lib.hid (Own.below O9bq_8.out hb)
    have Sbq_9 := Lib.hid (Sbq_8.out.trans (hb.mono Sbq_8.out.size))
    clear hb ho hs Sbq_8 O9bq_8
    refine hK _ _ Sbq_9.out (fun _ => ?_)
    clear hK K
    try simp only [Act.put, List.setIfInBounds_toArray, List.set_cons_zero, List.set_cons_succ]
    refine wpAnyH_ready (rs := [7]) (by kernel_rfl) (by simp) ?_
    refine (AllReadyH.cons rfl (fun K hK => ?_) AllReadyH.nil)
    try rw [if_pos (by rfl)]
    have hs : Sl Xbq_9 Xbq_9.heap.size (some ad12) n12 c12 (hi 4 a) := by
      obtain ⟨_, _, _, e0, hs⟩ := O12bq_9.out.sl
      injection e0 with e1 e2 e3
      rw [e1, e2, e3]
      exact hs
    refine wp_append_d (some 13) rfl (.tmp 9) (.tmp 12) 31 rfl (Db2.heap.size) 5 i0 (.int .u8 0) Try.underlying31 hi0 hz0 hz1 hz2 rfl (Value.slice (some ad9) n9 c9) _ (bv (hi 4 r)) rfl O9bq_9.out ad12 n12 c12 (hi 4 a) rfl hs.len Xbq_9.heap.size hs.bs (by have h1 := hs.len; simp only [List.length_append, hi_length] at h1 ⊢; omega) (by first | exact Sbq_9.out.size | (have := HSZ.out; have := Sbq_9.out.size; omega)) ?_
    intro w13 Xbq_10 hown hg
    have O13bq_10 : Hid (Own Xbq_10 (Db2.heap.size) w13 (hi 4 r ++ hi 4 a)) := Lib.hid (by
      unfold Own
      rw [bv_append, List.length_append, hs.len]
      exact hown)
    have Sbq_10 := Lib.hid (Sbq_9.out.grown hg Sbq_9.out.size (fun k hk => Nat.le_trans (Nat.le_of_eq HSZ.out.symm) (World.ownsRow.lt O9bq_9.out k hk).1))
    clear hown hg hs Sbq_9 O9bq_9 O12bq_9
    refine hK _ _ Sbq_10.out (fun _ => ?_)
    clear hK K
    try simp only [Act.put, List.setIfInBounds_toArray, List.set_cons_zero, List.set_cons_succ]
    refine wpAnyH_ready (rs := [10]) (by kernel_rfl) (by simp) ?_
    refine (AllReadyH.cons rfl (fun K hK => ?_) AllReadyH.nil)
    go_simp
    refine (rhigh4 b Xbq_10).mono ?_
    rintro e Xbq_11 ⟨w16, rfl, ho, hb⟩
    obtain ⟨A16, n16, c16, rfl, hs⟩ := ho.sl
    obtain ⟨ad16, rfl⟩ : ∃ ad, A16 = some ad := by
      obtain ⟨b, o, e, _⟩ := hs.bs (by simp [hi_length])
      exact ⟨_, e⟩
    have O16bq_11 := Lib.hid ho
    have N13_16 : Hid (∀ k, (w13).ownBlock = some k → k < Xbq_10.heap.size) := Lib.hid (fun k hk => (World.ownsRow.lt O13bq_10.out k hk).2)
    have O13bq_11 := Lib.hid (Own.below O13bq_10.out hb)
    have Sbq_11 := Lib.hid (Sbq_10.out.trans (hb.mono Sbq_10.out.size))
    clear hb ho hs Sbq_10 O13bq_10
    refine hK _ _ Sbq_11.out (fun _ => ?_)
    clear hK K
    try simp only [Act.put, List.setIfInBounds_toArray, List.set_cons_zero, List.set_cons_succ]
    refine wpAnyH_ready (rs := [11]) (by kernel_rfl) (by simp) ?_
    refine (AllReadyH.cons rfl (fun K hK => ?_) AllReadyH.nil)
    try rw [if_pos (by rfl)]
    have hs : Sl Xbq_11 Xbq_11.heap.size (some ad16) n16 c16 (hi 4 b) := by
      obtain ⟨_, _, _, e0, hs⟩ := O16bq_11.out.sl
      injection e0 with e1 e2 e3
      rw [e1, e2, e3]
      exact hs
    refine wp_append_d (some 17) rfl (.tmp 13) (.tmp 16) 31 rfl (Db2.heap.size) 5 i0 (.int .u8 0) Try.underlying31 hi0 hz0 hz1 hz2 rfl (w13) _ (bv (hi 4 r ++ hi 4 a)) rfl O13bq_11.out ad16 n16 c16 (hi 4 b) rfl hs.len Xbq_11.heap.size hs.bs (by have h1 := hs.len; simp only [List.length_append, hi_length] at h1 ⊢; omega) (by first | exact Sbq_11.out.size | (have := HSZ.out; have := Sbq_11.out.size; omega)) ?_
    intro w17 Xbq_12 hown hg
    have O17bq_12 : Hid (Own Xbq_12 (Db2.heap.size) w17 (hi 4 r ++ hi 4 a ++ hi 4 b)) := Lib.hid (by
      unfold Own
      rw [bv_append, List.length_append, hs.len]
      exact hown)
    have Sbq_12 := Lib.hid (Sbq_11.out.grown hg Sbq_11.out.size (fun k hk => Nat.le_trans (Nat.le_of_eq HSZ.out.symm) (World.ownsRow.lt O13bq_11.out k hk).1))
    clear hown hg hs Sbq_11 O13bq_11 O16bq_11
    refine hK _ _ Sbq_12.out (fun _ => ?_)
    clear hK K
    try simp only [Act.put, List.setIfInBounds_toArray, List.set_cons_zero, List.set_cons_succ]
    refine wpAnyH_take (i := 12) (oi := ⟨some 3, _, _, _, _, _⟩) (v := ?vbq_13) rfl (by kernel_rfl) (by kernel_rfl) (by kernel_rfl) (fun _ _ _ h => h) (Or.inl ⟨by rfl, ?ybq_13⟩) Sbq_12.out ?rbq_13
    case ybq_13 =>
      rintro w' hSw
      go_simp
      try with_reducible rfl
    try simp only [Act.put, List.setIfInBounds_toArray, List.set_cons_zero, List.set_cons_succ]
    refine wpAnyH_done (by kernel_rfl) ?_ _
    try simp only [Act.put, List.setIfInBounds_toArray, List.set_cons_zero, List.set_cons_succ]
    go_wp2_with fail
    go_meet
    exact ⟨O17bq_12.out.mono (Nat.le_of_eq HSZ.out.symm), Sbq_12.out⟩
  case rest =>
    rename World => Wc
    obtain ⟨HO, hb⟩ := hcut
    have HO := Lib.hid HO
    have HVC := Lib.hid hb.size
    have RT_c1 := Lib.hid (RT_b1.out.below hb RT_b1.out.lt)
    have B_c1 := Lib.hid (B_b1.out.trans (hb.mono B_b1.out.size))
    clear hb RT_b1 B_b1
    have cc2_0 := RT_c1.out.cell 0
    have cc2_1 := RT_c1.out.cell 1
    have cc2_2 := RT_c1.out.cell 2
    have cc2_3 := RT_c1.out.cell 3
    have cc2_4 := RT_c1.out.cell 4
    have cc2_5 := RT_c1.out.cell 5
    have cc2_6 := RT_c1.out.cell 6
    have cc2_7 := RT_c1.out.cell 7
    simp only [List.getElem?_cons_zero, List.getElem?_cons_succ] at cc2_0 cc2_1 cc2_2 cc2_3 cc2_4 cc2_5 cc2_6 cc2_7
    go_wp2_with fail
    clear cc2_0 cc2_1 cc2_2 cc2_3 cc2_4 cc2_5 cc2_6 cc2_7
    go_loopw [3, 33] (fun t i wr => ∃ (j : Nat) (u : Value), j ≤ 5 ∧ t = u ∧ i = .int .i64 (j : Int) ∧ Hid (Own wr Vb1.heap.size u ((hi 4 r ++ hi 4 a ++ hi 4 b) ++ ([uw x0, uw x1, uw y0, uw y1, uw v].take j).flatMap (hi 8))) ∧ Hid (Below w.heap.size w wr) ∧ Vb1.heap.size ≤ wr.heap.size) (fun _ i _ => 5 - (intOf i).toNat)
    case atStart => exact ⟨0, _, by omega, rfl, rfl, Lib.hid (by simpa using HO.out), B_c1, HVC.out⟩
    case round =>
      obtain ⟨j, u, hj, rfl, rfl, HU, HI, hsz⟩ := hrel
      clear HO RT_c1 B_c1
      obtain ⟨Au, nu, cu, rfl, hlu, -, -, -, -⟩ := HU.out.open
      by_cases hlt : j < 5
      case neg =>
        have h1 : ¬ (j : Int) < 5 := by omega
        obtain rfl : j = 5 := by omega
        have HF : Hid (Own wr Vb1.heap.size (.slice Au nu cu) (tb r a b x0 x1 y0 y1 v)) := Lib.hid (by
          have h := HU.out
          unfold tb
          simpa [List.append_assoc] using h)
        go_wp2
        go_ret
        exact ⟨_, rfl, HF.out.mono (by have := HSV.out; omega), HI.out⟩
      have h1 : (j : Int) < 5 := by omega
      have h0 : 0 ≤ (j : Int) := by omega
      have hix := HIX.out j hlt
      have HHI := Lib.hid (fun W => rhigh8 (uw (five x0 x1 y0 y1 v j)) W)
      have hwr := uw_wrap (five x0 x1 y0 y1 v j)
      have HNX : Hid ((hi 4 r ++ hi 4 a ++ hi 4 b) ++ ([uw x0, uw x1, uw y0, uw y1, uw v].take j).flatMap (hi 8) ++ hi 8 (uw (five x0 x1 y0 y1 v j)) = (hi 4 r ++ hi 4 a ++ hi 4 b) ++ ([uw x0, uw x1, uw y0, uw y1, uw v].take (j + 1)).flatMap (hi 8)) := Lib.hid (by
        match j, hlt with
        | 0, _ => simp [five]
        | 1, _ => simp [five]
        | 2, _ => simp [five]
        | 3, _ => simp [five]
        | 4, _ => simp [five])
      obtain ⟨L, hL⟩ : ∃ L, L = (hi 4 r ++ hi 4 a ++ hi 4 b) ++ ([uw x0, uw x1, uw y0, uw y1, uw v].take j).flatMap (hi 8) := ⟨_, rfl⟩
      have hll : L.length ≤ 52 := by rw [hL, List.length_append, flat_len, List.length_take]; simp [hi_length]; omega
      rw [← hL] at HU HNX hlu
      have HLU := Lib.hid hlu
      have hnu : nu ≤ 52 := by omega
      clear hL hlu hll
      generalize five x0 x1 y0 y1 v j = y at hix HHI hwr HNX
      go_wp2_with fail
      refine (HHI.out _).mono ?_
      rintro e W1 ⟨v2, rfl, ho, hb⟩
      obtain ⟨A2, n2, c2, rfl, hs⟩ := ho.sl
      have HS2 := Lib.hid hs
      have HO1 := Lib.hid (Own.below HU.out hb)
      have HB1 := Lib.hid (HI.out.trans (hb.mono HI.out.size))
      have HZ1 : Hid (Vb1.heap.size ≤ W1.heap.size) := Lib.hid (Nat.le_trans hsz hb.size)
      clear hb ho hs hix hwr HU HI HHI
      go_upto_region 6 with (first
        | (at_builtin; (refine wpList_append_bs (o := ⟨some 40, _, _, _, _, _⟩) rfl (.tmp 36) (.tmp 39) 31 rfl Vb1.heap.size 5 i0 (.int .u8 0) Try.underlying31 hi0 hz0 hz1 hz2 rfl (.slice Au nu cu) L.length (bv L) rfl HO1.out A2 n2 c2 (hi 8 (uw y)) rfl HS2.out.len W1.heap.size HS2.out.bs HS2.out.nil (by have := HLU.out; have h9 := HS2.out.len; rw [hi_length] at h9; omega) HZ1.out ?_; intro v3 w3 hown3 hg3)))
      have HO3 : Hid (Own w3 Vb1.heap.size v3 (L ++ hi 8 (uw y))) := Lib.hid (show Own _ _ _ _ from (by unfold Own; rw [List.length_append, bv_append, HS2.out.len]; exact hown3))
      rw [HNX.out] at HO3
      have hbo := below_own hg3 (fun k hk => (World.ownsRow.lt HO1.out k hk).1) HZ1.out
      have HB3 := Lib.hid (HB1.out.trans (hbo.mono (by have := HSV.out; omega)))
      have HZ3 : Hid (Vb1.heap.size ≤ w3.heap.size) := Lib.hid (Nat.le_trans HZ1.out hbo.size)
      clear hown3 hg3 hbo HO1 HB1 HZ1 HS2
      go_wp2_with fail
      go_roundw
      case rel => exact ⟨j + 1, _, by omega, rfl, by go_num, HO3, HB3, HZ3.out⟩
      case measure => simp [intOf]; omega
end Go.Proofs.Ytnojkoefdigcnaa.Hp
