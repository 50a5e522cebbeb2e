/-
  Heap: how tuples open that came in; tuples and their bytes, there and back (pure).
-/
import Derived.Test.YtnojkoefdigcnaaHp3
import Derived.Test.YtnojkoefdigcnaaPgO
namespace Go.Proofs.Ytnojkoefdigcnaa.Hp
set_option maxRecDepth 100000
open Go.RowKit Go.Proofs.Ytnojkoefdigcnaa.Wd Go.Proofs.Ytnojkoefdigcnaa.Lift Go.ChangeShapes Go.WideShapes Go.Deep
structure TuOk (t : Tu) : Prop where
  r : t.r ≤ 4294967295
  a : t.a ≤ 18446744073709551615
  b : t.b ≤ 18446744073709551615
  x0 : -9223372036854775808 ≤ t.x0 ∧ t.x0 ≤ 9223372036854775807
  x1 : -9223372036854775808 ≤ t.x1 ∧ t.x1 ≤ 9223372036854775807
  y0 : -9223372036854775808 ≤ t.y0 ∧ t.y0 ≤ 9223372036854775807
  y1 : -9223372036854775808 ≤ t.y1 ∧ t.y1 ≤ 9223372036854775807
  v : -9223372036854775808 ≤ t.v ∧ t.v ≤ 9223372036854775807
def tcs (t : Tu) : List Value := [.int .u32 t.r, .int .u64 t.a, .int .u64 t.b, .int .i64 t.x0, .int .i64 t.x1, .int .i64 t.y0, .int .i64 t.y1, .int .i64 t.v]
section
variable {H : Type} {enc : TypeId × Value → H} {W : World}
theorem cells_u32 : Try.prog.cellsOf 25 = 1 := by kernel_rfl
theorem cells_u64 : Try.prog.cellsOf 26 = 1 := by kernel_rfl
theorem cells_i64 : Try.prog.cellsOf 2 = 1 := by kernel_rfl
theorem cells_key : Try.prog.cellsOf 28 = 4 := by kernel_rfl
theorem cells_tuple : Try.prog.cellsOf 30 = 8 := by kernel_rfl
theorem key_fields : ∃ f0 f1 f2 f3 : Field, Try.prog.underlying 28 = some (.struct #[f0, f1, f2, f3]) ∧ f0.type = 2 ∧ f1.type = 2 ∧ f2.type = 2 ∧ f3.type = 2 ∧ f0.offset = 0 ∧ f1.offset = 1 ∧ f2.offset = 2 ∧ f3.offset = 3 :=
  ⟨_, _, _, _, Try.underlying28, rfl, rfl, rfl, rfl, rfl, rfl, rfl, rfl⟩
theorem tuple_fields : ∃ f0 f1 f2 f3 f4 : Field, Try.prog.underlying 30 = some (.struct #[f0, f1, f2, f3, f4]) ∧ (f0.type = 25 ∧ f1.type = 26 ∧ f2.type = 26 ∧ f3.type = 28 ∧ f4.type = 2) ∧ f0.offset = 0 ∧ f1.offset = 1 ∧ f2.offset = 2 ∧ f3.offset = 3 ∧ f4.offset = 7 :=
  ⟨_, _, _, _, _, Try.underlying30, ⟨rfl, rfl, rfl, rfl, rfl⟩, rfl, rfl, rfl, rfl, rfl⟩
theorem open_tuple {fuel : Nat} {cs : List Value} {x : DataW H × List MemPlace} (h : DataW.trod enc Try.prog W 0 (fun _ => true) true fuel 30 cs = some x) : ∃ t : Tu, cs = tcs t ∧ TuOk t := by
  obtain ⟨f0, f1, f2, f3, f4, hu, ⟨t0, t1, t2, t3, t4⟩, o0, o1, o2, o3, o4⟩ := tuple_fields
  obtain ⟨xs, n, _, hx, hl, hlen, hf⟩ := DataW.trod_struct hu h
  rw [cells_tuple] at hl
  match xs, hlen, cs, hl with
  | [q0, q1, q2, q3, q4], _, [v0, v1, v2, v3, v4, v5, v6, v7], _ =>
    have g0 := hf 0 f0 rfl
    have g1 := hf 1 f1 rfl
    have g2 := hf 2 f2 rfl
    have g3 := hf 3 f3 rfl
    have g4 := hf 4 f4 rfl
    simp [t0, t1, t2, t3, t4, o0, o1, o2, o3, o4, cells_u32, cells_u64, cells_i64, cells_key] at g0 g1 g2 g3 g4
    obtain ⟨a0, e0, _, w0⟩ := DataW.trod_int Try.underlying25 g0
    obtain ⟨a1, e1, _, w1⟩ := DataW.trod_int Try.underlying26 g1
    obtain ⟨a2, e2, _, w2⟩ := DataW.trod_int Try.underlying26 g2
    obtain ⟨a7, e7, _, w7⟩ := DataW.trod_int Try.underlying2 g4
    obtain ⟨k0, k1, k2, k3, hk, s0, s1, s2, s3, p0, p1, p2, p3⟩ := key_fields
    obtain ⟨ys, n2, _, hx2, hl2, hlen2, hf2⟩ := DataW.trod_struct hk g3
    match ys, hlen2 with
    | [z0, z1, z2, z3], _ =>
      have h0 := hf2 0 k0 rfl
      have h1 := hf2 1 k1 rfl
      have h2 := hf2 2 k2 rfl
      have h3 := hf2 3 k3 rfl
      simp [s0, s1, s2, s3, p0, p1, p2, p3, cells_i64] at h0 h1 h2 h3
      obtain ⟨a3, e3, _, w3⟩ := DataW.trod_int Try.underlying2 h0
      obtain ⟨a4, e4, _, w4⟩ := DataW.trod_int Try.underlying2 h1
      obtain ⟨a5, e5, _, w5⟩ := DataW.trod_int Try.underlying2 h2
      obtain ⟨a6, e6, _, w6⟩ := DataW.trod_int Try.underlying2 h3
      have u0 : 0 ≤ a0 ∧ a0 ≤ 4294967295 := by simpa [Lit.wf, IntKind.min, IntKind.max, IntKind.signed, IntKind.bits] using w0
      have u1 : 0 ≤ a1 ∧ a1 ≤ 18446744073709551615 := by simpa [Lit.wf, IntKind.min, IntKind.max, IntKind.signed, IntKind.bits] using w1
      have u2 : 0 ≤ a2 ∧ a2 ≤ 18446744073709551615 := by simpa [Lit.wf, IntKind.min, IntKind.max, IntKind.signed, IntKind.bits] using w2
      simp [Lit.wf, IntKind.min, IntKind.max, IntKind.signed, IntKind.bits] at w3 w4 w5 w6 w7
      obtain ⟨n0, rfl⟩ := Int.eq_ofNat_of_zero_le u0.1
      obtain ⟨n1, rfl⟩ := Int.eq_ofNat_of_zero_le u1.1
      obtain ⟨n2, rfl⟩ := Int.eq_ofNat_of_zero_le u2.1
      simp [Value.cells] at e0 e1 e2 e3 e4 e5 e6 e7
      exact ⟨⟨n0, n1, n2, a3, a4, a5, a6, a7⟩, by rw [e0, e1, e2, e3, e4, e5, e6, e7]; rfl, ⟨by show n0 ≤ _; omega, by show n1 ≤ _; omega, by show n2 ≤ _; omega, w3, w4, w5, w6, w7⟩⟩
theorem open_tup {v : Value} {d : DataW H} {ps : List MemPlace} {base : Nat} (hval : Value.okWide Try.prog W .any base 30 v) (h : DataW.Trod enc Try.prog W 0 (fun _ => true) true 30 v d ps) :
    ∃ t : Tu, v = TV t.r t.a t.b t.x0 t.x1 t.y0 t.y1 t.v ∧ TuOk t := by
  obtain ⟨cs, rfl, _⟩ := okWide_struct Try.underlying30 hval
  obtain ⟨fuel, hf⟩ := h
  obtain ⟨t, h1, h2⟩ := open_tuple hf
  refine ⟨t, ?_, h2⟩
  simp [Value.cells] at h1
  obtain ⟨l, rfl⟩ : ∃ l : List Value, cs = l.toArray := ⟨cs.toList, by simp⟩
  simp at h1
  rw [h1]
  rfl
theorem open_tuples {v : Value} {d : DataW H} {ps : List MemPlace} {base : Nat} (hval : Value.okWide Try.prog W .any base 22 v) (h : DataW.Trod enc Try.prog W 0 (fun _ => true) true 22 v d ps) (hw : (d.weights Try.prog 22).all (· ≤ reachBytes) = true) :
    ∃ A n c os, v = .slice A n c ∧ os.length = n ∧ n ≤ c ∧ (A = none → c = 0) ∧ c ≤ maxLen ∧ Lift.Many tcs 8 W W.heap.size A os ∧ ∀ o ∈ os, TuOk o :=
  Lift.open_many tcs TuOk 8 (by omega) (fun _ => rfl) Try.underlying22 cells_tuple (fun h1 _ => open_tuple h1) hval h hw
end

-- there and back
theorem hi_num : ∀ l : List UInt8, hi l.length (num l) = l
  | [] => rfl
  | b :: l => by
    rw [List.length_cons, hi, num_cons]
    have h := num_lt l
    have e1 : (b.toNat * 256 ^ l.length + num l) / 256 ^ l.length = b.toNat := by
      rw [Nat.add_comm, Nat.add_mul_div_right _ _ (Nat.pos_of_ne_zero (by simp)), Nat.div_eq_of_lt h, Nat.zero_add]
    have e2 := hi_mod l.length l.length (b.toNat * 256 ^ l.length + num l) (Nat.le_refl _)
    rw [Nat.add_comm, Nat.add_mul_mod_self_right, Nat.mod_eq_of_lt h, hi_num l] at e2
    rw [e1, Nat.add_comm, ← e2]
    simp
theorem fld_app (p q s : List UInt8) {k n : Nat} (hk : p.length = k) (hn : q.length = n) : fld (p ++ (q ++ s)) k n = num q := by
  subst hk hn
  unfold fld
  rw [List.drop_left, List.take_left]
theorem sg_uw {x : Int} (h : -9223372036854775808 ≤ x ∧ x ≤ 9223372036854775807) : sg (uw x) = x := by
  unfold sg uw
  rw [Int.toNat_of_nonneg (Int.emod_nonneg _ (by decide))]
  simp only [IntKind.wrap, IntKind.signed, IntKind.bits]
  simp
  omega
theorem uw_sg {n : Nat} (h : n < 18446744073709551616) : uw (sg n) = n := by
  unfold sg uw
  simp only [IntKind.wrap, IntKind.signed, IntKind.bits]
  simp
  omega
theorem uw_lt (x : Int) : uw x < 18446744073709551616 := by unfold uw; omega
theorem tb_eq (r a b : Nat) (x0 x1 y0 y1 v : Int) : tb r a b x0 x1 y0 y1 v = hi 4 r ++ (hi 4 a ++ (hi 4 b ++ (hi 8 (uw x0) ++ (hi 8 (uw x1) ++ (hi 8 (uw y0) ++ (hi 8 (uw y1) ++ (hi 8 (uw v) ++ []))))))) := by
  simp [tb]
theorem num_hi_lt {n x : Nat} (h : x < 256 ^ n) : num (hi n x) = x := by rw [num_hi, Nat.mod_eq_of_lt h]
theorem tb_of {t : Tu} (h : TuOk t) (ha : t.a ≤ 4294967295) (hb : t.b ≤ 4294967295) : TOf (tb t.r t.a t.b t.x0 t.x1 t.y0 t.y1 t.v) t.r t.a t.b t.x0 t.x1 t.y0 t.y1 t.v := by
  obtain ⟨r, a, b, x0, x1, y0, y1, v⟩ := t
  dsimp only at ha hb ⊢
  have hr := h.r
  dsimp only at hr
  have e : ∀ (p q s : List UInt8) (k n : Nat), tb r a b x0 x1 y0 y1 v = p ++ (q ++ s) → p.length = k → q.length = n → fld (tb r a b x0 x1 y0 y1 v) k n = num q := fun p q s k n h1 h2 h3 => by rw [h1]; exact fld_app p q s h2 h3
  have E := tb_eq r a b x0 x1 y0 y1 v
  refine ⟨?_, ?_, ?_, ?_, ?_, ?_, ?_, ?_⟩
  · rw [e [] (hi 4 r) _ 0 4 (by rw [E]; rfl) rfl (hi_length _ _), num_hi_lt (by show r < 4294967296; omega)]
  · rw [e (hi 4 r) (hi 4 a) _ 4 4 (by rw [E]) (hi_length _ _) (hi_length _ _), num_hi_lt (by show a < 4294967296; omega)]
  · rw [e (hi 4 r ++ hi 4 a) (hi 4 b) _ 8 4 (by rw [E]; simp only [List.append_assoc]; rfl) (by simp [hi_length]) (hi_length _ _), num_hi_lt (by show b < 4294967296; omega)]
  · rw [e (hi 4 r ++ hi 4 a ++ hi 4 b) (hi 8 (uw x0)) _ 12 8 (by rw [E]; simp only [List.append_assoc]; rfl) (by simp [hi_length]) (hi_length _ _), num_hi_lt (uw_lt x0)]; exact sg_uw h.x0
  · rw [e (hi 4 r ++ hi 4 a ++ hi 4 b ++ hi 8 (uw x0)) (hi 8 (uw x1)) _ 20 8 (by rw [E]; simp only [List.append_assoc]; rfl) (by simp [hi_length]) (hi_length _ _), num_hi_lt (uw_lt x1)]; exact sg_uw h.x1
  · rw [e (hi 4 r ++ hi 4 a ++ hi 4 b ++ hi 8 (uw x0) ++ hi 8 (uw x1)) (hi 8 (uw y0)) _ 28 8 (by rw [E]; simp only [List.append_assoc]; rfl) (by simp [hi_length]) (hi_length _ _), num_hi_lt (uw_lt y0)]; exact sg_uw h.y0
  · rw [e (hi 4 r ++ hi 4 a ++ hi 4 b ++ hi 8 (uw x0) ++ hi 8 (uw x1) ++ hi 8 (uw y0)) (hi 8 (uw y1)) _ 36 8 (by rw [E]; simp only [List.append_assoc]; rfl) (by simp [hi_length]) (hi_length _ _), num_hi_lt (uw_lt y1)]; exact sg_uw h.y1
  · rw [e (hi 4 r ++ hi 4 a ++ hi 4 b ++ hi 8 (uw x0) ++ hi 8 (uw x1) ++ hi 8 (uw y0) ++ hi 8 (uw y1)) (hi 8 (uw v)) [] 44 8 (by rw [E]; simp only [List.append_assoc]) (by simp [hi_length]) (hi_length _ _), num_hi_lt (uw_lt v)]; exact sg_uw h.v
theorem tb_back {t : Tu} (h : TuOk t) (hk : okT t.r t.a t.b t.x0 t.x1 t.y0 t.y1 = true) : decM (tb t.r t.a t.b t.x0 t.x1 t.y0 t.y1 t.v) = some t := by
  have h2 := (okT_iff _ _ _ _ _ _ _).1 hk
  exact decM_some.2 ⟨tb_len _ _ _ _ _ _ _ _, hk, tb_of h h2.2.2.1 h2.2.2.2.1⟩
theorem cut_at (l : List UInt8) (k n : Nat) (h : k + n ≤ l.length) : l.drop k = hi n (fld l k n) ++ l.drop (k + n) := by
  have h1 : ((l.drop k).take n).length = n := by rw [List.length_take, List.length_drop]; omega
  have h2 := hi_num ((l.drop k).take n)
  rw [h1] at h2
  unfold fld
  rw [h2, ← List.drop_drop, List.take_append_drop]
theorem dec_back {l : List UInt8} {t : Tu} (h : decM l = some t) : tb t.r t.a t.b t.x0 t.x1 t.y0 t.y1 t.v = l := by
  obtain ⟨r, a, b, x0, x1, y0, y1, v⟩ := t
  obtain ⟨h1, h2, h3⟩ := decM_some.1 h
  dsimp only
  have ux : ∀ k x, sg (fld l k 8) = x → uw x = fld l k 8 := fun k x e => by rw [← e]; exact uw_sg (fld_lt l k 8)
  rw [tb_eq, ux 12 x0 h3.x0, ux 20 x1 h3.x1, ux 28 y0 h3.y0, ux 36 y1 h3.y1, ux 44 v h3.v, ← h3.r, ← h3.a, ← h3.b]
  have e0 := cut_at l 0 4 (by omega)
  have e1 := cut_at l 4 4 (by omega)
  have e2 := cut_at l 8 4 (by omega)
  have e3 := cut_at l 12 8 (by omega)
  have e4 := cut_at l 20 8 (by omega)
  have e5 := cut_at l 28 8 (by omega)
  have e6 := cut_at l 36 8 (by omega)
  have e7 := cut_at l 44 8 (by omega)
  rw [List.drop_zero] at e0
  rw [show l.drop (44 + 8) = [] from List.drop_of_length_le (by omega)] at e7
  exact (e0.trans (congrArg (hi 4 (fld l 0 4) ++ ·) (e1.trans (congrArg (hi 4 (fld l 4 4) ++ ·) (e2.trans (congrArg (hi 4 (fld l 8 4) ++ ·) (e3.trans (congrArg (hi 8 (fld l 12 8) ++ ·) (e4.trans (congrArg (hi 8 (fld l 20 8) ++ ·) (e5.trans (congrArg (hi 8 (fld l 28 8) ++ ·) (e6.trans (congrArg (hi 8 (fld l 36 8) ++ ·) e7)))))))))))))).symm
theorem dec_ok {l : List UInt8} {t : Tu} (h : decM l = some t) : TuOk t ∧ okT t.r t.a t.b t.x0 t.x1 t.y0 t.y1 = true := by
  obtain ⟨r, a, b, x0, x1, y0, y1, v⟩ := t
  obtain ⟨h1, h2, h3⟩ := decM_some.1 h
  refine ⟨?_, h2⟩
  have sr : ∀ n x, n < 18446744073709551616 → sg n = x → -9223372036854775808 ≤ x ∧ x ≤ 9223372036854775807 := fun n x hn e => by
    rw [← e]
    unfold sg
    simp only [IntKind.wrap, IntKind.signed, IntKind.bits]
    simp
    omega
  have h4 := (okT_iff _ _ _ _ _ _ _).1 h2
  refine ⟨?_, ?_, ?_, sr _ _ (fld_lt l 12 8) h3.x0, sr _ _ (fld_lt l 20 8) h3.x1, sr _ _ (fld_lt l 28 8) h3.y0, sr _ _ (fld_lt l 36 8) h3.y1, sr _ _ (fld_lt l 44 8) h3.v⟩
  · have := fld_lt l 0 4
    rw [h3.r] at this
    show r ≤ _
    omega
  · show a ≤ _; omega
  · show b ≤ _; omega
end Go.Proofs.Ytnojkoefdigcnaa.Hp
