/-
  Words for a disk and its reference side by side.
-/
import Derived.Test.YtbfpadilcfelbaaDevT9
import Derived.Test.YtbfpadilcfelbaaDevS1
import Derived.Test.YtbfpadilcfelbaaDev2D
namespace Go.Proofs.Ytbfpadilcfelbaa.Dsk
open Go.RowKit Go.Proofs.Ytbfpadilcfelbaa.Wd

theorem size37 : (Try.prog.info? 37).map (·.size) = some 4 := by kernel_rfl
theorem St.adds {w0 w w' : World} {ys zs : List Nat} {L : List (Nat × DM)} (h : St w0 w ys L) (hb : Below w.heap.size w w') (hz : ∀ z ∈ zs, (z ∈ ys ∨ w.heap.size ≤ z) ∧ z < w'.heap.size) : St w0 w' zs L :=
  ⟨h.many.add hb (fun k hk => by
    rcases hk with hk | hk
    · rcases (hz k hk).1 with h1 | h1
      · exact .inl (.inl h1)
      · exact .inr h1
    · exact .inl (.inr hk)), fun z hzz => (hz z hzz).2, h.bel.trans (hb.mono h.bel.size)⟩
theorem St.grownIn {w0 w w' : World} {ys : List Nat} {L : List (Nat × DM)} {x : Nat} (h : St w0 w ys L) (hg : w.grownBy w' (some x)) (hx : x ∈ ys) (hB : w0.heap.size ≤ x) : St w0 w' ys L :=
  ⟨h.many.off (Off.of_grown hg (fun k hk => by cases hk; exact .inl hx)), fun y hy => Nat.lt_of_lt_of_le (h.lt y hy) hg.size, h.bel.grown hg h.bel.size (fun k hk => by cases hk; exact hB)⟩
theorem RVat.kept {w0 w w' : World} {ys xs : List Nat} {x : RA} {r : RX} (h : RVat w xs x r) (hk : Keep w0 ys w w') (hx : ∀ b ∈ xs, b ∈ ys) : RVat w' xs x r :=
  h.off hk.1 (fun b hb => hk.2 b (.inl (hx b hb)))
theorem RVat.grown {w w' : World} {xs : List Nat} {x : RA} {r : RX} {k : Nat} (h : RVat w xs x r) (hg : w.grownBy w' (some k)) (hk : k ∉ xs) : RVat w' xs x r :=
  h.off hg.size (fun b hb => hg.block b (h.lt b hb) (fun e => by cases e; exact hk hb))
theorem wpList_load_mid_w {P : Program} {ops : Array Oper} {rest : List Oper} {op : Oper} {a : Act} {w : World} {Q : Exit → Act → World → Prop} (hw : Region.wanted op (yielded ops a.tmps) = true) (ty : TypeId) (x : Operand) (ho : op.op = .load ty x)
    (b o : Nat) (hx : a.eval x = .pointer (some ⟨b, o, none⟩)) (cs : List Value) (d : TypeDesc) (hc : w.rangeAt b o cs) (hu : P.underlying ty = some d) (hd : d.isRow = true) (hi : (P.info? ty).map (·.size) = some cs.length)
    (h : wpList P ops Q rest (a.put op.dst (.agg cs.toArray)) w) : wpList P ops Q (op :: rest) a w :=
  wpList_wanted hw fun _ hK => wp_load_mid ty x ho b o hx cs d hc hu hd hi (hK _ _ h)
theorem wpList_min12 {ops : Array Oper} {rest : List Oper} {o : Oper} {a : Act} {w : World} {Q : Exit → Act → World → Prop} (hgd : o.guard = none) (x : Operand)
    (ho : o.op = .call { callee := .builtin .min, args := #[x, .const (.int .i64 12)], argTypes := #[3, 3] }) (N M : Int) (hx : a.eval x = .int .i64 N) (hM : M = if 12 < N then 12 else N)
    (h : wpList Try.prog ops Q rest (a.put o.dst (.int .i64 M)) w) : wpList Try.prog ops Q (o :: rest) a w :=
  wpList_plain hgd fun _ hK => by
    have hK := hK _ _ h
    have hrun : ∀ ty, (Builtin.min_ #[3, 3] ty #[.int .i64 N, .int .i64 12]).run Try.prog w = .ok (.int .i64 M) w := fun ty => by
      rw [hM]
      by_cases hn : 12 < N <;> simp [Builtin.min_, Builtin.min2, hn]
    have h0 : a.eval (.const (.int .i64 12)) = .int .i64 12 := rfl
    unfold Oper.wp
    simp [execOp, ho, resolve, invoke, builtin, hx, h0, hrun, Result.andThen]
    exact hK
theorem st_does {w0 w : World} {xs : List Nat} {L : List (Nat × DM)} {i g : Nat} {d : DM} (o : OM) (h : St w0 w xs L) (hi : L[i]? = some (g, d)) (hp : d.pend.length ≤ 1000000) (ho : OpOk w o) :
    Calls Try.prog 10 #[.pointer (some ⟨g, 0, none⟩), o.val] w fun e w' => e = .returned (.tuple #[blk (d.doesM o).2.1, .int .i64 (d.doesM o).2.2]) ∧ St w0 w' xs (L.set i (g, (d.doesM o).1)) ∧ Keep w0 xs w w' :=
  (st_step (R := fun e _ d' => e = .returned (.tuple #[blk (d.doesM o).2.1, .int .i64 (d.doesM o).2.2]) ∧ d' = (d.doesM o).1) h hi (fun F hF _ => (does_all g d F o w hF hp ho).mono fun _ _ ⟨he, hg⟩ => ⟨_, ⟨he, rfl⟩, hg⟩)).mono
    fun _ _ ⟨_, ⟨he, hd⟩, hs, hkp⟩ => ⟨he, hd ▸ hs, hkp⟩
theorem st_agree {w0 w : World} {ys xs : List Nat} {L : List (Nat × DM)} {i g t : Nat} {d : DM} {x : RA} {r : RX} (h : St w0 w ys L) (hi : L[i]? = some (g, d)) (hv : RVat w xs x r) (ha : Agr t d x) (ht : t ≤ 1000000) :
    Calls Try.prog 12 #[.pointer (some ⟨g, 0, none⟩), x.val r] w fun e w' => e = .returned (.bool true) ∧ Below w.heap.size w w' :=
  st_look h hi (fun F hF => agree_any g t d F x r xs w hF hv ha ht)
theorem Agr.reads {t : Nat} {d : DM} {x : RA} (h : Agr t d x) (ht : t ≤ 1000000) (i : Int) (hi : i < 9223372036854775808) : (x.readR i).2 = (d.readM i).2 ∧ Agr (t + 1) (d.readM i).1 (x.readR i).1 := by
  have k0 : kindM (0 : Int) = 0 := by decide +kernel
  have h1 := h.does ht ⟨0, i, 0, none, 0, 0, []⟩ hi
  rw [does_0 _ _ k0, show x.wantR ⟨0, i, 0, none, 0, 0, []⟩ = x.readR i from by rw [RA.wantR, if_pos k0]] at h1
  exact h1
/-- a disk, its reference, and the cell that holds that -/
def DoesI (w wr : World) (b7 g t : Nat) : Prop :=
  ∃ d x r xs, St w wr (b7 :: xs) [(g, d)] ∧ Row wr b7 31 (x.cells r) ∧ RVat wr xs x r ∧ Agr t d x ∧ b7 ∉ xs ∧ w.heap.size ≤ b7
theorem DoesI.below {w wr wr' : World} {b7 g t : Nat} (h : DoesI w wr b7 g t) (hb : Below wr.heap.size wr wr') : DoesI w wr' b7 g t := by
  obtain ⟨d, x, r, xs, h1, h2, h3, h4⟩ := h
  exact ⟨d, x, r, xs, h1.below hb, h2.below hb h2.lt, h3.below hb, h4⟩
theorem DoesI.more {w wr : World} {b7 g t t' : Nat} (h : DoesI w wr b7 g t) (ht : t ≤ t') : DoesI w wr b7 g t' := by
  obtain ⟨d, x, r, xs, h1, h2, h3, h4, h5⟩ := h
  exact ⟨d, x, r, xs, h1, h2, h3, h4.more ht, h5⟩
theorem rz_one : ∀ v ∈ rz, v.oneCell' = true := by
  intro v hv
  simp only [rz, List.mem_cons, List.not_mem_nil, or_false] at hv
  rcases hv with rfl | rfl | rfl | rfl | rfl | rfl <;> rfl
end Go.Proofs.Ytbfpadilcfelbaa.Dsk
