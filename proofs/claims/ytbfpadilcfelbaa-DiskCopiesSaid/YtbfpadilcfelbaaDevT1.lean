/-
  The reference's disk as a value; its Arm, Fail, Read.
-/
import Derived.Test.YtbfpadilcfelbaaDevT0
import Derived.Test.YtbfpadilcfelbaaDevP
import Derived.Test.YtbfpadilcfelbaaDevQ
namespace Go.Proofs.Ytbfpadilcfelbaa.Dsk
open Go.RowKit Go.Proofs.Ytbfpadilcfelbaa.Wd

/-- where a reference's disk has its lists -/
structure RX where
  A : Option Addr
  n : Nat
  c : Nat
  A2 : Option Addr
  m : Nat
  c2 : Nat
/-- its cells -/
def rcs (r : RX) (dead : Bool) (left fails ops : Int) : List Value := [.slice r.A r.n r.c, .slice r.A2 r.m r.c2, .bool dead, .int .i64 left, .int .i64 fails, .int .i64 ops]
def RA.cells (x : RA) (r : RX) : List Value := rcs r x.dead x.left x.fails x.ops
def RA.val (x : RA) (r : RX) : Value := .agg (x.cells r).toArray
theorem rcs_len (r : RX) (dead : Bool) (left fails ops : Int) : (rcs r dead left fails ops).length = 6 := rfl
theorem rcs_one (r : RX) (dead : Bool) (left fails ops : Int) : ∀ v ∈ rcs r dead left fails ops, v.oneCell' = true := by
  intro v hv
  simp only [rcs, List.mem_cons, List.not_mem_nil, or_false] at hv
  rcases hv with rfl | rfl | rfl | rfl | rfl | rfl <;> rfl
def rz : List Value := [.slice none 0 0, .slice none 0 0, .bool false, .int .i64 0, .int .i64 0, .int .i64 0]
theorem size31 : (Try.prog.info? 31).map (·.size) = some 6 := by kernel_rfl
/-- a reference's disk, its lists in blocks of xs -/
structure RVat (w : World) (xs : List Nat) (x : RA) (r : RX) : Prop where
  sl : x.safe.length = r.n
  pl : x.pend.length = r.m
  nc : r.n ≤ r.c
  mc : r.m ≤ r.c2
  n0 : r.A = none → r.c = 0
  m0 : r.A2 = none → r.c2 = 0
  sb : Blks w w.heap.size r.A x.safe
  pb : Wrs w w.heap.size r.A2 x.pend
  sx : ∀ b o s, r.A = some ⟨b, o, s⟩ → b ∈ xs
  px : ∀ b o s, r.A2 = some ⟨b, o, s⟩ → b ∈ xs
  lt : ∀ b ∈ xs, b < w.heap.size
theorem Wrs.below {w w' : World} {B : Nat} {A : Option Addr} {ps : List (Int × List UInt8)} (h : Wrs w B A ps) (hb : Below B w w') : Wrs w' B A ps := fun hp => by
  obtain ⟨b, o, e, hlt, hr⟩ := h hp
  exact ⟨b, o, e, hlt, fun i hi => ⟨(hr i hi).1, range_below (hr i hi).2 hb hlt⟩⟩
theorem Wrs.more {w : World} {B B' : Nat} {A : Option Addr} {ps : List (Int × List UInt8)} (h : Wrs w B A ps) (hB : B ≤ B') : Wrs w B' A ps := fun hp => by
  obtain ⟨b, o, e, hlt, hr⟩ := h hp
  exact ⟨b, o, e, by omega, hr⟩
theorem RVat.below {w w' : World} {xs : List Nat} {x : RA} {r : RX} (h : RVat w xs x r) (hb : Below w.heap.size w w') : RVat w' xs x r :=
  ⟨h.sl, h.pl, h.nc, h.mc, h.n0, h.m0, (h.sb.below hb).more hb.size, (h.pb.below hb).more hb.size, h.sx, h.px, fun b hb' => Nat.lt_of_lt_of_le (h.lt b hb') hb.size⟩
/-- the numbers turn -/
theorem RVat.turn {w : World} {xs : List Nat} {x y : RA} {r : RX} (h : RVat w xs x r) (h1 : y.safe = x.safe) (h2 : y.pend = x.pend) : RVat w xs y r :=
  ⟨by rw [h1]; exact h.sl, by rw [h2]; exact h.pl, h.nc, h.mc, h.n0, h.m0, by rw [h1]; exact h.sb, by rw [h2]; exact h.pb, h.sx, h.px, h.lt⟩
/-- what a reference's disk may be -/
structure RL (x : RA) : Prop where
  len : 1 ≤ x.safe.length ∧ x.safe.length ≤ 2048
  few : x.pend.length ≤ 1000000
  inr : ∀ p ∈ x.pend, 0 ≤ p.1 ∧ p.1 < (x.safe.length : Int) ∧ p.2.length = 64
structure RGood (x : RA) : Prop extends RL x where
  left : -1 ≤ x.left ∧ x.left ≤ 9223372036854775807
  fails : -1 ≤ x.fails ∧ x.fails ≤ 9223372036854775807
  ops : 0 ≤ x.ops ∧ x.ops ≤ 1000001
theorem Agr.rgood {t : Nat} {d : DM} {x : RA} (h : Agr t d x) (ht : t ≤ 1000000) : RGood x := by
  have hg := h.good
  have hl := hg.left
  refine ⟨⟨?_, ?_, fun p hp => ?_⟩, ?_, ?_, ?_⟩
  · rw [h.len_eq]; exact ⟨hg.pos, hg.most⟩
  · rw [h.pend, List.length_map]; have := h.len; omega
  · rw [h.pend] at hp
    obtain ⟨q, hq, rfl⟩ := List.mem_map.1 hp
    have := hg.pend q hq
    rw [h.len_eq]
    exact ⟨this.1, this.2.1, this.2.2.2⟩
  · rw [h.left]; unfold count; split <;> omega
  · rw [h.fails]; unfold count; split <;> omega
  · rw [h.ops]; have := h.ops0; omega
theorem wpList_maxm {ops : Array Oper} {rest : List Oper} {o : Oper} {a : Act} {w : World} {Q : Exit → Act → World → Prop} (hgd : o.guard = none) (x : Operand)
    (ho : o.op = .call { callee := .builtin .max, args := #[x, .const (.int .i64 (-1))], argTypes := #[3, 3] }) (N M : Int) (hx : a.eval x = .int .i64 N) (hM : M = if N < -1 then -1 else N)
    (h : wpList Try.prog ops Q rest (a.put o.dst (.int .i64 M)) w) : wpList Try.prog ops Q (o :: rest) a w :=
  wpList_plain hgd fun _ hK => by
    have hK := hK _ _ h
    have hrun : ∀ ty, (Builtin.max_ #[3, 3] ty #[.int .i64 N, .int .i64 (-1)]).run Try.prog w = .ok (.int .i64 M) w := fun ty => by
      rw [hM]
      by_cases hn : N < -1 <;> simp [Builtin.max_, Builtin.max2, hn]
    have h0 : a.eval (.const (.int .i64 (-1))) = .int .i64 (-1) := rfl
    unfold Oper.wp
    simp [execOp, ho, resolve, invoke, builtin, hx, h0, hrun, Result.andThen]
    exact hK

set_option maxHeartbeats 1000000 in
theorem rarm_any (x : RA) (r : RX) (N : Int) (w : World) :
    Calls Try.prog 32 #[x.val r, .int .i64 N] w fun e w' => e = .returned (.tuple #[(x.armR N).1.val r, .int .i64 (x.armR N).2]) ∧ Below w.heap.size w w' := by
  obtain ⟨safe, pend, dead, left, fails, ops⟩ := x
  obtain ⟨A, n, c, A2, m, c2⟩ := r
  obtain ⟨M, hM⟩ : ∃ M : Int, M = (if N < -1 then -1 else N) := ⟨_, rfl⟩
  cases dead with
  | true =>
    clear hM
    show Calls _ _ #[.agg #[.slice A n c, .slice A2 m c2, .bool true, .int .i64 left, .int .i64 fails, .int .i64 ops], .int .i64 N] w _
    go_enter Try.func32, Try.ntmps32
    go_wp2
    exact bodyPost_ret (v := .tuple #[.agg #[.slice A n c, .slice A2 m c2, .bool true, .int .i64 left, .int .i64 fails, .int .i64 ops], .int .i64 9]) (by simp [results, Try.results32, go_sem]) rfl ⟨rfl, ((Below.refl _ _).alloc (Nat.le_refl _) _).alloc (by simp) _⟩
  | false =>
    have e : (({ safe := safe, pend := pend, dead := false, left := left, fails := fails, ops := ops } : RA).armR N) = ({ safe := safe, pend := pend, dead := false, left := M, fails := fails, ops := ops }, 0) := by
      rw [hM]; rfl
    rw [e]
    have HM := Lib.hid hM
    clear hM e
    show Calls _ _ #[.agg #[.slice A n c, .slice A2 m c2, .bool false, .int .i64 left, .int .i64 fails, .int .i64 ops], .int .i64 N] w _
    go_enter Try.func32, Try.ntmps32
    go_wp2_with (refine wpList_maxm (o := ⟨some 10, _, _, _, _, _⟩) rfl (.tmp 9) rfl N M rfl HM.out ?_)
    exact bodyPost_ret (v := .tuple #[.agg #[.slice A n c, .slice A2 m c2, .bool false, .int .i64 M, .int .i64 fails, .int .i64 ops], .int .i64 0]) (by simp [results, Try.results32, go_sem]) rfl ⟨rfl, ((Below.refl _ _).alloc (Nat.le_refl _) _).alloc (by simp) _⟩

set_option maxHeartbeats 1000000 in
theorem rfail_any (x : RA) (r : RX) (N : Int) (w : World) :
    Calls Try.prog 33 #[x.val r, .int .i64 N] w fun e w' => e = .returned (.tuple #[(x.failR N).1.val r, .int .i64 (x.failR N).2]) ∧ Below w.heap.size w w' := by
  obtain ⟨safe, pend, dead, left, fails, ops⟩ := x
  obtain ⟨A, n, c, A2, m, c2⟩ := r
  obtain ⟨M, hM⟩ : ∃ M : Int, M = (if N < -1 then -1 else N) := ⟨_, rfl⟩
  cases dead with
  | true =>
    clear hM
    show Calls _ _ #[.agg #[.slice A n c, .slice A2 m c2, .bool true, .int .i64 left, .int .i64 fails, .int .i64 ops], .int .i64 N] w _
    go_enter Try.func33, Try.ntmps33
    go_wp2
    exact bodyPost_ret (v := .tuple #[.agg #[.slice A n c, .slice A2 m c2, .bool true, .int .i64 left, .int .i64 fails, .int .i64 ops], .int .i64 9]) (by simp [results, Try.results33, go_sem]) rfl ⟨rfl, ((Below.refl _ _).alloc (Nat.le_refl _) _).alloc (by simp) _⟩
  | false =>
    have e : (({ safe := safe, pend := pend, dead := false, left := left, fails := fails, ops := ops } : RA).failR N) = ({ safe := safe, pend := pend, dead := false, left := left, fails := M, ops := ops }, 0) := by
      rw [hM]; rfl
    rw [e]
    have HM := Lib.hid hM
    clear hM e
    show Calls _ _ #[.agg #[.slice A n c, .slice A2 m c2, .bool false, .int .i64 left, .int .i64 fails, .int .i64 ops], .int .i64 N] w _
    go_enter Try.func33, Try.ntmps33
    go_wp2_with (refine wpList_maxm (o := ⟨some 10, _, _, _, _, _⟩) rfl (.tmp 9) rfl N M rfl HM.out ?_)
    exact bodyPost_ret (v := .tuple #[.agg #[.slice A n c, .slice A2 m c2, .bool false, .int .i64 left, .int .i64 M, .int .i64 ops], .int .i64 0]) (by simp [results, Try.results33, go_sem]) rfl ⟨rfl, ((Below.refl _ _).alloc (Nat.le_refl _) _).alloc (by simp) _⟩
end Go.Proofs.Ytbfpadilcfelbaa.Dsk
