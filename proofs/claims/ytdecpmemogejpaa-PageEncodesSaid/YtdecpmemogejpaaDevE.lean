/-
  Blocks that are compared.
-/
import Derived.Test.YtdecpmemogejpaaDev0
import Derived.ChangeKeysEq
namespace Go.Proofs.Ytdecpmemogejpaa.Dsk
set_option maxRecDepth 100000
open Go.RowKit Go.Proofs.Ytdecpmemogejpaa.Wd

theorem plain_u8 : Try.prog.plainKey 5 = true := by kernel_rfl
theorem guard39 : Try.prog.eqGuardType Try.prog.depth 58 = false := by kernel_rfl
theorem cellsU8 : Try.prog.cellsOf 5 = 1 := by kernel_rfl
theorem info_u8 : ∃ i, Try.prog.info? 5 = some i := info_of_underlying Try.underlying5
theorem run_items (w : World) (d : Nat) (a b : List UInt8) : ∀ is : List Nat, (∀ i ∈ is, i < a.length ∧ i < b.length) →
    (Op.eqItems (d + 1) 5 1 (bv a).toArray (bv b).toArray is).run Try.prog w = .ok (is.all fun i => a.getD i 0 == b.getD i 0) w
  | [], _ => by simp [Op.eqItems]
  | i :: is, h => by
    have h1 := h i (by simp)
    have pa := run_part_plain (P := Try.prog) w plain_u8 (xs := (bv a).toArray) (off := i * 1) (v := .int .u8 ((a.getD i 0).toNat : Int)) (by simp [bv, h1.1])
    have pb := run_part_plain (P := Try.prog) w plain_u8 (xs := (bv b).toArray) (off := i * 1) (v := .int .u8 ((b.getD i 0).toNat : Int)) (by simp [bv, h1.2])
    have pe := run_equalIn_int (P := Try.prog) w d 5 .u8 .u8 ((a.getD i 0).toNat : Int) ((b.getD i 0).toNat : Int) Try.underlying5
    have ih := run_items w d a b is (fun j hj => h j (by simp [hj]))
    have hq : (((a.getD i 0).toNat : Int) == ((b.getD i 0).toNat : Int)) = (a.getD i 0 == b.getD i 0) := by
      rw [Bool.eq_iff_iff]
      simp only [beq_iff_eq, Int.natCast_inj, UInt8.toNat_inj]
    simp only [Op.eqItems, Sem.run_bind, pa, pb, pe, Result.andThen_ok, hq]
    cases hc : (a.getD i 0 == b.getD i 0)
    · simp only [Bool.not_false, if_true, Sem.run_pure, List.all_cons, hc, Bool.false_and]
    · simp only [Bool.not_true, Bool.false_eq_true, if_false, List.all_cons, hc, Bool.true_and]
      exact ih
theorem run_equal_blk (w : World) (a b : List UInt8) (ha : a.length = 64) (hb : b.length = 64) :
    (Op.equalIn 10000 58 (blk a) (blk b)).run Try.prog w = .ok (decide (a = b)) w := by
  obtain ⟨i, hi⟩ := info_u8
  have h := run_equalIn_array (P := Try.prog) w 9999 (bv a).toArray (bv b).toArray Try.underlying58 hi
  rw [cellsU8, run_items w 9998 a b (List.range 64) (fun i hi => by have := List.mem_range.1 hi; omega)] at h
  refine h.trans ?_
  congr 1
  rw [Bool.eq_iff_iff, List.all_eq_true, decide_eq_true_eq]
  constructor
  · intro hh
    apply List.ext_getElem (by omega)
    intro n h1 h2
    have := hh n (List.mem_range.2 (by omega))
    simpa [h1, h2] using this
  · rintro rfl j hj
    simp
section
variable {ops : Array Oper} {rest : List Oper} {o : Oper} {a : Act} {w : World} {Q : Exit → Act → World → Prop}
theorem run_eql_blk (w : World) (x y : Operand) (l m : List UInt8) (hl : l.length = 64) (hm : m.length = 64) : (do eqGuard .eql 58 x y (blk l) (blk m); binOp .eql 58 (blk l) (blk m)).run Try.prog w = .ok (.bool (decide (l = m))) w := by
  rw [Sem.run_bind, show (eqGuard .eql 58 x y (blk l) (blk m)).run Try.prog w = .ok () w from run_eqGuard_agg w _ _ _ _ _ _ guard39, Result.andThen_ok]
  have h := run_eql_struct (P := Try.prog) w 58 (bv l).toArray (bv m).toArray
  have h2 := run_equal_blk w l m hl hm
  unfold blk at h2 ⊢
  rw [h, h2, Result.andThen_ok]
theorem run_neq_blk (w : World) (x y : Operand) (l m : List UInt8) (hl : l.length = 64) (hm : m.length = 64) : (do eqGuard .neq 58 x y (blk l) (blk m); binOp .neq 58 (blk l) (blk m)).run Try.prog w = .ok (.bool (!decide (l = m))) w := by
  rw [Sem.run_bind, show (eqGuard .neq 58 x y (blk l) (blk m)).run Try.prog w = .ok () w from run_eqGuard_agg w _ _ _ _ _ _ guard39, Result.andThen_ok]
  have h := run_neq_struct (P := Try.prog) w 58 (bv l).toArray (bv m).toArray
  have h2 := run_equal_blk w l m hl hm
  unfold blk at h2 ⊢
  rw [h, h2, Result.andThen_ok]
theorem wpList_eql_blk (hw : Region.wanted o (yielded ops a.tmps) = true) (x y : Operand) (ho : o.op = .binOp .eql 58 x y 58) (l m : List UInt8) (hx : a.eval x = blk l) (hy : a.eval y = blk m) (hl : l.length = 64) (hm : m.length = 64)
    (h : wpList Try.prog ops Q rest (a.put o.dst (.bool (decide (l = m)))) w) : wpList Try.prog ops Q (o :: rest) a w :=
  wpList_wanted hw fun K hK => by
    have hr := run_eql_blk w x y l m hl hm
    rw [Sem.run_bind] at hr
    unfold Oper.wp execOp
    simp only [ho, hx, hy, Sem.run_bind]
    revert hr
    generalize (eqGuard .eql 58 x y (blk l) (blk m)).run Try.prog w = r
    intro hr
    cases r with
    | halt e u => simp [Result.andThen] at hr
    | ok z u =>
      simp only [Result.andThen_ok] at hr ⊢
      rw [hr]
      exact hK _ _ h
theorem wpList_neq_blk (hw : Region.wanted o (yielded ops a.tmps) = true) (x y : Operand) (ho : o.op = .binOp .neq 58 x y 58) (l m : List UInt8) (hx : a.eval x = blk l) (hy : a.eval y = blk m) (hl : l.length = 64) (hm : m.length = 64)
    (h : wpList Try.prog ops Q rest (a.put o.dst (.bool (!decide (l = m)))) w) : wpList Try.prog ops Q (o :: rest) a w :=
  wpList_wanted hw fun K hK => by
    have hr := run_neq_blk w x y l m hl hm
    rw [Sem.run_bind] at hr
    unfold Oper.wp execOp
    simp only [ho, hx, hy, Sem.run_bind]
    revert hr
    generalize (eqGuard .neq 58 x y (blk l) (blk m)).run Try.prog w = r
    intro hr
    cases r with
    | halt e u => simp [Result.andThen] at hr
    | ok z u =>
      simp only [Result.andThen_ok] at hr ⊢
      rw [hr]
      exact hK _ _ h
end
end Go.Proofs.Ytdecpmemogejpaa.Dsk
