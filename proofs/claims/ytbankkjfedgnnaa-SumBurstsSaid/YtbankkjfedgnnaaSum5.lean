/-
  The contract of the statements' own call that turns bits.
-/
import Derived.Test.YtbankkjfedgnnaaSum3
namespace Go.Proofs.Ytbankkjfedgnnaa.Sum
open Go.RowKit Go.Proofs.Ytbankkjfedgnnaa.Wd Go.Proofs.Ytbankkjfedgnnaa.Oct Go.Proofs.Ytbankkjfedgnnaa.Sm

theorem wpList_max0 {ops : Array Oper} {rest : List Oper} {o : Oper} {a : Act} {w : World} {Q : Exit → Act → World → Prop} (hgd : o.guard = none) (x : Operand)
    (ho : o.op = .call { callee := .builtin .max, args := #[x, .const (.int .i64 0)], argTypes := #[3, 3] }) (N M : Int) (hx : a.eval x = .int .i64 N) (hM : M = if N < 0 then 0 else N)
    (h : wpList Try.prog ops Q rest (a.put o.dst (.int .i64 M)) w) : wpList Try.prog ops Q (o :: rest) a w :=
  wpList_plain hgd fun _ hK => by
    have hK := hK _ _ h
    have hrun : ∀ ty, (Builtin.max_ #[3, 3] ty #[.int .i64 N, .int .i64 0]).run Try.prog w = .ok (.int .i64 M) w := fun ty => by
      rw [hM]
      by_cases hn : N < 0 <;> simp [Builtin.max_, Builtin.max2, hn]
    have h0 : a.eval (.const (.int .i64 0)) = .int .i64 0 := rfl
    unfold Oper.wp
    simp [execOp, ho, resolve, invoke, builtin, hx, h0, hrun, Result.andThen]
    exact hK
theorem pow_mod8 (q : Nat) (h : q < 8) : (2 : Int) ^ q % 256 = ((2 ^ q : Nat) : Int) := by
  have e : ∀ q : Fin 8, (2 : Int) ^ q.val % 256 = ((2 ^ q.val : Nat) : Int) := by decide
  exact e ⟨q, h⟩
/-- where turning begins -/
def turnFrom (at_ : Int) (n : Nat) : Nat := at_.toNat % (8 * n)
/-- what turning leaves -/
def Trn (w : World) (n : Nat) (b : Bool) (l : List UInt8) (e : Ending) (w' : World) : Prop :=
  ∃ A c, e = .returned (.tuple #[.slice A n c, .bool b]) ∧ n ≤ c ∧ (A = none → c = 0) ∧ Bs w' w'.heap.size A l ∧ Below w.heap.size w w'

set_option maxHeartbeats 1000000 in
theorem turned_any (A : Option Addr) (l : List UInt8) (c n nb mask : Nat) (at_ : Int) (w : World) (h1 : l.length = n) (hn : 0 < n) (hm : n ≤ 10000) (hnb : nb ≤ 64) (hmask : mask < 18446744073709551616) (ha1 : -9223372036854775808 ≤ at_) (ha2 : at_ ≤ 9223372036854775807)
    (hA : A = none → c = 0) (r : Bs w w.heap.size A l) :
    Calls Try.prog 22 #[.slice A n c, .int .i64 at_, .int .u64 (mask : Int), .int .i64 (nb : Int)] w (Trn w n (decide (low mask (turnFrom at_ n) l nb ≠ 0)) (flips mask (turnFrom at_ n) l nb)) := by
  obtain ⟨i0, hi, hz0, hz1, hz2⟩ := info_parts info5
  have H1 := Lib.hid h1; clear h1
  have HA := Lib.hid hA; clear hA
  obtain ⟨M, hM⟩ : ∃ M : Int, M = if at_ < 0 then 0 else at_ := ⟨_, rfl⟩
  have hM0 : 0 ≤ M := by rw [hM]; split <;> omega
  have hM1 : M ≤ 9223372036854775807 := by rw [hM]; split <;> omega
  have hMt : M.toNat = at_.toNat := by rw [hM]; split <;> omega
  have HM := Lib.hid hM
  clear hM
  obtain ⟨k, hk⟩ : ∃ k : Nat, turnFrom at_ n = k := ⟨_, rfl⟩
  rw [hk]
  have hkl : k < 8 * n := by rw [← hk]; exact Nat.mod_lt _ (by omega)
  have hkM : M % (8 * (n : Int)) = (k : Int) := by
    have e : ((M.toNat % (8 * n) : Nat) : Int) = M % (8 * (n : Int)) := by rw [Int.natCast_emod, Int.toNat_of_nonneg hM0]; simp
    rw [← hk, turnFrom, ← hMt, e]
  clear hk hMt
  have OW : Hid ((w.alloc (.cells #[] 5)).ownsRow w.heap.size 5 1 (.slice (some ⟨w.heap.size, 0, none⟩) 0 0) 0 []) := World.ownsRow_made w #[] 0 (Nat.le_refl _) (Nat.zero_le _) rfl
  have OB : Hid (Bs (w.alloc (.cells #[] 5)) w.heap.size A l) := r.alloc (Nat.le_refl _) _
  have OS : w.heap.size ≤ (w.alloc (.cells #[] 5)).heap.size := by simp
  go_enter Try.func22, Try.ntmps22
  go_wp2_with (first
    | (at_builtin; refine wpList_append_bs (by rfl) _ _ 22 rfl w.heap.size 5 i0 (.int .u8 0) Try.underlying22 hi hz0 hz1 hz2 rfl (.slice (some ⟨w.heap.size, 0, none⟩) 0 0) 0 [] rfl OW.out A n c l rfl H1.out w.heap.size OB.out HA.out (by omega) OS ?_; intro v w2 hown2 hg2)
    | (refine wpList_max0 (o := ⟨some 19, _, _, _, _, _⟩) rfl (.tmp 18) rfl at_ M rfl HM.out ?_))
  have hb2 : Below w.heap.size w w2 := ((Below.refl _ _).alloc (Nat.le_refl _) _).grown hg2 (by simp) (fun j hj => by simp [Value.ownBlock] at hj; omega)
  obtain ⟨g, cap, cur, rfl, hgw, hnc, hrow, hcur⟩ : ∃ g cap cur, v = .slice (some ⟨g, 0, none⟩) n cap ∧ w.heap.size ≤ g ∧ n ≤ cap ∧ Row w2 g 5 cur ∧ cur.take n = bv l := by
    rcases hown2.2 with ⟨_, h0⟩ | ⟨g, cap, cur, rfl, hb, hg, hnc, hcm, hs, ht⟩
    · omega
    · exact ⟨g, cap, cur.toList, by simp, hb, by omega, (by show _ = _; simpa using hg), by simpa using ht⟩
  have HR : Hid (Row w2 g 5 cur) := hrow
  have HC := Lib.hid hcur
  have HB2 := Lib.hid hb2
  clear hown2 hg2 hb2 hrow hcur
  rw [hkM]
  clear hkM
  go_loopw [12, 25] (fun b i wr => ∃ (j : Nat) (cu : List Value), j ≤ nb ∧ i = .int .i64 (j : Int) ∧ b = .bool (decide (low mask k l j ≠ 0)) ∧ Hid (Row wr g 5 cu) ∧ Hid (cu.take n = bv (flips mask k l j)) ∧ Hid (Below w.heap.size w wr)) (fun _ i _ => nb - (intOf i).toNat)
  case atStart => exact ⟨0, cur, by omega, rfl, by simp [low, Nat.mod_one], HR, HC, HB2⟩
  case round =>
    obtain ⟨j, cu, hj, rfl, rfl, hr, hcu, hb⟩ := hrel
    clear HR HC HB2
    by_cases hlt : j < nb
    · have HL := Lib.hid (low_succ mask k l j)
      have HF : Hid (flips mask k l (j + 1) = if mask.testBit j = true ∧ k + j < 8 * l.length then flip (flips mask k l j) (k + j) else flips mask k l j) := (show _ = _ from rfl)
      rw [H1.out] at HL HF
      have hq : ((mask : Int) / 2 ^ j) = ((mask / 2 ^ j : Nat) : Int) := by push_cast; rfl
      have hq1 := u64_and_nat (mask / 2 ^ j) 1 (Nat.lt_of_le_of_lt (Nat.div_le_self _ _) hmask) (by omega)
      rw [← hq, Nat.and_one_is_mod] at hq1
      have HD := Nat.testBit_eq_decide_div_mod_eq (x := mask) (i := j)
      by_cases hbit : mask.testBit j = true
      · have h1 : bits .and .u64 ((mask : Int) / 2 ^ j) 1 = 1 := by
          rw [hbit] at HD
          have := of_decide_eq_true HD.symm
          rw [this] at hq1
          exact hq1
        clear hq hq1 HD
        have HBIT := Lib.hid hbit
        clear hbit
        by_cases hin : k + j < 8 * n
        · have hlen : (flips mask k l j).length = n := by rw [flips_length, H1.out]
          have hpd : (k + j) / 8 < n := by omega
          have hp : ((k : Int) + (j : Int)) / 8 = (((k + j) / 8 : Nat) : Int) := by omega
          have hrm : ((k : Int) + (j : Int)) % 8 = (((k + j) % 8 : Nat) : Int) := by omega
          have hrl : (k + j) % 8 < 8 := by omega
          have hcell : wr.cell? ⟨g, (k + j) / 8, none⟩ = some (.int .u8 (((flips mask k l j).getD ((k + j) / 8) 0).toNat : Int)) := by
            rw [hr.out.cell]
            have e := congrArg (fun z : List Value => z[(k + j) / 8]?) hcu.out
            simp only [List.getElem?_take] at e
            rw [if_pos hpd] at e
            rw [e]
            simp [bv, hlen, hpd]
          have hfr := hr.out.frozen ((k + j) / 8)
          have HX : Hid (flip (flips mask k l j) (k + j) = (flips mask k l j).set ((k + j) / 8) ((flips mask k l j).getD ((k + j) / 8) 0 ^^^ bitAt (k + j))) := (show _ = _ from rfl)
          have HBA := Lib.hid (bitAt_nat (k + j))
          have HPD : Hid ((k + j) / 8 < n) := hpd
          have HLN : Hid ((flips mask k l j).length = n) := hlen
          have hin2 : (k : Int) + (j : Int) < 8 * (n : Int) := by omega
          clear hlen
          generalize hpe : (k + j) / 8 = p at hpd hp hcell hfr HX HPD
          generalize hre : (k + j) % 8 = q at hrm hrl HBA
          generalize (flips mask k l j).getD p 0 = x at hcell HX
          clear hpe hre
          go_wp2_with fail
          go_region
          have hv : bits .xor .u8 (x.toNat : Int) (2 ^ q % 256) = ((x ^^^ bitAt (k + j)).toNat : Int) := by
            have e1 := pow_mod8 q hrl
            rw [e1, ← HBA.out, u8_xor_v]
          have hr3 : Row (wr.setCell ⟨g, p, none⟩ (.int .u8 (bits .xor .u8 (x.toNat : Int) (2 ^ q % 256)))).drew g 5 (cu.set p (.int .u8 ((x ^^^ bitAt (k + j)).toNat : Int))) := by
            rw [hv]; exact (hr.out.store p _).drew
          have hb3 : Below w.heap.size w (wr.setCell ⟨g, p, none⟩ (.int .u8 (bits .xor .u8 (x.toNat : Int) (2 ^ q % 256)))).drew := below_still (hb.out.setCell hgw _) ⟨1, rfl⟩
          generalize (wr.setCell ⟨g, p, none⟩ (.int .u8 (bits .xor .u8 (x.toNat : Int) (2 ^ q % 256)))).drew = w3 at hr3 hb3 ⊢
          have HR3 := Lib.hid hr3
          have HB3 := Lib.hid hb3
          have HCU : Hid ((cu.set p (.int .u8 ((x ^^^ bitAt (k + j)).toNat : Int))).take n = bv (flips mask k l (j + 1))) := (show _ = _ by
            rw [HF.out, if_pos ⟨HBIT.out, hin⟩, HX.out, List.take_set, hcu.out]
            simp [bv, List.map_set])
          have HNZ : Hid (low mask k l (j + 1) ≠ 0) := (show _ ≠ _ from low_ne mask k l j ⟨HBIT.out, by rw [H1.out]; exact hin⟩)
          clear hr3 hb3 hv hr hb hcu
          go_wp2
          go_roundw
          case rel => exact ⟨j + 1, _, by omega, by go_num, by rw [decide_eq_true HNZ.out], HR3, HCU, HB3⟩
          case measure => simp [intOf]; omega
        · have hin2 : ¬ (k : Int) + (j : Int) < 8 * (n : Int) := by omega
          have HN : Hid (¬ (mask.testBit j = true ∧ k + j < 8 * n)) := (show ¬ _ from fun h => hin h.2)
          go_wp2
          go_roundw
          case rel => exact ⟨j + 1, cu, by omega, by go_num, by rw [HL.out, if_neg HN.out], hr, (show _ = _ by rw [HF.out, if_neg HN.out]; exact hcu.out), hb⟩
          case measure => simp [intOf]; omega
      · have h1 : bits .and .u64 ((mask : Int) / 2 ^ j) 1 = 0 := by
          have h2 : ¬ mask / 2 ^ j % 2 = 1 := fun h => hbit (by rw [HD]; exact decide_eq_true h)
          have h3 : mask / 2 ^ j % 2 = 0 := by omega
          rw [h3] at hq1
          exact hq1
        have HN : Hid (¬ (mask.testBit j = true ∧ k + j < 8 * n)) := (show ¬ _ from fun h => hbit h.1)
        clear hq hq1 HD hbit
        go_wp2
        go_roundw
        case rel => exact ⟨j + 1, cu, by omega, by go_num, by rw [HL.out, if_neg HN.out], hr, (show _ = _ by rw [HF.out, if_neg HN.out]; exact hcu.out), hb⟩
        case measure => simp [intOf]; omega
    · obtain rfl : j = nb := by omega
      have HQ : Hid (Bs wr wr.heap.size (some ⟨g, 0, none⟩) (flips mask k l j)) := (show Bs _ _ _ _ from fun hp => ⟨g, 0, rfl, hr.out.lt, fun i hi => by
        rw [Nat.zero_add, hr.out.cell]
        have hl : (flips mask k l j).length = n := by rw [flips_length, H1.out]
        have e := congrArg (fun z : List Value => z[i]?) hcu.out
        simp only [List.getElem?_take] at e
        rw [if_pos (by omega)] at e
        rw [e]
        simp [bv, hi]⟩)
      clear hr hcu
      go_wp2
      go_ret2
      exact ⟨_, cap, rfl, hnc, (fun hh => by cases hh), HQ.out, hb.out⟩
end Go.Proofs.Ytbankkjfedgnnaa.Sum
