/-
  What was encoded is decoded as it was; of each beginning it is too short. No program here.
-/
import Derived.Test.YtnljhopikjkflaaRec10
namespace Go.Proofs.Ytnljhopikjkflaa.Rec
set_option maxRecDepth 100000
open Go.RowKit Go.Proofs.Ytnljhopikjkflaa.Wd Go.Proofs.Ytnljhopikjkflaa.Oct

theorem step_at (l a x b : List UInt8) (hl : l = a ++ (x ++ b)) (k : Int) (hk : k = x.length) : Oct.step l a.length 0 k = (x, (a ++ x).length, 0) := by
  subst hl hk
  unfold Oct.step
  rw [if_neg (by simp), if_neg (by omega), if_neg (by simp; omega)]
  simp
theorem step_err (l : List UInt8) (at_ : Nat) (k e : Int) (h : e ≠ 0) : Oct.step l at_ e k = ([], at_, e) := by
  unfold Oct.step
  rw [if_pos h]
theorem num_ub (n : Nat) (h : n < 256) : num [ub n] = n := by
  simp [num, ub]
  omega
theorem rn8_at (l a b : List UInt8) (x : Nat) (hl : l = a ++ (hi 8 x ++ b)) (hx : InU64 x) : rn 8 l (a.length, 0) = (x, ((a ++ hi 8 x).length, 0)) := by
  unfold rn
  simp only
  rw [step_at l a (hi 8 x) b hl 8 (by simp [hi_length])]
  rw [num_hi, Nat.mod_eq_of_lt (show x < 256 ^ 8 from hx)]
theorem rn1_at (l a b : List UInt8) (n : Nat) (hl : l = a ++ (ub n :: b)) (hn : n < 256) : rn 1 l (a.length, 0) = (n, ((a ++ [ub n]).length, 0)) := by
  unfold rn
  simp only
  rw [step_at l a [ub n] b (by simpa using hl) 1 (by simp)]
  simp only [num_ub n hn]
theorem rb_at (l a b q : List UInt8) (hl : l = a ++ (itemM q ++ b)) (hq : q.length < 256) : rb l (a.length, 0) = (q, ((a ++ itemM q).length, 0)) := by
  unfold rb
  rw [rn1_at l a (q ++ b) q.length (by simpa [itemM] using hl) hq]
  simp only
  rw [step_at l (a ++ [ub q.length]) q b (by simpa [itemM] using hl) _ rfl]
  simp [itemM]
theorem fields_one (r : RM) (l b : List UInt8) (p q : Nat) (hp : p < 256) (hq : q < 256) (ho : r.old.length < 256) (hn : r.new.length < 256) (u1 : InU64 r.lsn) (u2 : InU64 r.txn) (u3 : InU64 r.back) (u4 : InU64 r.next) (hl : l = [ub 1] ++ hi 8 r.lsn ++ hi 8 r.txn ++ hi 8 r.back ++ [ub p] ++ [ub q] ++ itemM r.old ++ itemM r.new ++ b) :
    rn 1 l (0, 0) = (1, (([ub 1] : List UInt8).length, 0)) ∧ fieldsM l true true true false (([ub 1] : List UInt8).length, 0) = (⟨r.lsn, 0, r.txn, r.back, (p : Int), (q : Int), r.old, r.new, 0⟩, ((([] : List UInt8) ++ [ub 1] ++ hi 8 r.lsn ++ hi 8 r.txn ++ hi 8 r.back ++ [ub p] ++ [ub q] ++ itemM r.old ++ itemM r.new).length, 0)) := by
  have c0 := rn1_at l (([] : List UInt8)) (hi 8 r.lsn ++ hi 8 r.txn ++ hi 8 r.back ++ [ub p] ++ [ub q] ++ itemM r.old ++ itemM r.new ++ b) 1 (by rw [hl]; simp [List.append_assoc]) (by omega)
  have c1 := rn8_at l (([] : List UInt8) ++ [ub 1]) (hi 8 r.txn ++ hi 8 r.back ++ [ub p] ++ [ub q] ++ itemM r.old ++ itemM r.new ++ b) r.lsn (by rw [hl]; simp [List.append_assoc]) (by assumption)
  have c2 := rn8_at l (([] : List UInt8) ++ [ub 1] ++ hi 8 r.lsn) (hi 8 r.back ++ [ub p] ++ [ub q] ++ itemM r.old ++ itemM r.new ++ b) r.txn (by rw [hl]; simp [List.append_assoc]) (by assumption)
  have c3 := rn8_at l (([] : List UInt8) ++ [ub 1] ++ hi 8 r.lsn ++ hi 8 r.txn) ([ub p] ++ [ub q] ++ itemM r.old ++ itemM r.new ++ b) r.back (by rw [hl]; simp [List.append_assoc]) (by assumption)
  have c4 := rn1_at l (([] : List UInt8) ++ [ub 1] ++ hi 8 r.lsn ++ hi 8 r.txn ++ hi 8 r.back) ([ub q] ++ itemM r.old ++ itemM r.new ++ b) p (by rw [hl]; simp [List.append_assoc]) (by omega)
  have c5 := rn1_at l (([] : List UInt8) ++ [ub 1] ++ hi 8 r.lsn ++ hi 8 r.txn ++ hi 8 r.back ++ [ub p]) (itemM r.old ++ itemM r.new ++ b) q (by rw [hl]; simp [List.append_assoc]) (by omega)
  have c6 := rb_at l (([] : List UInt8) ++ [ub 1] ++ hi 8 r.lsn ++ hi 8 r.txn ++ hi 8 r.back ++ [ub p] ++ [ub q]) (itemM r.new ++ b) r.old (by rw [hl]; simp [List.append_assoc]) (by omega)
  have c7 := rb_at l (([] : List UInt8) ++ [ub 1] ++ hi 8 r.lsn ++ hi 8 r.txn ++ hi 8 r.back ++ [ub p] ++ [ub q] ++ itemM r.old) (b) r.new (by rw [hl]; simp [List.append_assoc]) (by omega)
  refine ⟨c0, ?_⟩
  unfold fieldsM pl it nx
  simp only [List.nil_append] at *
  simp only [c1, c2, c3, c4, c5, c6, c7, if_true, if_false, Bool.false_eq_true, Int.natCast_zero]
theorem fields_two (r : RM) (l b : List UInt8) (p q : Nat) (hp : p < 256) (hq : q < 256) (ho : r.old.length < 256) (hn : r.new.length < 256) (u1 : InU64 r.lsn) (u2 : InU64 r.txn) (u3 : InU64 r.back) (u4 : InU64 r.next) (hl : l = [ub 2] ++ hi 8 r.lsn ++ hi 8 r.txn ++ hi 8 r.back ++ [ub p] ++ [ub q] ++ itemM r.new ++ hi 8 r.next ++ b) :
    rn 1 l (0, 0) = (2, (([ub 2] : List UInt8).length, 0)) ∧ fieldsM l true false true true (([ub 2] : List UInt8).length, 0) = (⟨r.lsn, 0, r.txn, r.back, (p : Int), (q : Int), [], r.new, r.next⟩, ((([] : List UInt8) ++ [ub 2] ++ hi 8 r.lsn ++ hi 8 r.txn ++ hi 8 r.back ++ [ub p] ++ [ub q] ++ itemM r.new ++ hi 8 r.next).length, 0)) := by
  have c0 := rn1_at l (([] : List UInt8)) (hi 8 r.lsn ++ hi 8 r.txn ++ hi 8 r.back ++ [ub p] ++ [ub q] ++ itemM r.new ++ hi 8 r.next ++ b) 2 (by rw [hl]; simp [List.append_assoc]) (by omega)
  have c1 := rn8_at l (([] : List UInt8) ++ [ub 2]) (hi 8 r.txn ++ hi 8 r.back ++ [ub p] ++ [ub q] ++ itemM r.new ++ hi 8 r.next ++ b) r.lsn (by rw [hl]; simp [List.append_assoc]) (by assumption)
  have c2 := rn8_at l (([] : List UInt8) ++ [ub 2] ++ hi 8 r.lsn) (hi 8 r.back ++ [ub p] ++ [ub q] ++ itemM r.new ++ hi 8 r.next ++ b) r.txn (by rw [hl]; simp [List.append_assoc]) (by assumption)
  have c3 := rn8_at l (([] : List UInt8) ++ [ub 2] ++ hi 8 r.lsn ++ hi 8 r.txn) ([ub p] ++ [ub q] ++ itemM r.new ++ hi 8 r.next ++ b) r.back (by rw [hl]; simp [List.append_assoc]) (by assumption)
  have c4 := rn1_at l (([] : List UInt8) ++ [ub 2] ++ hi 8 r.lsn ++ hi 8 r.txn ++ hi 8 r.back) ([ub q] ++ itemM r.new ++ hi 8 r.next ++ b) p (by rw [hl]; simp [List.append_assoc]) (by omega)
  have c5 := rn1_at l (([] : List UInt8) ++ [ub 2] ++ hi 8 r.lsn ++ hi 8 r.txn ++ hi 8 r.back ++ [ub p]) (itemM r.new ++ hi 8 r.next ++ b) q (by rw [hl]; simp [List.append_assoc]) (by omega)
  have c6 := rb_at l (([] : List UInt8) ++ [ub 2] ++ hi 8 r.lsn ++ hi 8 r.txn ++ hi 8 r.back ++ [ub p] ++ [ub q]) (hi 8 r.next ++ b) r.new (by rw [hl]; simp [List.append_assoc]) (by omega)
  have c7 := rn8_at l (([] : List UInt8) ++ [ub 2] ++ hi 8 r.lsn ++ hi 8 r.txn ++ hi 8 r.back ++ [ub p] ++ [ub q] ++ itemM r.new) (b) r.next (by rw [hl]; simp [List.append_assoc]) (by assumption)
  refine ⟨c0, ?_⟩
  unfold fieldsM pl it nx
  simp only [List.nil_append] at *
  simp only [c1, c2, c3, c4, c5, c6, c7, if_true, if_false, Bool.false_eq_true, Int.natCast_zero]
theorem fields_three (r : RM) (l b : List UInt8) (u1 : InU64 r.lsn) (u2 : InU64 r.txn) (u3 : InU64 r.back) (u4 : InU64 r.next) (hl : l = [ub 3] ++ hi 8 r.lsn ++ hi 8 r.txn ++ hi 8 r.back ++ b) :
    rn 1 l (0, 0) = (3, (([ub 3] : List UInt8).length, 0)) ∧ fieldsM l false false false false (([ub 3] : List UInt8).length, 0) = (⟨r.lsn, 0, r.txn, r.back, 0, 0, [], [], 0⟩, ((([] : List UInt8) ++ [ub 3] ++ hi 8 r.lsn ++ hi 8 r.txn ++ hi 8 r.back).length, 0)) := by
  have c0 := rn1_at l (([] : List UInt8)) (hi 8 r.lsn ++ hi 8 r.txn ++ hi 8 r.back ++ b) 3 (by rw [hl]; simp [List.append_assoc]) (by omega)
  have c1 := rn8_at l (([] : List UInt8) ++ [ub 3]) (hi 8 r.txn ++ hi 8 r.back ++ b) r.lsn (by rw [hl]; simp [List.append_assoc]) (by assumption)
  have c2 := rn8_at l (([] : List UInt8) ++ [ub 3] ++ hi 8 r.lsn) (hi 8 r.back ++ b) r.txn (by rw [hl]; simp [List.append_assoc]) (by assumption)
  have c3 := rn8_at l (([] : List UInt8) ++ [ub 3] ++ hi 8 r.lsn ++ hi 8 r.txn) (b) r.back (by rw [hl]; simp [List.append_assoc]) (by assumption)
  refine ⟨c0, ?_⟩
  unfold fieldsM pl it nx
  simp only [List.nil_append] at *
  simp only [c1, c2, c3, if_true, if_false, Bool.false_eq_true, Int.natCast_zero]
theorem fields_four (r : RM) (l b : List UInt8) (u1 : InU64 r.lsn) (u2 : InU64 r.txn) (u3 : InU64 r.back) (u4 : InU64 r.next) (hl : l = [ub 4] ++ hi 8 r.lsn ++ hi 8 r.txn ++ hi 8 r.back ++ b) :
    rn 1 l (0, 0) = (4, (([ub 4] : List UInt8).length, 0)) ∧ fieldsM l false false false false (([ub 4] : List UInt8).length, 0) = (⟨r.lsn, 0, r.txn, r.back, 0, 0, [], [], 0⟩, ((([] : List UInt8) ++ [ub 4] ++ hi 8 r.lsn ++ hi 8 r.txn ++ hi 8 r.back).length, 0)) := by
  have c0 := rn1_at l (([] : List UInt8)) (hi 8 r.lsn ++ hi 8 r.txn ++ hi 8 r.back ++ b) 4 (by rw [hl]; simp [List.append_assoc]) (by omega)
  have c1 := rn8_at l (([] : List UInt8) ++ [ub 4]) (hi 8 r.txn ++ hi 8 r.back ++ b) r.lsn (by rw [hl]; simp [List.append_assoc]) (by assumption)
  have c2 := rn8_at l (([] : List UInt8) ++ [ub 4] ++ hi 8 r.lsn) (hi 8 r.back ++ b) r.txn (by rw [hl]; simp [List.append_assoc]) (by assumption)
  have c3 := rn8_at l (([] : List UInt8) ++ [ub 4] ++ hi 8 r.lsn ++ hi 8 r.txn) (b) r.back (by rw [hl]; simp [List.append_assoc]) (by assumption)
  refine ⟨c0, ?_⟩
  unfold fieldsM pl it nx
  simp only [List.nil_append] at *
  simp only [c1, c2, c3, if_true, if_false, Bool.false_eq_true, Int.natCast_zero]

theorem recM_of (l : List UInt8) (k C : Nat) (J2 J4 J8 J16 : Bool) (p : Nat × Int) (F : RM × (Nat × Int)) (h0 : rn 1 l (0, 0) = (k, p)) (hC : countedM (k : Int) = C) (h2 : hasB C 2 = J2) (h4 : hasB C 4 = J4) (h8 : hasB C 8 = J8) (h16 : hasB C 16 = J16) (hF : fieldsM l J2 J4 J8 J16 p = F) :
    recM l 0 = if p.2 = 0 ∧ C = 0 then (150, zeroR, p) else if F.2.2 ≠ 0 then (F.2.2, zeroR, F.2) else if okM (kinded F.1 k) = true then (0, kinded F.1 k, F.2) else (150, zeroR, F.2) := by
  subst hC h2 h4 h8 h16 hF
  unfold recM
  simp only [h0]
theorem len_items (r : RM) : True := trivial
theorem recM_back (r : RM) (b : List UInt8) (hok : okM r = true) (u1 : InU64 r.lsn) (u2 : InU64 r.txn) (u3 : InU64 r.back) (u4 : InU64 r.next) : recM (bytesM r ++ b) 0 = (0, r, ((bytesM r).length, 0)) := by
  have ha := ok_arith r hok
  obtain ⟨p, hp⟩ : ∃ p : Nat, r.page = (p : Int) := ⟨r.page.toNat, by omega⟩
  obtain ⟨q, hq⟩ : ∃ q : Nat, r.slot = (q : Int) := ⟨r.slot.toNat, by omega⟩
  have hk : r.kind = 1 ∨ r.kind = 2 ∨ r.kind = 3 ∨ r.kind = 4 := by omega
  rcases hk with hk | hk | hk | hk
  · have hl : bytesM r ++ b = [ub 1] ++ hi 8 r.lsn ++ hi 8 r.txn ++ hi 8 r.back ++ [ub p] ++ [ub q] ++ itemM r.old ++ itemM r.new ++ b := by simp [bytesM, headM, restM, hk, hp, hq]
    obtain ⟨h0, hF⟩ := fields_one r _ b p q (by omega) (by omega) (by omega) (by omega) u1 u2 u3 u4 hl
    rw [recM_of _ 1 15 true true true false _ _ h0 (by decide) (by decide) (by decide) (by decide) (by decide) hF]
    have e : kinded ⟨r.lsn, 0, r.txn, r.back, (p : Int), (q : Int), r.old, r.new, 0⟩ 1 = r := by
      have hx : r.next = 0 := by omega
      cases r; simp_all [kinded]
    simp only [e, hok, if_true]
    rw [if_neg (by omega), if_neg (by omega)]
    simp [bytesM, headM, restM, hk, hp, hq]
  · have hl : bytesM r ++ b = [ub 2] ++ hi 8 r.lsn ++ hi 8 r.txn ++ hi 8 r.back ++ [ub p] ++ [ub q] ++ itemM r.new ++ hi 8 r.next ++ b := by simp [bytesM, headM, restM, hk, hp, hq]
    obtain ⟨h0, hF⟩ := fields_two r _ b p q (by omega) (by omega) (by omega) (by omega) u1 u2 u3 u4 hl
    rw [recM_of _ 2 27 true false true true _ _ h0 (by decide) (by decide) (by decide) (by decide) (by decide) hF]
    have e : kinded ⟨r.lsn, 0, r.txn, r.back, (p : Int), (q : Int), [], r.new, r.next⟩ 2 = r := by
      have hx : r.old = [] := List.eq_nil_of_length_eq_zero (by omega)
      cases r; simp_all [kinded]
    simp only [e, hok, if_true]
    rw [if_neg (by omega), if_neg (by omega)]
    simp [bytesM, headM, restM, hk, hp, hq]
  · have hl : bytesM r ++ b = [ub 3] ++ hi 8 r.lsn ++ hi 8 r.txn ++ hi 8 r.back ++ b := by simp [bytesM, headM, restM, hk]
    obtain ⟨h0, hF⟩ := fields_three r _ b u1 u2 u3 u4 hl
    rw [recM_of _ 3 1 false false false false _ _ h0 (by decide) (by decide) (by decide) (by decide) (by decide) hF]
    have e : kinded ⟨r.lsn, 0, r.txn, r.back, 0, 0, [], [], 0⟩ 3 = r := by
      have hx : r.next = 0 := by omega
      have h1 : r.old = [] := List.eq_nil_of_length_eq_zero (by omega)
      have h2 : r.new = [] := List.eq_nil_of_length_eq_zero (by omega)
      have h3 : r.page = 0 := by omega
      have h4 : r.slot = 0 := by omega
      cases r; simp_all [kinded]
    simp only [e, hok, if_true]
    rw [if_neg (by omega), if_neg (by omega)]
    simp [bytesM, headM, restM, hk]
  · have hl : bytesM r ++ b = [ub 4] ++ hi 8 r.lsn ++ hi 8 r.txn ++ hi 8 r.back ++ b := by simp [bytesM, headM, restM, hk]
    obtain ⟨h0, hF⟩ := fields_four r _ b u1 u2 u3 u4 hl
    rw [recM_of _ 4 1 false false false false _ _ h0 (by decide) (by decide) (by decide) (by decide) (by decide) hF]
    have e : kinded ⟨r.lsn, 0, r.txn, r.back, 0, 0, [], [], 0⟩ 4 = r := by
      have hx : r.next = 0 := by omega
      have h1 : r.old = [] := List.eq_nil_of_length_eq_zero (by omega)
      have h2 : r.new = [] := List.eq_nil_of_length_eq_zero (by omega)
      have h3 : r.page = 0 := by omega
      have h4 : r.slot = 0 := by omega
      cases r; simp_all [kinded]
    simp only [e, hok, if_true]
    rw [if_neg (by omega), if_neg (by omega)]
    simp [bytesM, headM, restM, hk]

/-- two Readers, one of all bytes, one of the first c: where the first one stands the second one stands, or it is too short -/
def INV (c : Nat) (pl pf : Nat × Int) : Prop := (pl = pf ∧ pf.2 = 0 ∧ pf.1 ≤ c) ∨ pl.2 = 7
theorem step_two {l full : List UInt8} {c : Nat} (hl : l = full.take c) (hc : c ≤ full.length) (n : Int) (pl pf : Nat × Int) (h : INV c pl pf) (hs : (Oct.step full pf.1 pf.2 n).2.2 = 0) :
    INV c (Oct.step l pl.1 pl.2 n).2 (Oct.step full pf.1 pf.2 n).2 ∧ ((Oct.step l pl.1 pl.2 n).2.2 = 0 → Oct.step l pl.1 pl.2 n = Oct.step full pf.1 pf.2 n) := by
  have hll : l.length = c := by rw [hl, List.length_take]; omega
  rcases h with ⟨rfl, h0, h1⟩ | h7
  · rw [h0] at hs ⊢
    unfold Oct.step at hs ⊢
    simp only [ne_eq, not_true, if_false] at hs ⊢
    by_cases hn : n < 0
    · rw [if_pos hn] at hs; simp at hs
    rw [if_neg hn] at hs
    by_cases hf : ((full.length - pl.1 : Nat) : Int) < n
    · rw [if_pos hf] at hs; simp at hs
    rw [if_neg hf, if_neg hn, if_neg hn]
    by_cases hf2 : ((l.length - pl.1 : Nat) : Int) < n
    · rw [if_pos hf2]
      exact ⟨.inr rfl, fun h => by simp at h⟩
    · rw [if_neg hf2]
      have e : (l.drop pl.1).take n.toNat = (full.drop pl.1).take n.toNat := by
        rw [hl, List.drop_take, List.take_take, Nat.min_eq_left (by omega)]
      rw [e]
      exact ⟨.inl ⟨rfl, rfl, by show pl.1 + n.toNat ≤ c; omega⟩, fun _ => rfl⟩
  · rw [step_err l pl.1 n pl.2 (by omega)]
    exact ⟨.inr h7, fun h => by simp only at h; omega⟩
theorem step_sticky {l : List UInt8} {p : Nat × Int} {n : Int} (h : (Oct.step l p.1 p.2 n).2.2 = 0) : p.2 = 0 := by
  by_cases h0 : p.2 = 0
  · exact h0
  · rw [step_err l p.1 n p.2 h0] at h
    exact h
theorem rn_two {l full : List UInt8} {c : Nat} (hl : l = full.take c) (hc : c ≤ full.length) (n : Int) (pl pf : Nat × Int) (h : INV c pl pf) (hs : (rn n full pf).2.2 = 0) : INV c (rn n l pl).2 (rn n full pf).2 ∧ ((rn n l pl).2.2 = 0 → rn n l pl = rn n full pf) := by
  obtain ⟨h1, h2⟩ := step_two hl hc n pl pf h hs
  refine ⟨h1, fun h => ?_⟩
  unfold rn
  rw [h2 h]
theorem rb_two {l full : List UInt8} {c : Nat} (hl : l = full.take c) (hc : c ≤ full.length) (pl pf : Nat × Int) (h : INV c pl pf) (hs : (rb full pf).2.2 = 0) : INV c (rb l pl).2 (rb full pf).2 ∧ ((rb l pl).2.2 = 0 → rb l pl = rb full pf) := by
  have hs1 : (rn 1 full pf).2.2 = 0 := step_sticky (p := (rn 1 full pf).2) hs
  obtain ⟨h1, h2⟩ := rn_two hl hc 1 pl pf h hs1
  by_cases h7 : (rn 1 l pl).2.2 = 0
  · have e := h2 h7
    unfold rb at hs ⊢
    rw [e] at h1 ⊢
    exact step_two hl hc _ _ _ h1 hs
  · have h77 : (rn 1 l pl).2.2 = 7 := by
      rcases h1 with ⟨e, h0, _⟩ | h
      · rw [e] at h7; exact absurd h0 h7
      · exact h
    unfold rb
    rw [step_err l _ _ _ h7]
    exact ⟨.inr h77, fun h => absurd h h7⟩
theorem pl_two {l full : List UInt8} {c : Nat} (hl : l = full.take c) (hc : c ≤ full.length) (J : Bool) (p pf : Nat × Int) (h : INV c p pf) (hs : (pl J full pf).2.2 = 0) : INV c (pl J l p).2 (pl J full pf).2 := by
  cases J
  · exact h
  · exact (rn_two hl hc 1 p pf h hs).1
theorem it_two {l full : List UInt8} {c : Nat} (hl : l = full.take c) (hc : c ≤ full.length) (J : Bool) (p pf : Nat × Int) (h : INV c p pf) (hs : (it J full pf).2.2 = 0) : INV c (it J l p).2 (it J full pf).2 := by
  cases J
  · exact h
  · exact (rb_two hl hc p pf h hs).1
theorem nx_two {l full : List UInt8} {c : Nat} (hl : l = full.take c) (hc : c ≤ full.length) (J : Bool) (p pf : Nat × Int) (h : INV c p pf) (hs : (nx J full pf).2.2 = 0) : INV c (nx J l p).2 (nx J full pf).2 := by
  cases J
  · exact h
  · exact (rn_two hl hc 8 p pf h hs).1
theorem rn_sticky {l : List UInt8} {p : Nat × Int} {n : Int} (h : (rn n l p).2.2 = 0) : p.2 = 0 := step_sticky h
theorem rb_sticky {l : List UInt8} {p : Nat × Int} (h : (rb l p).2.2 = 0) : p.2 = 0 := rn_sticky (n := 1) (step_sticky (p := (rn 1 l p).2) h)
theorem pl_sticky {J : Bool} {l : List UInt8} {p : Nat × Int} (h : (pl J l p).2.2 = 0) : p.2 = 0 := by
  cases J
  · exact h
  · exact rn_sticky h
theorem it_sticky {J : Bool} {l : List UInt8} {p : Nat × Int} (h : (it J l p).2.2 = 0) : p.2 = 0 := by
  cases J
  · exact h
  · exact rb_sticky h
theorem nx_sticky {J : Bool} {l : List UInt8} {p : Nat × Int} (h : (nx J l p).2.2 = 0) : p.2 = 0 := by
  cases J
  · exact h
  · exact rn_sticky h
theorem fields_two_readers {l full : List UInt8} {c : Nat} (hl : l = full.take c) (hc : c ≤ full.length) (J2 J4 J8 J16 : Bool) (p pf : Nat × Int) (h : INV c p pf) (hs : (fieldsM full J2 J4 J8 J16 pf).2.2 = 0) : INV c (fieldsM l J2 J4 J8 J16 p).2 (fieldsM full J2 J4 J8 J16 pf).2 := by
  unfold fieldsM at hs ⊢
  simp only at hs ⊢
  have s8 := hs
  have s7 := nx_sticky s8
  have s6 := it_sticky s7
  have s5 := it_sticky s6
  have s4 := pl_sticky s5
  have s3 := pl_sticky s4
  have s2 := rn_sticky s3
  have s1 := rn_sticky s2
  have i1 := (rn_two hl hc 8 _ _ h s1).1
  have i2 := (rn_two hl hc 8 _ _ i1 s2).1
  have i3 := (rn_two hl hc 8 _ _ i2 s3).1
  have i4 := pl_two hl hc J2 _ _ i3 s4
  have i5 := pl_two hl hc J2 _ _ i4 s5
  have i6 := it_two hl hc J4 _ _ i5 s6
  have i7 := it_two hl hc J8 _ _ i6 s7
  exact nx_two hl hc J16 _ _ i7 s8
theorem fields_err {l : List UInt8} {J2 J4 J8 J16 : Bool} {p : Nat × Int} (h : p.2 = 7) : (fieldsM l J2 J4 J8 J16 p).2.2 = 7 := by
  have hn : ∀ (k : Int) (q : Nat × Int), q.2 = 7 → (rn k l q).2.2 = 7 := fun k q hq => by
    unfold rn
    rw [step_err l _ _ _ (by omega)]
    exact hq
  have hb : ∀ (q : Nat × Int), q.2 = 7 → (rb l q).2.2 = 7 := fun q hq => by
    have h1 := hn 1 q hq
    unfold rb
    rw [step_err l _ _ _ (by omega)]
    exact h1
  have hp : ∀ (J : Bool) (q : Nat × Int), q.2 = 7 → (pl J l q).2.2 = 7 := fun J q hq => by cases J; exact hq; exact hn 1 q hq
  have hi_ : ∀ (J : Bool) (q : Nat × Int), q.2 = 7 → (it J l q).2.2 = 7 := fun J q hq => by cases J; exact hq; exact hb q hq
  have hx : ∀ (J : Bool) (q : Nat × Int), q.2 = 7 → (nx J l q).2.2 = 7 := fun J q hq => by cases J; exact hq; exact hn 8 q hq
  unfold fieldsM
  exact hx _ _ (hi_ _ _ (hi_ _ _ (hp _ _ (hp _ _ (hn 8 _ (hn 8 _ (hn 8 _ h)))))))
/-- of each beginning of what can be decoded it is too short -/
theorem recM_cut (full : List UInt8) (r : RM) (c : Nat) (h : recM full 0 = (0, r, (full.length, 0))) (hc : c < full.length) : (recM (full.take c) 0).1 = 7 := by
  have hfull : (rn 1 full (0, 0)).2.2 = 0 ∧ (fieldsM full (hasB (countedM ((rn 1 full (0, 0)).1 : Int)) 2) (hasB (countedM ((rn 1 full (0, 0)).1 : Int)) 4) (hasB (countedM ((rn 1 full (0, 0)).1 : Int)) 8) (hasB (countedM ((rn 1 full (0, 0)).1 : Int)) 16) (rn 1 full (0, 0)).2).2 = (full.length, 0) ∧ countedM ((rn 1 full (0, 0)).1 : Int) ≠ 0 := by
    unfold recM at h
    simp only at h
    split at h
    · simp at h
    · rename_i h1
      split at h
      · rename_i h2
        simp at h
        exact absurd h.1 h2
      · rename_i h2
        have h2' := Decidable.not_not.1 h2
        have hF : (fieldsM full (hasB (countedM ((rn 1 full (0, 0)).1 : Int)) 2) (hasB (countedM ((rn 1 full (0, 0)).1 : Int)) 4) (hasB (countedM ((rn 1 full (0, 0)).1 : Int)) 8) (hasB (countedM ((rn 1 full (0, 0)).1 : Int)) 16) (rn 1 full (0, 0)).2).2 = (full.length, 0) := by
          split at h
          · exact (Prod.mk.inj (Prod.mk.inj h).2).2
          · simp at h
        have hs : (rn 1 full (0, 0)).2.2 = 0 := by
          have s8 := h2'
          unfold fieldsM at s8
          exact rn_sticky (rn_sticky (rn_sticky (pl_sticky (pl_sticky (it_sticky (it_sticky (nx_sticky s8)))))))
        exact ⟨hs, hF, fun hC => h1 ⟨hs, hC⟩⟩
  obtain ⟨hs, hF, hC⟩ := hfull
  obtain ⟨i1, i2⟩ := rn_two (l := full.take c) rfl (by omega) 1 (0, 0) (0, 0) (.inl ⟨rfl, rfl, Nat.zero_le _⟩) hs
  unfold recM
  simp only
  by_cases h0 : (rn 1 (full.take c) (0, 0)).2.2 = 0
  · rw [i2 h0] at i1 ⊢
    rw [if_neg (fun h => hC h.2)]
    have i3 := fields_two_readers (l := full.take c) rfl (by omega) _ _ _ _ _ _ i1 (by rw [hF])
    have h7 := i3.resolve_left (fun h => by rw [hF] at h; have := h.2.2; simp only at this; omega)
    rw [if_pos (by rw [h7]; decide)]
    exact h7
  · have h7 : (rn 1 (full.take c) (0, 0)).2.2 = 7 := by
      rcases i1 with ⟨e, h, _⟩ | h
      · rw [e] at h0; exact absurd h h0
      · exact h
    rw [if_neg (fun h => h0 h.1), if_pos (by rw [fields_err h7]; decide)]
    exact fields_err h7
end Go.Proofs.Ytnljhopikjkflaa.Rec
