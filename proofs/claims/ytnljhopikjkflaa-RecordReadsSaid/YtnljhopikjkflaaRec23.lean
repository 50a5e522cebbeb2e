/-
  What was read is what stands there, encoded anew (pure).
-/
import Derived.Test.YtnljhopikjkflaaRec22
namespace Go.Proofs.Ytnljhopikjkflaa.Rec
set_option maxRecDepth 100000
open Go.RowKit Go.Proofs.Ytnljhopikjkflaa.Wd Go.Proofs.Ytnljhopikjkflaa.Oct Go.Proofs.Ytnljhopikjkflaa.Dsk

theorem decRowM_back {rs : List RM} (hr : rowM rs = true) (h64 : rs.length ≤ 64) (hu : ∀ r ∈ rs, U4 r) : decRowM (rowB rs.length rs) = (0, rs) := by
  have hb := rdE_back (n := rs.length) (rowM_ok hr) hu rs.length (Nat.le_refl _)
  rw [List.take_length] at hb
  have h2 : (rowB rs.length rs).take 2 = hi 2 rs.length := by
    unfold rowB
    have : (hi 2 rs.length).length = 2 := hi_length _ _
    rw [List.take_append_of_le_length (by omega), List.take_of_length_le (by omega)]
  have hn : num ((rowB rs.length rs).take 2) = rs.length := by rw [h2, num_hi]; omega
  have hl : ¬ (rowB rs.length rs).length < 2 := by unfold rowB; rw [List.length_append, hi_length]; omega
  unfold decRowM
  rw [if_neg hl, hn, if_neg (by omega), hb, if_neg (by simp), if_neg (by simp [hr])]

/-- a piece of a row of bytes -/
structure Seg (l : List UInt8) (p q : Nat) (s : List UInt8) : Prop where
  le : p ≤ q
  lt : q ≤ l.length
  eq : (l.drop p).take (q - p) = s
theorem Seg.refl {l : List UInt8} {p : Nat} (h : p ≤ l.length) : Seg l p p [] := ⟨Nat.le_refl _, h, by simp⟩
theorem Seg.trans {l : List UInt8} {p q r : Nat} {s t : List UInt8} (h : Seg l p q s) (k : Seg l q r t) : Seg l p r (s ++ t) := by
  refine ⟨Nat.le_trans h.le k.le, k.lt, ?_⟩
  have h1 := h.le
  have h2 := k.le
  rw [show r - p = (q - p) + (r - q) by omega, List.take_add, h.eq, List.drop_drop, show p + (q - p) = q by omega, k.eq]
theorem hi_add (n : Nat) : ∀ c x : Nat, hi n (c * 256 ^ n + x) = hi n x := by
  induction n with
  | zero => intro c x; rfl
  | succ n ih =>
    intro c x
    have hp : 0 < 256 ^ n := Nat.pow_pos (by omega)
    have e : c * 256 ^ (n + 1) + x = c * 256 * 256 ^ n + x := by rw [Nat.pow_succ, Nat.mul_assoc, Nat.mul_comm 256]
    rw [hi, hi, e, ih (c * 256) x]
    congr 1
    rw [Nat.add_comm, Nat.add_mul_div_right _ _ hp]
    apply UInt8.toNat_inj.1
    simp
theorem hi_num (t : List UInt8) : hi t.length (num t) = t := by
  induction t with
  | nil => rfl
  | cons b t ih =>
    have hp : 0 < 256 ^ t.length := Nat.pow_pos (by omega)
    rw [num_cons, List.length_cons, hi, hi_add, ih]
    congr 1
    rw [Nat.add_comm, Nat.add_mul_div_right _ _ hp, Nat.div_eq_of_lt (num_lt t), Nat.zero_add]
    apply UInt8.toNat_inj.1
    simp
theorem rn_seg {l : List UInt8} {p : Nat} {k : Nat} (h : (rn (k : Int) l (p, 0)).2.2 = 0) (hp : p ≤ l.length) : (rn (k : Int) l (p, 0)).2 = (p + k, 0) ∧ Seg l p (p + k) (hi k (rn (k : Int) l (p, 0)).1) := by
  unfold rn Oct.step at h ⊢
  simp only [ne_eq, not_true_eq_false, if_false] at h ⊢
  rw [if_neg (by omega)] at h ⊢
  by_cases hlt : ((l.length - p : Nat) : Int) < (k : Int)
  · rw [if_pos hlt] at h
    cases h
  · rw [if_neg hlt]
    have e : (k : Int).toNat = k := by omega
    rw [e]
    refine ⟨rfl, by omega, by omega, ?_⟩
    have hl : ((l.drop p).take k).length = k := by rw [List.length_take, List.length_drop]; omega
    have := hi_num ((l.drop p).take k)
    rw [hl] at this
    rw [show p + k - p = k by omega]
    exact this.symm
theorem hi_one (x : Nat) : hi 1 x = [ub x] := by simp [hi, ub]
theorem rb_seg {l : List UInt8} {p : Nat} (h : (rb l (p, 0)).2.2 = 0) (hp : p ≤ l.length) : ∃ q, (rb l (p, 0)).2 = (q, 0) ∧ Seg l p q (itemM (rb l (p, 0)).1) := by
  have h1 : (rn 1 l (p, 0)).2.2 = 0 := rn_sticky (n := ((rn 1 l (p, 0)).1 : Int)) (l := l) (p := (rn 1 l (p, 0)).2) (by
    have : (rn ((rn 1 l (p, 0)).1 : Int) l (rn 1 l (p, 0)).2).2.2 = (rb l (p, 0)).2.2 := rfl
    rw [this]; exact h)
  obtain ⟨e1, s1⟩ := rn_seg (k := 1) h1 hp
  obtain ⟨m, hm⟩ : ∃ m, m = (rn 1 l (p, 0)).1 := ⟨_, rfl⟩
  have e1' : (rn 1 l (p, 0)).2 = (p + 1, 0) := e1
  have s1' : Seg l p (p + 1) (hi 1 m) := by rw [hm]; exact s1
  have hrb : rb l (p, 0) = Oct.step l (p + 1) 0 (m : Int) := by
    unfold rb
    rw [e1', ← hm]
  rw [hrb] at h ⊢
  unfold Oct.step at h ⊢
  simp only [ne_eq, not_true_eq_false, if_false] at h ⊢
  rw [if_neg (by omega)] at h ⊢
  by_cases hlt : ((l.length - (p + 1) : Nat) : Int) < (m : Int)
  · rw [if_pos hlt] at h
    cases h
  · rw [if_neg hlt]
    have e : (m : Int).toNat = m := by omega
    rw [e]
    refine ⟨p + 1 + m, rfl, ?_⟩
    have hl : ((l.drop (p + 1)).take m).length = m := by rw [List.length_take, List.length_drop]; have := s1.lt; omega
    have s2 : Seg l (p + 1) (p + 1 + m) ((l.drop (p + 1)).take m) := ⟨by omega, by have := s1.lt; omega, by rw [show p + 1 + m - (p + 1) = m by omega]⟩
    have := s1'.trans s2
    rw [hi_one] at this
    unfold itemM
    rw [hl]
    exact this
theorem fields_seg {l : List UInt8} {p : Nat} {J2 J4 J8 J16 : Bool} (h : (fieldsM l J2 J4 J8 J16 (p, 0)).2.2 = 0) (hp : p ≤ l.length) : ∃ q, (fieldsM l J2 J4 J8 J16 (p, 0)).2 = (q, 0) ∧
    Seg l p q (hi 8 (fieldsM l J2 J4 J8 J16 (p, 0)).1.lsn ++ hi 8 (fieldsM l J2 J4 J8 J16 (p, 0)).1.txn ++ hi 8 (fieldsM l J2 J4 J8 J16 (p, 0)).1.back ++ (if J2 then [ub (fieldsM l J2 J4 J8 J16 (p, 0)).1.page.toNat] else []) ++ (if J2 then [ub (fieldsM l J2 J4 J8 J16 (p, 0)).1.slot.toNat] else []) ++
      (if J4 then itemM (fieldsM l J2 J4 J8 J16 (p, 0)).1.old else []) ++ (if J8 then itemM (fieldsM l J2 J4 J8 J16 (p, 0)).1.new else []) ++ (if J16 then hi 8 (fieldsM l J2 J4 J8 J16 (p, 0)).1.next else [])) ∧
    (J4 = false → (fieldsM l J2 J4 J8 J16 (p, 0)).1.old = []) ∧ (J8 = false → (fieldsM l J2 J4 J8 J16 (p, 0)).1.new = []) := by
  obtain ⟨a, ha⟩ : ∃ a, a = rn 8 l (p, 0) := ⟨_, rfl⟩
  obtain ⟨b, hb⟩ : ∃ b, b = rn 8 l a.2 := ⟨_, rfl⟩
  obtain ⟨c, hc⟩ : ∃ c, c = rn 8 l b.2 := ⟨_, rfl⟩
  obtain ⟨d, hd⟩ : ∃ d, d = pl J2 l c.2 := ⟨_, rfl⟩
  obtain ⟨e, he⟩ : ∃ e, e = pl J2 l d.2 := ⟨_, rfl⟩
  obtain ⟨o, ho⟩ : ∃ o, o = it J4 l e.2 := ⟨_, rfl⟩
  obtain ⟨n, hn⟩ : ∃ n, n = it J8 l o.2 := ⟨_, rfl⟩
  obtain ⟨x, hx⟩ : ∃ x, x = nx J16 l n.2 := ⟨_, rfl⟩
  have hF : fieldsM l J2 J4 J8 J16 (p, 0) = (⟨a.1, 0, b.1, c.1, (d.1 : Int), (e.1 : Int), o.1, n.1, x.1⟩, x.2) := by
    rw [hx, hn, ho, he, hd, hc, hb, ha]; rfl
  rw [hF] at h ⊢
  dsimp only at h ⊢
  have hn0 : n.2.2 = 0 := nx_sticky (J := J16) (l := l) (p := n.2) (by rw [← hx]; exact h)
  have ho0 : o.2.2 = 0 := it_sticky (J := J8) (l := l) (p := o.2) (by rw [← hn]; exact hn0)
  have he0 : e.2.2 = 0 := it_sticky (J := J4) (l := l) (p := e.2) (by rw [← ho]; exact ho0)
  have hd0 : d.2.2 = 0 := pl_sticky (J := J2) (l := l) (p := d.2) (by rw [← he]; exact he0)
  have hc0 : c.2.2 = 0 := pl_sticky (J := J2) (l := l) (p := c.2) (by rw [← hd]; exact hd0)
  have hb0 : b.2.2 = 0 := rn_sticky (n := 8) (l := l) (p := b.2) (by rw [← hc]; exact hc0)
  have ha0 : a.2.2 = 0 := rn_sticky (n := 8) (l := l) (p := a.2) (by rw [← hb]; exact hb0)
  obtain ⟨ea, sa⟩ := rn_seg (k := 8) (by rw [← show a = rn ((8 : Nat) : Int) l (p, 0) from ha]; exact ha0) hp
  rw [← show a = rn ((8 : Nat) : Int) l (p, 0) from ha] at ea sa
  rw [ea] at hb
  obtain ⟨eb, sb⟩ := rn_seg (k := 8) (by rw [← show b = rn ((8 : Nat) : Int) l (p + 8, 0) from hb]; exact hb0) sa.lt
  rw [← show b = rn ((8 : Nat) : Int) l (p + 8, 0) from hb] at eb sb
  rw [eb] at hc
  obtain ⟨ec, sc⟩ := rn_seg (k := 8) (by rw [← show c = rn ((8 : Nat) : Int) l (p + 8 + 8, 0) from hc]; exact hc0) sb.lt
  rw [← show c = rn ((8 : Nat) : Int) l (p + 8 + 8, 0) from hc] at ec sc
  rw [ec] at hd
  have hdd : ∃ q, d.2 = (q, 0) ∧ Seg l (p + 8 + 8 + 8) q (if J2 then [ub d.1] else []) := by
    unfold pl at hd
    cases J2
    · simp only [Bool.false_eq_true, if_false] at hd ⊢
      exact ⟨_, by rw [hd], Seg.refl sc.lt⟩
    · simp only [if_true] at hd ⊢
      obtain ⟨e1, s1⟩ := rn_seg (k := 1) (by rw [← show d = rn ((1 : Nat) : Int) l (p + 8 + 8 + 8, 0) from hd]; exact hd0) sc.lt
      rw [← show d = rn ((1 : Nat) : Int) l (p + 8 + 8 + 8, 0) from hd] at e1 s1
      rw [hi_one] at s1
      exact ⟨_, e1, s1⟩
  obtain ⟨q1, ed, sd⟩ := hdd
  rw [ed] at he
  have hee : ∃ q, e.2 = (q, 0) ∧ Seg l q1 q (if J2 then [ub e.1] else []) := by
    unfold pl at he
    cases J2
    · simp only [Bool.false_eq_true, if_false] at he ⊢
      exact ⟨_, by rw [he], Seg.refl sd.lt⟩
    · simp only [if_true] at he ⊢
      obtain ⟨e1, s1⟩ := rn_seg (k := 1) (by rw [← show e = rn ((1 : Nat) : Int) l (q1, 0) from he]; exact he0) sd.lt
      rw [← show e = rn ((1 : Nat) : Int) l (q1, 0) from he] at e1 s1
      rw [hi_one] at s1
      exact ⟨_, e1, s1⟩
  obtain ⟨q2, ee, se⟩ := hee
  rw [ee] at ho
  have hoo : ∃ q, o.2 = (q, 0) ∧ Seg l q2 q (if J4 then itemM o.1 else []) ∧ (J4 = false → o.1 = []) := by
    unfold it at ho
    cases J4
    · simp only [Bool.false_eq_true, if_false] at ho ⊢
      exact ⟨_, by rw [ho], Seg.refl se.lt, fun _ => by rw [ho]⟩
    · simp only [if_true] at ho ⊢
      obtain ⟨q, e1, s1⟩ := rb_seg (by rw [← ho]; exact ho0) se.lt
      rw [← ho] at e1 s1
      exact ⟨q, e1, s1, fun h => by cases h⟩
  obtain ⟨q3, eo, so, zo⟩ := hoo
  rw [eo] at hn
  have hnn : ∃ q, n.2 = (q, 0) ∧ Seg l q3 q (if J8 then itemM n.1 else []) ∧ (J8 = false → n.1 = []) := by
    unfold it at hn
    cases J8
    · simp only [Bool.false_eq_true, if_false] at hn ⊢
      exact ⟨_, by rw [hn], Seg.refl so.lt, fun _ => by rw [hn]⟩
    · simp only [if_true] at hn ⊢
      obtain ⟨q, e1, s1⟩ := rb_seg (by rw [← hn]; exact hn0) so.lt
      rw [← hn] at e1 s1
      exact ⟨q, e1, s1, fun h => by cases h⟩
  obtain ⟨q4, en, sn, zn⟩ := hnn
  rw [en] at hx
  have hxx : ∃ q, x.2 = (q, 0) ∧ Seg l q4 q (if J16 then hi 8 x.1 else []) := by
    unfold nx at hx
    cases J16
    · simp only [Bool.false_eq_true, if_false] at hx ⊢
      exact ⟨_, by rw [hx], Seg.refl sn.lt⟩
    · simp only [if_true] at hx ⊢
      obtain ⟨e1, s1⟩ := rn_seg (k := 8) (by rw [← show x = rn ((8 : Nat) : Int) l (q4, 0) from hx]; exact h) sn.lt
      rw [← show x = rn ((8 : Nat) : Int) l (q4, 0) from hx] at e1 s1
      exact ⟨_, e1, s1⟩
  obtain ⟨q5, ex, sx⟩ := hxx
  exact ⟨q5, ex, ((((((sa.trans sb).trans sc).trans sd).trans se).trans so).trans sn).trans sx, zo, zn⟩
theorem fields_sticky {l : List UInt8} {q : Nat × Int} {J2 J4 J8 J16 : Bool} (h : (fieldsM l J2 J4 J8 J16 q).2.2 = 0) : q.2 = 0 := by
  have h1 : (nx J16 l (it J8 l (it J4 l (pl J2 l (pl J2 l (rn 8 l (rn 8 l (rn 8 l q).2).2).2).2).2).2).2).2.2 = 0 := h
  exact rn_sticky (rn_sticky (rn_sticky (pl_sticky (pl_sticky (it_sticky (it_sticky (nx_sticky h1)))))))
theorem recM_seg {l : List UInt8} {p : Nat} (h : (recM l p).1 = 0) (hp : p ≤ l.length) : Seg l p (recM l p).2.2.1 (bytesM (recM l p).2.1) := by
  unfold recM at h ⊢
  simp only at h ⊢
  obtain ⟨k, hk⟩ : ∃ k, k = rn 1 l (p, 0) := ⟨_, rfl⟩
  rw [← hk] at h ⊢
  obtain ⟨F, hF⟩ : ∃ F, F = fieldsM l (hasB (countedM (k.1 : Int)) 2) (hasB (countedM (k.1 : Int)) 4) (hasB (countedM (k.1 : Int)) 8) (hasB (countedM (k.1 : Int)) 16) k.2 := ⟨_, rfl⟩
  rw [← hF] at h ⊢
  split at h
  · cases h
  · rename_i h1
    rw [if_neg h1]
    split at h
    · rename_i h2
      exact absurd h h2
    · rename_i h2
      rw [if_neg h2]
      split at h
      · rename_i h3
        rw [if_pos h3]
        dsimp only
        have hF0 : F.2.2 = 0 := by omega
        have hk0 : k.2.2 = 0 := fields_sticky (by rw [← hF]; exact hF0)
        obtain ⟨ek, sk⟩ := rn_seg (k := 1) (by rw [← show k = rn ((1 : Nat) : Int) l (p, 0) from hk]; exact hk0) hp
        rw [← show k = rn ((1 : Nat) : Int) l (p, 0) from hk] at ek sk
        rw [hi_one] at sk
        rw [ek] at hF
        obtain ⟨q, e1, s1, z4, z8⟩ := fields_seg (by rw [← hF]; exact hF0) sk.lt
        rw [← hF] at e1 s1 z4 z8
        have hs := sk.trans s1
        rw [e1]
        have hC : ¬ countedM (k.1 : Int) = 0 := fun e => h1 ⟨hk0, e⟩
        rw [counted_nought] at hC
        have hkk : k.1 = 1 ∨ k.1 = 2 ∨ k.1 = 3 ∨ k.1 = 4 := by omega
        rw [has_place, has_before, has_after, has_next] at hs
        rw [has_before] at z4
        rw [has_after] at z8
        unfold kinded bytesM headM restM
        dsimp only
        rcases hkk with e | e | e | e
        · rw [e] at hs z4 z8 ⊢
          simpa using hs
        · rw [e] at hs z4 z8 ⊢
          simpa using hs
        · rw [e] at hs z4 z8 ⊢
          simpa using hs
        · rw [e] at hs z4 z8 ⊢
          simpa using hs
      · cases h
theorem recM_ok {l : List UInt8} {p : Nat} (h : (recM l p).1 = 0) : okM (recM l p).2.1 = true := by
  unfold recM at h ⊢
  simp only at h ⊢
  split at h
  · cases h
  · split at h
    · rename_i h2
      exact absurd h h2
    · rename_i h1 h2
      rw [if_neg h1, if_neg h2]
      split at h
      · rename_i h3
        rw [if_pos h3]
        exact h3
      · cases h
theorem rdE_seg {l : List UInt8} (hl : 2 ≤ l.length) : ∀ {i p : Nat} {rs : List RM}, rdE l i = (0, p, rs) → rs.length = i ∧ Seg l 2 p ((rs.map bytesM).flatten) ∧ ∀ r ∈ rs, okM r = true
  | 0, p, rs, h => by
    have h' : ((0 : Int), 2, ([] : List RM)) = (0, p, rs) := h
    cases h'
    exact ⟨rfl, Seg.refl hl, fun r hr => by cases hr⟩
  | i + 1, p, rs, h => by
    have h' : (if (rdE l i).1 ≠ 0 then rdE l i else if (recM l (rdE l i).2.1).1 = 0 then (0, (recM l (rdE l i).2.1).2.2.1, (rdE l i).2.2 ++ [(recM l (rdE l i).2.1).2.1]) else ((recM l (rdE l i).2.1).1, (rdE l i).2.1, [])) = (0, p, rs) := h
    obtain ⟨S, hS⟩ : ∃ S, S = rdE l i := ⟨_, rfl⟩
    rw [← hS] at h'
    obtain ⟨s1, s2, s3⟩ := S
    dsimp only at h'
    by_cases h0 : s1 = 0
    · subst h0
      rw [if_neg (by simp)] at h'
      obtain ⟨i1, i2, i3⟩ := rdE_seg hl hS.symm
      by_cases hz : (recM l s2).1 = 0
      · rw [if_pos hz] at h'
        cases h'
        refine ⟨by simp [i1], ?_, fun r hr => ?_⟩
        · rw [List.map_append, List.flatten_append]
          have := i2.trans (recM_seg hz i2.lt)
          simpa using this
        · rcases List.mem_append.1 hr with hr | hr
          · exact i3 r hr
          · rw [List.mem_singleton] at hr
            rw [hr]
            exact recM_ok hz
      · rw [if_neg hz] at h'
        injection h' with e1 _
        exact absurd e1 hz
    · rw [if_pos h0] at h'
      cases h'
      exact absurd rfl h0
/-- what was read as a row is encoded as the same bytes -/
theorem decRowM_again {l : List UInt8} {rs : List RM} (h : decRowM l = (0, rs)) : rs.length ≤ 64 ∧ rowM rs = true ∧ rowB rs.length rs = l ∧ ∀ r ∈ rs, U4 r := by
  unfold decRowM at h
  by_cases h2 : l.length < 2
  · rw [if_pos h2] at h; cases h
  rw [if_neg h2] at h
  by_cases h64 : 64 < num (l.take 2)
  · rw [if_pos h64] at h; cases h
  rw [if_neg h64] at h
  obtain ⟨S, hS⟩ : ∃ S, S = rdE l (num (l.take 2)) := ⟨_, rfl⟩
  rw [← hS] at h
  obtain ⟨s1, s2, s3⟩ := S
  dsimp only at h
  by_cases h0 : s1 = 0
  · subst h0
    rw [if_neg (by simp)] at h
    by_cases hc : s2 < l.length ∨ rowM s3 = false
    · rw [if_pos hc] at h; cases h
    · rw [if_neg hc] at h
      cases h
      obtain ⟨i1, i2, i3⟩ := rdE_seg (by omega) hS.symm
      have hlen : s2 = l.length := by have := i2.lt; omega
      refine ⟨by omega, by cases hr : rowM rs with | false => exact absurd (Or.inr hr) hc | true => rfl, ?_, rdE_u4 hS.symm⟩
      unfold rowB
      have e2 : hi 2 rs.length = l.take 2 := by
        have := hi_num (l.take 2)
        rw [List.length_take, show min 2 l.length = 2 by omega] at this
        rw [i1]
        exact this
      have e3 : (rs.map bytesM).flatten = l.drop 2 := by
        have := i2.eq
        rw [hlen] at this
        rw [← this, List.take_of_length_le (by rw [List.length_drop]; omega)]
      rw [e2, e3, List.take_append_drop]
  · rw [if_pos h0] at h
    injection h with e1 _
    exact absurd e1 h0
end Go.Proofs.Ytnljhopikjkflaa.Rec
