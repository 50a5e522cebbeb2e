/-
  Two disks side by side.
-/
import Derived.Test.YtbfpadilcfelbaaDevR
namespace Go.Proofs.Ytbfpadilcfelbaa.Dsk
open Go.RowKit Go.Proofs.Ytbfpadilcfelbaa.Wd

/-- two disks beyond B, apart from one another and from the blocks of X -/
def TwoX (w : World) (B : Nat) (X : Nat → Prop) (ga gb : Nat) (da db : DM) : Prop :=
  ∃ Fa Fb, Disk w Fa ga da ∧ Disk w Fb gb db ∧ (∀ k, Fa k → ¬ Fb k) ∧ (∀ k, Fa k → B ≤ k) ∧ (∀ k, Fb k → B ≤ k) ∧ ∀ k, X k → ¬ Fa k ∧ ¬ Fb k
def Two (w : World) (B : Nat) (ga gb : Nat) (da db : DM) : Prop := TwoX w B (fun _ => False) ga gb da db
theorem TwoX.below {w w' : World} {B ga gb : Nat} {X : Nat → Prop} {da db : DM} (h : TwoX w B X ga gb da db) (hb : Below w.heap.size w w') : TwoX w' B X ga gb da db := by
  obtain ⟨Fa, Fb, h1, h2, h3, h4, h5, h6⟩ := h
  exact ⟨Fa, Fb, h1.below hb, h2.below hb, h3, h4, h5, h6⟩
theorem Two.below {w w' : World} {B ga gb : Nat} {da db : DM} (h : Two w B ga gb da db) (hb : Below w.heap.size w w') : Two w' B ga gb da db := TwoX.below h hb
theorem TwoX.less {w : World} {B ga gb : Nat} {X X' : Nat → Prop} {da db : DM} (h : TwoX w B X ga gb da db) (hX : ∀ k, X' k → X k) : TwoX w B X' ga gb da db := by
  obtain ⟨Fa, Fb, h1, h2, h3, h4, h5, h6⟩ := h
  exact ⟨Fa, Fb, h1, h2, h3, h4, h5, fun k hk => h6 k (hX k hk)⟩
theorem TwoX.two {w : World} {B ga gb : Nat} {X : Nat → Prop} {da db : DM} (h : TwoX w B X ga gb da db) : Two w B ga gb da db := h.less (fun _ hf => hf.elim)
/-- a block that is made now lies apart -/
theorem TwoX.add {w w' : World} {B ga gb : Nat} {X : Nat → Prop} {da db : DM} (h : TwoX w B X ga gb da db) (hb : Below w.heap.size w w') : TwoX w' B (fun k => X k ∨ k = w.heap.size) ga gb da db := by
  obtain ⟨Fa, Fb, h1, h2, h3, h4, h5, h6⟩ := h
  refine ⟨Fa, Fb, h1.below hb, h2.below hb, h3, h4, h5, fun k hk => ?_⟩
  rcases hk with hk | rfl
  · exact h6 k hk
  · exact ⟨fun hf => by have := h1.2 _ hf; omega, fun hf => by have := h2.2 _ hf; omega⟩
section
variable {w w' : World} {B ga gb : Nat} {X : Nat → Prop} {da db d' : DM}
/-- a call that is asked of the first disk -/
theorem TwoX.left {f : FuncId} {args : Array Value} {v : Value} (h : TwoX w B X ga gb da db) (hB : B ≤ w.heap.size) (hX : ∀ k, X k → k < w.heap.size)
    (hc : ∀ F, Disk w F ga da → Calls Try.prog f args w fun e w' => e = .returned v ∧ Goes F w ga d' w') :
    Calls Try.prog f args w fun e w' => e = .returned v ∧ TwoX w' B X ga gb d' db ∧ Below B w w' ∧ ∀ k, X k → w'.heap[k]? = w.heap[k]? := by
  obtain ⟨Fa, Fb, h1, h2, h3, h4, h5, h6⟩ := h
  refine (hc Fa h1).mono fun e w' ⟨he, F', hd, hx, ho⟩ => ⟨he, ⟨F', Fb, hd, h2.off (fun k hk hf => h3 k hf hk) ho, fun k hk hf => ?_, fun k hk => ?_, h5, fun k hk => ⟨fun hf => ?_, (h6 k hk).2⟩⟩, ho.below h4 hB, fun k hk => ho.block k (hX k hk) (h6 k hk).1⟩
  · rcases hx k hk with h | h
    · exact h3 k h hf
    · have := h2.2 k hf; omega
  · rcases hx k hk with h | h
    · exact h4 k h
    · omega
  · rcases hx k hf with h | h
    · exact (h6 k hk).1 h
    · have := hX k hk; omega
theorem TwoX.right {f : FuncId} {args : Array Value} {v : Value} (h : TwoX w B X ga gb da db) (hB : B ≤ w.heap.size) (hX : ∀ k, X k → k < w.heap.size)
    (hc : ∀ F, Disk w F gb db → Calls Try.prog f args w fun e w' => e = .returned v ∧ Goes F w gb d' w') :
    Calls Try.prog f args w fun e w' => e = .returned v ∧ TwoX w' B X ga gb da d' ∧ Below B w w' ∧ ∀ k, X k → w'.heap[k]? = w.heap[k]? := by
  obtain ⟨Fa, Fb, h1, h2, h3, h4, h5, h6⟩ := h
  refine (hc Fb h2).mono fun e w' ⟨he, F', hd, hx, ho⟩ => ⟨he, ⟨Fa, F', h1.off (fun k hk hf => h3 k hk hf) ho, hd, fun k hk hf => ?_, h4, fun k hk => ?_, fun k hk => ⟨(h6 k hk).1, fun hf => ?_⟩⟩, ho.below h5 hB, fun k hk => ho.block k (hX k hk) (h6 k hk).2⟩
  · rcases hx k hf with h | h
    · exact h3 k hk h
    · have := h1.2 k hk; omega
  · rcases hx k hk with h | h
    · exact h5 k h
    · omega
  · rcases hx k hf with h | h
    · exact (h6 k hk).2 h
    · have := hX k hk; omega
/-- what both disks hold -/
theorem TwoX.heldA (h : TwoX w B X ga gb da db) (hB : B ≤ w.heap.size) (hX : ∀ k, X k → k < w.heap.size) : Calls Try.prog 18 #[.pointer (some ⟨ga, 0, none⟩)] w fun e w' =>
    ∃ A c, e = .returned (.slice A da.sec.length c) ∧ Blks w' w'.heap.size A da.heldM.2 ∧ (∀ b o s, A = some ⟨b, o, s⟩ → w.heap.size ≤ b) ∧ TwoX w' B (fun k => X k ∨ (w.heap.size ≤ k ∧ k < w'.heap.size)) ga gb da.heldM.1 db ∧ Below B w w' ∧ (∀ k, X k → w'.heap[k]? = w.heap[k]?) ∧ ∀ A' L, Blks w w.heap.size A' L → (∀ b o s, A' = some ⟨b, o, s⟩ → X b) → Blks w' w.heap.size A' L := by
  obtain ⟨Fa, Fb, h1, h2, h3, h4, h5, h6⟩ := h
  have hgd : Good da := by obtain ⟨⟨_, _, _, hh⟩, _⟩ := h1; exact hh.good
  refine (held_any ga da Fa w h1).mono ?_
  rintro e w' ⟨v, rfl, hown, hd, ho⟩
  obtain ⟨A, c, rfl, _, _, _, hblk, hbase⟩ := own_blks hown (readsM_len da _) (reads_blk hgd _)
  refine ⟨A, c, rfl, hblk, hbase, ⟨Fa, Fb, hd, h2.off (fun k hk hf => h3 k hf hk) ho, h3, h4, h5, fun k hk => hk.elim (h6 k) (fun hk => ⟨fun hf => by have := h1.2 k hf; omega, fun hf => by have := h2.2 k hf; omega⟩)⟩, ho.below h4 hB, fun k hk => ho.block k (hX k hk) (h6 k hk).1, fun A' L hb hA' => hb.off (Nat.le_refl _) ho (fun b o s e hf => (h6 b (hA' b o s e)).1 hf)⟩
theorem TwoX.heldB (h : TwoX w B X ga gb da db) (hB : B ≤ w.heap.size) (hX : ∀ k, X k → k < w.heap.size) : Calls Try.prog 18 #[.pointer (some ⟨gb, 0, none⟩)] w fun e w' =>
    ∃ A c, e = .returned (.slice A db.sec.length c) ∧ Blks w' w'.heap.size A db.heldM.2 ∧ (∀ b o s, A = some ⟨b, o, s⟩ → w.heap.size ≤ b) ∧ TwoX w' B X ga gb da db.heldM.1 ∧ (Below B w w' ∧ w.heap.size ≤ w'.heap.size) ∧ (∀ k, X k → w'.heap[k]? = w.heap[k]?) ∧ ∀ A' L, Blks w w.heap.size A' L → (∀ b o s, A' = some ⟨b, o, s⟩ → X b) → Blks w' w.heap.size A' L := by
  obtain ⟨Fa, Fb, h1, h2, h3, h4, h5, h6⟩ := h
  have hgd : Good db := by obtain ⟨⟨_, _, _, hh⟩, _⟩ := h2; exact hh.good
  refine (held_any gb db Fb w h2).mono ?_
  rintro e w' ⟨v, rfl, hown, hd, ho⟩
  obtain ⟨A, c, rfl, _, _, _, hblk, hbase⟩ := own_blks hown (readsM_len db _) (reads_blk hgd _)
  refine ⟨A, c, rfl, hblk, hbase, ⟨Fa, Fb, h1.off (fun k hk hf => h3 k hk hf) ho, hd, h3, h4, h5, h6⟩, ⟨ho.below h5 hB, ho.size⟩, fun k hk => ho.block k (hX k hk) (h6 k hk).2, fun A' L hb hA' => hb.off (Nat.le_refl _) ho (fun b o s e hf => (h6 b (hA' b o s e)).2 hf)⟩
end
/-- two disks whose answers are the same but for one that will fail -/
structure FRel (n q : Int) (da db : DM) : Prop where
  calm : Calm db
  fl : db.fl = 0
  six : db.sec.length = 6
  rel : da = if q ≤ n then { db with fs := true, fl := n - q } else db
/-- an op that is asked of a sector that is there -/
def Asked (o : OM) : Prop := kindM o.k ≤ 2 ∧ (kindM o.k < 2 → 0 ≤ o.a ∧ o.a < 6)
theorem pre_fail {d : DM} (h : Calm d) (h6 : d.sec.length = 6) (j : Int) (i : Int) (ch : Bool) (h0 : 0 ≤ i) (h1 : i < 6) : ({ d with fs := true, fl := j } : DM).pre i ch = if j = 0 then ({ d with fs := false, fl := 0 }, 8) else ({ d with fs := true, fl := j - 1 }, 0) := by
  obtain ⟨a1, a2, a3⟩ := h
  unfold DM.pre
  have b1 : ¬ i < 0 := by omega
  have b2 : ¬ ((d.sec.length : Int) ≤ i) := by omega
  by_cases hj : j = 0
  · simp [a1, b1, b2, hj]
  · simp [a1, a2, b1, b2, hj]
theorem calm_eq {d : DM} (h : Calm d) (hf : d.fl = 0) : ({ d with fs := false, fl := 0 } : DM) = d := by
  obtain ⟨_, _, h3⟩ := h
  cases d
  simp_all
theorem does_at (d : DM) (o : OM) (h : kindM o.k ≤ 2) : d.doesM o = if kindM o.k = 0 then d.readM o.a else if kindM o.k = 1 then ((d.writeM o.a (blockM o.x)).1, nought, (d.writeM o.a (blockM o.x)).2) else (d.syncM.1, nought, d.syncM.2) := by
  unfold DM.doesM
  have : kindM o.k = 0 ∨ kindM o.k = 1 ∨ kindM o.k = 2 := by rcases kindM_in o.k with h | h | h | h | h | h <;> omega
  rcases this with h | h | h
  · rw [if_pos h, if_pos h]
  · rw [if_neg (by omega), if_pos h, if_neg (by omega), if_pos h]
  · rw [if_neg (by omega), if_neg (by omega), if_pos h, if_neg (by omega), if_neg (by omega)]
theorem asked_keep {d : DM} (h : Calm d) (hf : d.fl = 0) (h6 : d.sec.length = 6) (o : OM) (ha : Asked o) : Calm (d.doesM o).1 ∧ (d.doesM o).1.fl = 0 ∧ (d.doesM o).1.sec.length = 6 := by
  have hk := ha.1
  have h1 := calm_does h (by omega) o (by omega)
  refine ⟨h1.1, ?_, ?_⟩
  · rw [does_at d o hk]
    have hr := pre_calm h
    split
    · unfold DM.readM
      rw [hr]
      split <;> exact hf
    split
    · rw [calm_write h]
      split <;> exact hf
    · rw [calm_sync h (by omega)]
      exact hf
  · rw [h1.2]
    split
    · rw [List.length_set]; exact h6
    · exact h6
theorem fail_now {d : DM} (h : Calm d) (hf : d.fl = 0) (h6 : d.sec.length = 6) (o : OM) (ha : Asked o) : ({ d with fs := true, fl := 0 } : DM).doesM o = (d, nought, 8) := by
  have he := calm_eq h hf
  rw [does_at _ o ha.1]
  split
  · rename_i hk
    have hr := ha.2 (by omega)
    unfold DM.readM
    rw [pre_fail h h6 0 o.a false hr.1 hr.2, if_pos rfl, he]
    rfl
  split
  · rename_i hk
    have hr := ha.2 (by omega)
    unfold DM.writeM
    rw [pre_fail h h6 0 o.a true hr.1 hr.2, if_pos rfl, he]
    rfl
  · unfold DM.syncM
    rw [pre_fail h h6 0 0 true (by omega) (by omega), if_pos rfl, he]
    rfl
theorem fail_later {d : DM} (h : Calm d) (h6 : d.sec.length = 6) (j : Int) (hj : j ≠ 0) (o : OM) (ha : Asked o) : ({ d with fs := true, fl := j } : DM).doesM o = ({ (d.doesM o).1 with fs := true, fl := j - 1 }, (d.doesM o).2) := by
  rw [does_at _ o ha.1, does_at d o ha.1]
  split
  · rename_i hk
    have hr := ha.2 (by omega)
    have hc := pre_calm h o.a false
    rw [if_neg (by omega)] at hc
    unfold DM.readM
    rw [pre_fail h h6 j o.a false hr.1 hr.2, if_neg hj, hc]
    rfl
  split
  · rename_i hk
    have hr := ha.2 (by omega)
    have hc := pre_calm h o.a true
    rw [if_neg (by omega)] at hc
    unfold DM.writeM
    rw [pre_fail h h6 j o.a true hr.1 hr.2, if_neg hj, hc]
    rfl
  · have hc := pre_calm h 0 true
    rw [if_neg (by omega)] at hc
    unfold DM.syncM
    rw [pre_fail h h6 j 0 true (by omega) (by omega), if_neg hj, hc]
    rfl
/-- the failing one -/
theorem FRel.now {n : Int} {da db : DM} (h : FRel n n da db) (o : OM) (ha : Asked o) : da.doesM o = (db, nought, 8) ∧ FRel n (n + 1) db db ∧ da.dead = false ∧ da.pend = db.pend ∧ da.ops = db.ops := by
  have e := h.rel
  rw [if_pos (Int.le_refl _), Int.sub_self] at e
  subst e
  exact ⟨fail_now h.calm h.fl h.six o ha, ⟨h.calm, h.fl, h.six, by rw [if_neg (by omega)]⟩, h.calm.1, rfl, rfl⟩
/-- all others -/
theorem FRel.later {n q : Int} {da db : DM} (h : FRel n q da db) (hq : q ≠ n) (o : OM) (ha : Asked o) : (da.doesM o).2 = (db.doesM o).2 ∧ FRel n (q + 1) (da.doesM o).1 (db.doesM o).1 := by
  have e := h.rel
  obtain ⟨k1, k2, k3⟩ := asked_keep h.calm h.fl h.six o ha
  by_cases hle : q ≤ n
  · rw [if_pos hle] at e
    have h2 := fail_later h.calm h.six (n - q) (by omega) o ha
    rw [← e] at h2
    rw [h2]
    refine ⟨rfl, k1, k2, k3, ?_⟩
    rw [if_pos (by omega)]
    have : n - q - 1 = n - (q + 1) := by omega
    rw [this]
  · rw [if_neg hle] at e
    subst e
    exact ⟨rfl, k1, k2, k3, by rw [if_neg (by omega)]⟩
theorem FRel.pend {n q : Int} {da db : DM} (h : FRel n q da db) : da.pend = db.pend := by
  have e := h.rel
  split at e <;> (subst e; rfl)
theorem wpList_max0 {ops : Array Oper} {rest : List Oper} {o : Oper} {a : Act} {w : World} {Q : Exit → Act → World → Prop} (hgd : o.guard = none) (x : Operand)
    (ho : o.op = .call { callee := .builtin .max, args := #[x, .const (.int .i64 0)], argTypes := #[3, 3] }) (N M : Int) (hx : a.eval x = .int .i64 N) (hM : M = if N < 0 then 0 else N)
    (h : wpList Try.prog ops Q rest (a.put o.dst (.int .i64 M)) w) : wpList Try.prog ops Q (o :: rest) a w :=
  wpList_plain hgd fun _ hK => by
    have hK := hK _ _ h
    have hrun : ∀ ty, (Builtin.max_ #[3, 3] ty #[.int .i64 N, .int .i64 0]).run Try.prog w = .ok (.int .i64 M) w := fun ty => by
      rw [hM]
      by_cases hn : N < 0 <;> simp [Builtin.max_, Builtin.max2, hn]
    have h0 : a.eval (.const (.int .i64 0)) = .int .i64 0 := rfl
    unfold Oper.wp
    simp [execOp, ho, resolve, invoke, builtin, hx, h0, hrun, Result.andThen]
    exact hK
theorem wpList_load_blk_w {P : Program} {ops : Array Oper} {rest : List Oper} {op : Oper} {a : Act} {w : World} {Q : Exit → Act → World → Prop} (hw : Region.wanted op (yielded ops a.tmps) = true) (ty : TypeId) (x : Operand) (ho : op.op = .load ty x)
    (b o : Nat) (hx : a.eval x = .pointer (some ⟨b, o, none⟩)) (l : List UInt8) (d : TypeDesc) (hc : w.rangeAt b o (bv l)) (hu : P.underlying ty = some d) (hd : d.isRow = true) (hi : (P.info? ty).map (·.size) = some l.length)
    (h : wpList P ops Q rest (a.put op.dst (blk l)) w) : wpList P ops Q (op :: rest) a w :=
  wpList_wanted hw fun _ hK => wp_load_mid ty x ho b o hx (bv l) d hc hu hd (by rw [bv_length]; exact hi) (hK _ _ h)
theorem Disk.good {w : World} {F : Nat → Prop} {g : Nat} {d : DM} (h : Disk w F g d) : Good d := by
  obtain ⟨⟨_, _, _, h1⟩, _⟩ := h
  exact h1.good
theorem does_blk {d : DM} (h : Good d) (o : OM) : (d.doesM o).2.1.length = 64 := by
  unfold DM.doesM
  split
  · exact readM_blk d _ h
  split
  · rfl
  split
  · rfl
  split
  · rfl
  split
  · rfl
  · rfl
theorem FRel.off {n q : Int} {da db : DM} (h : FRel n q da db) : (q ≤ n → da.failM (-1) = (db, 0)) ∧ (¬ q ≤ n → da = db) := by
  have e := h.rel
  constructor
  · intro hq
    rw [if_pos hq] at e
    have he := calm_eq h.calm h.fl
    have hd : da.dead = false := by rw [e]; exact h.calm.1
    unfold DM.failM
    rw [if_neg (by simp [hd])]
    rw [e]
    show (({ db with fs := decide ((0 : Int) ≤ -1), fl := if (-1 : Int) < 0 then 0 else -1 } : DM), (0 : Int)) = (db, 0)
    rw [if_pos (by omega), show decide ((0 : Int) ≤ -1) = false by decide, he]
  · intro hq
    rwa [if_neg hq] at e
theorem frel_start (q : Int) (hq : 0 ≤ q) : ((DM.new 6).failM q).2 = 0 ∧ FRel q 0 ((DM.new 6).failM q).1 (DM.new 6) := by
  have e : (DM.new 6).failM q = ({ DM.new 6 with fs := true, fl := q }, 0) := by
    unfold DM.failM
    rw [if_neg (by simp [DM.new]), if_neg (by omega), show decide (0 ≤ q) = true by simpa using hq]
  rw [e]
  exact ⟨rfl, calm_new 6, rfl, by simp [DM.new], by rw [if_pos hq, Int.sub_zero]⟩
/-- two disks that are the same numbers are held for the same -/
theorem held_len {d : DM} : d.heldM.2.length = d.sec.length := readsM_len d _
end Go.Proofs.Ytbfpadilcfelbaa.Dsk
