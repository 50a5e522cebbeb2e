/-
  A drawn region in a round of a range over a function, out of the plain one; nothing here speaks of the program.
-/
import Derived.Test.YtnojkoefdigcnaaDsk2
import Derived.RangeFuncNested
import Derived.RangeFuncBound
import Derived.RangeFuncCalls
import Derived.RangeFuncLeaves
import Derived.Shelf.Abstract
import Derived.OwnWalkIn
import Derived.TacticsInMore
import Derived.LoopNIn
import Derived.LoopIn
namespace Go.Proofs.Ytnojkoefdigcnaa.Dsk
open Go.RowKit Go.Proofs.Ytnojkoefdigcnaa.Wd

def Simple : Result Next → Prop
  | .ok (.value _) _ => True
  | .ok .skip _ => True
  | .halt _ _ => True
  | _ => False
section
variable {P : Program}
theorem simple_v (s : Sem Value) (w : World) : Simple ((do pure (Next.value (← s)) : Sem Next).run P w) := by
  rw [Sem.run_bind]
  cases s.run P w <;> simp [Simple, Result.andThen]
theorem simple_u (s : Sem Unit) (w : World) : Simple ((do s; pure Next.skip : Sem Next).run P w) := by
  rw [Sem.run_bind]
  cases s.run P w <;> simp [Simple, Result.andThen]
theorem simple_bind {α : Type} (s : Sem α) (f : α → Sem Next) (h : ∀ a w, Simple ((f a).run P w)) (w : World) : Simple ((s >>= f).run P w) := by
  rw [Sem.run_bind]
  cases s.run P w with
  | ok a w' => exact h a w'
  | halt x w' => trivial
theorem simple_load {o : Oper} {t : TypeId} {x : Operand} (h : o.op = .load t x) (ρ : Operand → Value) (w : World) : Simple ((execOp ρ o).run P w) := by unfold execOp; simp only [h]; exact simple_v _ _
theorem simple_store {o : Oper} {t : TypeId} {x y : Operand} (h : o.op = .store t x y) (ρ : Operand → Value) (w : World) : Simple ((execOp ρ o).run P w) := by unfold execOp; simp only [h]; exact simple_u _ _
theorem simple_field {o : Oper} {t : TypeId} {x : Operand} {f : Nat} (h : o.op = .fieldAddr t x f) (ρ : Operand → Value) (w : World) : Simple ((execOp ρ o).run P w) := by unfold execOp; simp only [h]; exact simple_v _ _
theorem simple_index {o : Oper} {t : TypeId} {x y : Operand} (h : o.op = .indexAddr t x y) (ρ : Operand → Value) (w : World) : Simple ((execOp ρ o).run P w) := by unfold execOp; simp only [h]; exact simple_v _ _
def headOk : Op → Bool
  | .load .. | .store .. | .fieldAddr .. | .indexAddr .. | .nilCheck .. => true
  | _ => false
theorem simple_nil {o : Oper} {x : Operand} (h : o.op = .nilCheck x) (ρ : Operand → Value) (w : World) : Simple ((execOp ρ o).run P w) := by
  unfold execOp
  simp only [h]
  split
  all_goals first
    | (simp [Simple, runtimePanic]; done)
    | (split <;> first | (simp [Simple, runtimePanic]; done) | skip)
    | skip
  refine simple_bind _ _ (fun p w1 => simple_bind _ _ (fun q w2 => ?_) w1) w
  split
  · exact simple_bind _ _ (fun _ _ => by simp [Simple]) w2
  · simp [Simple]
theorem headOk_simple {o : Oper} (h : headOk o.op = true) (ρ : Operand → Value) (w : World) : Simple ((execOp ρ o).run P w) := by
  cases ho : o.op <;> rw [ho] at h <;> first | (cases h; done) | exact simple_load ho ρ w | exact simple_store ho ρ w | exact simple_field ho ρ w | exact simple_index ho ρ w | exact simple_nil ho ρ w
theorem headOk_defer {o : Oper} (h : headOk o.op = true) : ∀ c, o.op ≠ .defer c := fun c e => by rw [e] at h; cases h
/-- in a round such an operation runs as it does everywhere -/
theorem op_in {o : Oper} {a : Act} {w : World} {n l : Nat} {K : Act → World → Prop} {Q : Exit → Act → World → Prop} (hs : Simple ((execOp a.eval o).run P w)) (hd : ∀ c, o.op ≠ .defer c) (h : o.wp P a w K Q) : o.wpIn (Fence.wide.inRound l) n P a w K Q := by
  refine ⟨fun _ _ => trivial, ?_⟩
  rw [Oper.semAt_eq _ _ _ hd]
  unfold Oper.wp at h
  revert h hs
  generalize (execOp a.eval o).run P w = r
  intro hs h
  cases r with
  | ok x w' => cases x <;> simp only [Simple] at hs <;> exact h
  | halt x w' => cases x <;> exact h
theorem anyIn_of {md : Region.Mode} {ops : Array Oper} {Q : Exit → Act → World → Prop} {n l : Nat} (hd : ∀ (i : Nat) (o : Oper), ops[i]? = some o → ∀ c, o.op ≠ .defer c) (hQ : ¬ LetsOut Q) (hS : ∀ (i : Nat) (o : Oper), ops[i]? = some o → ∀ ρ w, Simple ((execOp ρ o).run P w)) :
    ∀ (fuel : Nat) (listed : Array Bool) (a : Act) (w : World), wpAny P md ops Q fuel listed a w → wpAnyIn (Fence.wide.inRound l) n P md ops Q fuel listed a w
  | 0, _, _, _, h => h
  | fuel + 1, listed, a, w, h => by
    refine ⟨h.1, fun i hi => ?_⟩
    have h1 := h.2 i hi
    unfold wpOp at h1
    unfold wpOpIn
    cases ho : ops[i]? with
    | none =>
      rw [ho] at h1
      exact anyIn_of hd hQ hS fuel _ _ _ h1
    | some o =>
      rw [ho] at h1
      simp only at h1 ⊢
      split at h1
      · rename_i hw
        rw [if_pos hw]
        rcases h1 with h1 | h1
        · exact Oper.wpIn_mono (fun a' w' => anyIn_of hd hQ hS fuel _ a' w') (op_in (hS i o ho _ _) (hd i o ho) h1)
        · exact absurd h1.2 hQ
      · rename_i hw
        rw [if_neg hw]
        exact ⟨fun _ _ => trivial, anyIn_of hd hQ hS fuel _ _ _ h1⟩
theorem region_in {id : Nat} {ops : Array Oper} {Q : Exit → Act → World → Prop} {a : Act} {w : World} {n l : Nat} {S : World → Prop} (hm : P.follows .mixedOrders = true) (hok : (ops.toList.all fun o => headOk o.op) = true) (hQ : ¬ LetsOut Q)
    (hS : S w.drew) (h : S w.drew → wpAnyH P .any ops Q S ops.size (Array.replicate ops.size false) a w.drew) : (Code.region id ops true).wpIn (Fence.wide.inRound l) n P Q a w := by
  have hall : ∀ (i : Nat) (o : Oper), ops[i]? = some o → headOk o.op = true := fun i o ho => by
    have hi := Array.mem_of_getElem? ho
    exact List.all_eq_true.1 hok o (by simpa using hi)
  exact wpIn_region_any hm (anyIn_of (fun i o ho => headOk_defer (hall i o ho)) hQ (fun i o ho => headOk_simple (hall i o ho)) _ _ _ _ (wpAny_of_held _ _ _ _ (h hS)))
theorem wpListIn_load_mid {F : Fence} {n : Nat} {ops : Array Oper} {rest : List Oper} {op : Oper} {a : Act} {w : World} {Q : Exit → Act → World → Prop} (hgd : op.guard = none) (ty : TypeId) (x : Operand) (ho : op.op = .load ty x)
    (b o : Nat) (hx : a.eval x = .pointer (some ⟨b, o, none⟩)) (cs : List Value) (d : TypeDesc) (hc : w.rangeAt b o cs) (hu : P.underlying ty = some d) (hd : d.isRow = true) (hi : (P.info? ty).map (·.size) = some cs.length)
    (h : wpListIn F n P ops Q rest (a.put op.dst (.agg cs.toArray)) w) : wpListIn F n P ops Q (op :: rest) a w := by
  refine wpListIn_plain hgd fun K hK => ⟨fun f hf => by simp [Oper.about, ho] at hf, ?_⟩
  rw [Oper.semAt_eq _ _ _ (fun c e => by rw [ho] at e; cases e)]
  have h1 := run_loadAt_mid (P := P) w b o ty cs d hc hu hd hi
  unfold execOp
  simp only [ho, hx, Sem.run_bind, h1, Result.andThen_ok]
  exact hK _ _ h
theorem wpListIn_store_in {F : Fence} {n : Nat} {ops : Array Oper} {rest : List Oper} {op : Oper} {a : Act} {w : World} {Q : Exit → Act → World → Prop} (hgd : op.guard = none) (ty : TypeId) (x y : Operand) (ho : op.op = .store ty x y)
    (g o : Nat) (vs : List Value) (hx : a.eval x = .pointer (some ⟨g, o, none⟩)) (hy : a.eval y = .agg vs.toArray) (t : TypeId) (cs : List Value) (hr : Row w g t cs) (hfit : o + vs.length ≤ cs.length) (h1 : ∀ v ∈ vs, v.oneCell' = true) (hi : (P.info? ty).map (·.size) = some vs.length)
    (h : ∀ w', Row w' g t (splice cs o vs) → w.grownBy w' (some g) → wpListIn F n P ops Q rest (a.put op.dst undef) w') : wpListIn F n P ops Q (op :: rest) a w := by
  refine wpListIn_plain hgd fun K hK => ⟨fun f hf => by simp [Oper.about, ho] at hf, ?_⟩
  rw [Oper.semAt_eq _ _ _ (fun c e => by rw [ho] at e; cases e)]
  have h2 := run_storeAt_mid (P := P) w g o ty vs.toArray (by rw [List.size_toArray]; exact Row.there hr hfit) (by rw [List.size_toArray]; exact hi) (all_oneCell_toArray h1)
  rw [List.toList_toArray] at h2
  unfold execOp
  simp only [ho, hx, hy, Sem.run_bind, h2, Result.andThen_ok]
  exact hK _ _ (h _ (Row.setCells vs o cs w hr hfit) (grown_setCells g vs o w))
/-- in a round an operation runs as it does everywhere, a call too -/
theorem op_in2 {o : Oper} {a : Act} {w : World} {n l : Nat} {K : Act → World → Prop} {Q : Exit → Act → World → Prop} (hd : ∀ c, o.op ≠ .defer c) (h : o.wp P a w K Q) : o.wpIn (Fence.wide.inRound l) n P a w K Q := by
  refine ⟨fun _ _ => trivial, ?_⟩
  rw [Oper.semAt_eq _ _ _ hd]
  unfold Oper.wp at h
  revert h
  generalize (execOp a.eval o).run P w = r
  intro h
  cases r with
  | ok x w' =>
    cases x with
    | value v => exact h
    | skip => exact h
    | «defer» d => exact h
    | enter f args => exact ⟨(fun hh => by cases hh), CallsIn.inRound l (callsIn_wide.2 h)⟩
    | row r args => exact ⟨(fun hh => by cases hh), fun c cs _ => let ⟨v, w', r, s⟩ := h c cs; ⟨v, w', r, stepsIn_wide.2 s⟩⟩
    | _ => exact h.elim
  | halt x w' => cases x <;> exact h
def noDefer : Op → Bool
  | .defer _ => false
  | _ => true
theorem anyIn2 {md : Region.Mode} {ops : Array Oper} {Q : Exit → Act → World → Prop} {n l : Nat} (hd : ∀ (i : Nat) (o : Oper), ops[i]? = some o → ∀ c, o.op ≠ .defer c) (hQ : ¬ LetsOut Q) :
    ∀ (fuel : Nat) (listed : Array Bool) (a : Act) (w : World), wpAny P md ops Q fuel listed a w → wpAnyIn (Fence.wide.inRound l) n P md ops Q fuel listed a w
  | 0, _, _, _, h => h
  | fuel + 1, listed, a, w, h => by
    refine ⟨h.1, fun i hi => ?_⟩
    have h1 := h.2 i hi
    unfold wpOp at h1
    unfold wpOpIn
    cases ho : ops[i]? with
    | none =>
      rw [ho] at h1
      exact anyIn2 hd hQ fuel _ _ _ h1
    | some o =>
      rw [ho] at h1
      simp only at h1 ⊢
      split at h1
      · rename_i hw
        rw [if_pos hw]
        rcases h1 with h1 | h1
        · exact Oper.wpIn_mono (fun a' w' => anyIn2 hd hQ fuel _ a' w') (op_in2 (hd i o ho) h1)
        · exact absurd h1.2 hQ
      · rename_i hw
        rw [if_neg hw]
        exact ⟨fun _ _ => trivial, anyIn2 hd hQ fuel _ _ _ h1⟩
theorem region_in2 {id : Nat} {ops : Array Oper} {Q : Exit → Act → World → Prop} {a : Act} {w : World} {n l : Nat} {S : World → Prop} (hm : P.follows .mixedOrders = true) (hok : (ops.toList.all fun o => noDefer o.op) = true) (hQ : ¬ LetsOut Q)
    (hS : S w.drew) (h : S w.drew → wpAnyH P .any ops Q S ops.size (Array.replicate ops.size false) a w.drew) : (Code.region id ops true).wpIn (Fence.wide.inRound l) n P Q a w := by
  have hall : ∀ (i : Nat) (o : Oper), ops[i]? = some o → ∀ c, o.op ≠ .defer c := fun i o ho c e => by
    have hi := Array.mem_of_getElem? ho
    have := List.all_eq_true.1 hok o (by simpa using hi)
    rw [e] at this
    cases this
  exact wpIn_region_any hm (anyIn2 hall hQ _ _ _ _ (wpAny_of_held _ _ _ _ (h hS)))
end
theorem nq2 (B : Nat) (Kp : World → World → Prop) {α : Type} (I : List α → World → Prop) (Ix : Code → List α → World → Prop) (xs : List α) (W : World) : ¬ LetsOut (ownPostG B Kp I Ix xs W) := fun ⟨_, _, h⟩ => h
theorem row_kept {W W' : World} {g : Nat} {t : TypeId} {cs : List Value} {row : Option Nat} (h : Row W g t cs) (hg : W.grownBy W' row) (hr : ∀ r, row = some r → ∃ o : Obj, W.heap[r]? = some o ∧ o.isCells = false) : Row W' g t cs :=
  h.grown hg (fun e => by
    obtain ⟨o, ho, hc⟩ := hr g e.symm
    rw [show W.heap[g]? = _ from h] at ho
    cases ho
    cases hc)
/-- what a row owns lies as it lay when blocks without cells change -/
theorem owns_kept {W W' : World} {base : Nat} {e : TypeId} {size n : Nat} {v : Value} {xs : List Value} {row : Option Nat} (h : W.ownsRow base e size v n xs) (hg : W.grownBy W' row) (hr : ∀ r, row = some r → ∃ o : Obj, W.heap[r]? = some o ∧ o.isCells = false) : W'.ownsRow base e size v n xs := by
  refine h.kept hg ?_
  rcases h.2 with ⟨rfl, -⟩ | ⟨g, cap, cur, rfl, -, hgg, -⟩
  · exact .inl rfl
  · refine .inr fun e => ?_
    obtain ⟨o, ho, hc⟩ := hr g (by rw [← e]; rfl)
    rw [hgg] at ho
    cases ho
    cases hc
end Go.Proofs.Ytnojkoefdigcnaa.Dsk
