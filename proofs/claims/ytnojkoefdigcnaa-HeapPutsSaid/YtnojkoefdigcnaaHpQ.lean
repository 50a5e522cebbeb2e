/-
  Heap: what a tuple that is set where it goes does to the items (pure); a page that is stored into a row of one's own.
-/
import Derived.Test.YtnojkoefdigcnaaHpV
import Derived.Test.YtnojkoefdigcnaaHpO
import Derived.Test.YtnojkoefdigcnaaHpS
import Derived.Test.YtnojkoefdigcnaaHpR
import Derived.Test.YtnojkoefdigcnaaHp8
namespace Go.Proofs.Ytnojkoefdigcnaa.Hp
set_option maxRecDepth 100000
open Go.RowKit Go.Proofs.Ytnojkoefdigcnaa.Dsk Go.Proofs.Ytnojkoefdigcnaa.Pg Go.Proofs.Ytnojkoefdigcnaa.Rec Go.Proofs.Ytnojkoefdigcnaa.Wd Go.Proofs.Ytnojkoefdigcnaa.Wi Go.Proofs.Ytnojkoefdigcnaa.Ky Go.Proofs.Ytnojkoefdigcnaa.Oct Go.Proofs.Ytnojkoefdigcnaa.Rec Go.Proofs.Ytnojkoefdigcnaa.Lift

theorem elE_one (p : PM) (k : Nat) : (elE p k).length + (if (p.sl k).length = 0 then 1 else 0) = 1 := by
  unfold elE
  split
  · rfl
  · cases decM (p.sl k) <;> rfl
theorem page_len (p : PM) : ∀ k, frees p k + (pageE p k).length = k
  | 0 => rfl
  | k + 1 => by
    have h1 := page_len p k
    have h2 := elE_one p k
    simp only [frees, pageE, List.length_append]
    omega
theorem sum_len : ∀ l : List PM, (roomM l).sum + (allE l).length = 4 * l.length
  | [] => rfl
  | p :: l => by
    have h1 := sum_len l
    have h2 := page_len p 4
    simp only [roomM, allE, List.map_cons, List.sum_cons, List.flatMap_cons, List.length_append, List.length_cons] at h1 ⊢
    omega
theorem frees_free (p : PM) : frees p 4 = 0 ↔ ¬ 0 ≤ freeN true (lensP p) := by
  simp only [frees, freeN, lensP, if_pos]
  by_cases h0 : (p.sl 0).length = 0 <;> by_cases h1 : (p.sl 1).length = 0 <;> by_cases h2 : (p.sl 2).length = 0 <;> by_cases h3 : (p.sl 3).length = 0 <;> simp [h0, h1, h2, h3]
theorem place_none : ∀ l : List PM, placeM l = none ↔ (roomM l).sum = 0
  | [] => by simp [placeM, roomM]
  | p :: l => by
    have h1 := place_none l
    have h2 := frees_free p
    simp only [placeM, roomM, List.map_cons, List.sum_cons] at h1 ⊢
    split
    · rename_i h
      have : frees p 4 ≠ 0 := fun e => (h2.1 e) h
      constructor
      · intro h; cases h
      · omega
    · rename_i h
      have := h2.2 h
      rw [h1]
      omega
theorem free_spot (n : Nat → Nat) (h : 0 ≤ freeN true n) : ∃ k : Nat, k < 4 ∧ freeN true n = (k : Int) ∧ n k = 0 := by
  unfold freeN at h ⊢
  rw [if_pos rfl] at h ⊢
  split
  · exact ⟨0, by omega, rfl, by assumption⟩
  split
  · exact ⟨1, by omega, rfl, by assumption⟩
  split
  · exact ⟨2, by omega, rfl, by assumption⟩
  split
  · exact ⟨3, by omega, rfl, by assumption⟩
  · simp_all
theorem place_some : ∀ {l : List PM} {q : Int × Int}, placeM l = some q → ∃ a p b, ∃ k : Nat, l = a ++ p :: b ∧ q = (p.num, (k : Int)) ∧ k < 4 ∧ (p.sl k).length = 0
  | [], q, h => by cases h
  | p :: l, q, h => by
    simp only [placeM] at h
    split at h
    · rename_i hf
      obtain ⟨k, hk, he, h0⟩ := free_spot _ hf
      refine ⟨[], p, l, k, rfl, ?_, hk, h0⟩
      rw [he] at h
      exact (Option.some.inj h).symm
    · obtain ⟨a, p', b, k, rfl, h2, h3, h4⟩ := place_some h
      exact ⟨p :: a, p', b, k, rfl, h2, h3, h4⟩
/-- a page with bytes set in a slot -/
def setP (p : PM) (k : Nat) (bs : List UInt8) : PM := ⟨p.num, 1, upd p.sl k bs⟩
def elB (num : Int) (k : Nat) (l : List UInt8) : List EH :=
  if l.length = 0 then [] else match decM l with
    | some t => [⟨num, k, t, 0⟩]
    | none => [⟨num, k, zT, 200⟩]
theorem elE_eq (p : PM) (k : Nat) : elE p k = elB p.num k (p.sl k) := rfl
theorem elE_set (p : PM) {k j : Nat} (bs : List UInt8) (h : j ≠ k) : elE (setP p k bs) j = elE p j := by
  rw [elE_eq, elE_eq, show (setP p k bs).sl j = p.sl j from upd_not _ _ h]
  rfl
theorem elE_new (p : PM) (k : Nat) (bs : List UInt8) (h0 : bs.length ≠ 0) {t : Tu} (hd : decM bs = some t) : elE (setP p k bs) k = [⟨p.num, k, t, 0⟩] := by
  rw [elE_eq, show (setP p k bs).sl k = bs from upd_at _ _ _]
  unfold elB
  rw [if_neg h0, hd]
  rfl
theorem elE_none (p : PM) (k : Nat) (h : (p.sl k).length = 0) : elE p k = [] := by unfold elE; rw [if_pos h]
theorem elE_mem {p : PM} {k : Nat} {x : EH} (h : x ∈ elE p k) : x.pg = p.num ∧ x.k = k := by
  unfold elE at h
  split at h
  · cases h
  · cases hd : decM (p.sl k) with
    | none => rw [hd] at h; simp at h; subst h; exact ⟨rfl, rfl⟩
    | some t => rw [hd] at h; simp at h; subst h; exact ⟨rfl, rfl⟩
theorem page4 (p : PM) : pageE p 4 = elE p 0 ++ elE p 1 ++ elE p 2 ++ elE p 3 := rfl
theorem page_pg {p : PM} {x : EH} (h : x ∈ pageE p 4) : x.pg = p.num := by
  rw [page4] at h
  simp only [List.mem_append] at h
  rcases h with ((h | h) | h) | h <;> exact (elE_mem h).1
theorem page_split (p : PM) (k : Nat) (hk : k < 4) (h : (p.sl k).length = 0) (bs : List UInt8) (h0 : bs.length ≠ 0) {t : Tu} (hd : decM bs = some t) :
    ∃ P1 P2, pageE p 4 = P1 ++ P2 ∧ pageE (setP p k bs) 4 = P1 ++ ⟨p.num, k, t, 0⟩ :: P2 ∧ ∀ x ∈ P1 ++ P2, x.k ≠ k := by
  rw [page4, page4]
  have hn := elE_none p k h
  have hx := elE_new p k bs h0 hd
  match k, hk, hn, hx with
  | 0, _, hn, hx =>
    refine ⟨[], elE p 1 ++ elE p 2 ++ elE p 3, by rw [hn]; simp, by rw [hx, elE_set p bs (show 1 ≠ 0 by omega), elE_set p bs (show 2 ≠ 0 by omega), elE_set p bs (show 3 ≠ 0 by omega)]; simp, fun x hx => ?_⟩
    simp only [List.nil_append, List.mem_append] at hx
    rcases hx with (hx | hx) | hx <;> (have := (elE_mem hx).2; omega)
  | 1, _, hn, hx =>
    refine ⟨elE p 0, elE p 2 ++ elE p 3, by rw [hn]; simp, by rw [hx, elE_set p bs (show 0 ≠ 1 by omega), elE_set p bs (show 2 ≠ 1 by omega), elE_set p bs (show 3 ≠ 1 by omega)]; simp, fun x hx => ?_⟩
    simp only [List.mem_append] at hx
    rcases hx with hx | hx | hx <;> (have := (elE_mem hx).2; omega)
  | 2, _, hn, hx =>
    refine ⟨elE p 0 ++ elE p 1, elE p 3, by rw [hn]; simp, by rw [hx, elE_set p bs (show 0 ≠ 2 by omega), elE_set p bs (show 1 ≠ 2 by omega), elE_set p bs (show 3 ≠ 2 by omega)]; simp, fun x hx => ?_⟩
    simp only [List.mem_append] at hx
    rcases hx with (hx | hx) | hx <;> (have := (elE_mem hx).2; omega)
  | 3, _, hn, hx =>
    refine ⟨elE p 0 ++ elE p 1 ++ elE p 2, [], by rw [hn], by rw [hx, elE_set p bs (show 0 ≠ 3 by omega), elE_set p bs (show 1 ≠ 3 by omega), elE_set p bs (show 2 ≠ 3 by omega)], fun x hx => ?_⟩
    simp only [List.append_nil, List.mem_append] at hx
    rcases hx with (hx | hx) | hx <;> (have := (elE_mem hx).2; omega)
theorem rise_gt : ∀ {l : List PM} {last : Int}, riseM last l = true → ∀ q ∈ l, last < q.num
  | [], _, _, q, hq => by cases hq
  | p :: l, last, h, q, hq => by
    simp only [riseM, Bool.and_eq_true, decide_eq_true_eq] at h
    rcases List.mem_cons.1 hq with rfl | hq
    · exact h.1.2
    · have := rise_gt h.2 q hq
      omega
theorem rise_lt : ∀ {a : List PM} {p : PM} {b : List PM} {last : Int}, riseM last (a ++ p :: b) = true → ∀ q ∈ a, q.num < p.num
  | [], _, _, _, _, q, hq => by cases hq
  | r :: a, p, b, last, h, q, hq => by
    simp only [List.cons_append, riseM, Bool.and_eq_true, decide_eq_true_eq] at h
    rcases List.mem_cons.1 hq with rfl | hq
    · exact rise_gt h.2 p (by simp)
    · exact rise_lt h.2 q hq
theorem rise_set : ∀ {a : List PM} {p p' : PM} {b : List PM} {last : Int}, riseM last (a ++ p :: b) = true → p'.num = p.num → okN p'.num (lensP p') = true → riseM last (a ++ p' :: b) = true ∧ ∀ q ∈ b, p.num < q.num
  | [], p, p', b, last, h, hn, ho => by
    simp only [List.nil_append, riseM, Bool.and_eq_true, decide_eq_true_eq] at h ⊢
    rw [hn] at ho ⊢
    exact ⟨⟨⟨ho, h.1.2⟩, h.2⟩, fun q hq => rise_gt h.2 q hq⟩
  | r :: a, p, p', b, last, h, hn, ho => by
    simp only [List.cons_append, riseM, Bool.and_eq_true, decide_eq_true_eq] at h ⊢
    have h2 := rise_set h.2 hn ho
    exact ⟨⟨h.1, h2.1⟩, h2.2⟩
theorem allE_app (a b : List PM) : allE (a ++ b) = allE a ++ allE b := List.flatMap_append
theorem allE_cons (p : PM) (b : List PM) : allE (p :: b) = pageE p 4 ++ allE b := rfl
theorem allE_pg {l : List PM} {x : EH} (h : x ∈ allE l) : ∃ q ∈ l, x.pg = q.num := by
  obtain ⟨q, hq, hx⟩ := List.mem_flatMap.1 h
  exact ⟨q, hq, page_pg hx⟩
theorem itE_all {l : List PM} (h : itE l = 0) : ∀ x ∈ allE l, x.e = 0 := by
  intro x hx
  unfold itE at h
  split at h
  · split at h
    · rename_i h2
      rw [List.all_eq_true] at h2
      simpa using h2 x hx
    · cases h
  · cases h
/-- what a tuple that is set in a free slot does to the items -/
theorem put_any {a b : List PM} {p : PM} {k : Nat} {bs : List UInt8} {t : Tu} (h0 : itE (a ++ p :: b) = 0) (hk : k < 4) (he : (p.sl k).length = 0) (hb : bs.length = 52) (hd : decM bs = some t) :
    itE (a ++ setP p k bs :: b) = 0 ∧ ∃ L1 L2, itL (a ++ p :: b) = L1 ++ L2 ∧ itL (a ++ setP p k bs :: b) = L1 ++ ⟨p.num, k, t, 0⟩ :: L2 ∧ (∀ x ∈ L1 ++ L2, ¬ (x.pg = p.num ∧ x.k = k)) := by
  have hm : mayM (a ++ p :: b) = true := itE_may h0
  have ho := rise_ok _ _ hm p (by simp)
  have hoS : okN (setP p k bs).num (lensP (setP p k bs)) = true := by
    rw [okN_iff] at ho ⊢
    refine ⟨ho.1, fun j hj => ?_⟩
    show (upd p.sl k bs j).length ≤ 52
    by_cases h : j = k
    · rw [h, upd_at, hb]; exact Nat.le_refl _
    · rw [upd_not _ _ h]; exact ho.2 j hj
  have hr := rise_set (p' := setP p k bs) hm rfl hoS
  have hl := rise_lt hm
  obtain ⟨P1, P2, e1, e2, e3⟩ := page_split p k hk he bs (by omega) hd
  have ha := itE_all h0
  rw [allE_app, allE_cons, e1] at ha
  have hi : itE (a ++ setP p k bs :: b) = 0 := itE_ok hr.1 (by
    rw [allE_app, allE_cons, e2]
    intro x hx
    simp only [List.mem_append, List.mem_cons] at hx
    rcases hx with hx | (hx | hx | hx) | hx
    · exact ha x (by simp [hx])
    · exact ha x (by simp [hx])
    · rw [hx]
    · exact ha x (by simp [hx])
    · exact ha x (by simp [hx]))
  refine ⟨hi, allE a ++ P1, P2 ++ allE b, ?_, ?_, ?_⟩
  · unfold itL; rw [if_pos h0, allE_app, allE_cons, e1]; simp
  · unfold itL; rw [if_pos hi, allE_app, allE_cons, e2]; simp
  · rintro x hx ⟨hx1, hx2⟩
    simp only [List.mem_append] at hx
    rcases hx with (hx | hx) | (hx | hx)
    · obtain ⟨q, hq, hqe⟩ := allE_pg hx
      have := hl q hq
      omega
    · exact e3 x (by simp [hx]) hx2
    · exact e3 x (by simp [hx]) hx2
    · obtain ⟨q, hq, hqe⟩ := allE_pg hx
      have := hr.2 q hq
      omega
theorem nums_ne {a b : List PM} {p : PM} (h0 : itE (a ++ p :: b) = 0) {i : Nat} {q : PM} (hq : (a ++ p :: b)[i]? = some q) (hi : i ≠ a.length) : q.num ≠ p.num := by
  have hm : mayM (a ++ p :: b) = true := itE_may h0
  have hl := rise_lt hm
  have ho := rise_ok _ _ hm p (by simp)
  have hr := rise_set (p' := p) hm rfl ho
  by_cases h : i < a.length
  · rw [List.getElem?_append_left h] at hq
    have := hl q (List.mem_of_getElem? hq)
    omega
  · rw [List.getElem?_append_right (by omega), List.getElem?_cons] at hq
    rw [if_neg (by omega)] at hq
    have := hr.2 q (List.mem_of_getElem? hq)
    omega
theorem flat_setp : ∀ (M : List PX) (i : Nat) (x : PX), i < M.length → ∀ l, l = x.cells → (M.set i x).flatMap PX.cells = (M.flatMap PX.cells).take (i * 6) ++ l ++ (M.flatMap PX.cells).drop (i * 6 + 6)
  | [], i, x, h, l, _ => by simp at h
  | y :: M, 0, x, h, l, hl => by
    subst hl
    simp only [List.set_cons_zero, List.flatMap_cons, Nat.zero_mul, List.take_zero, List.nil_append, Nat.zero_add]
    rw [show 6 = y.cells.length from rfl, List.drop_left]
  | y :: M, i + 1, x, h, l, hl => by
    have ih := flat_setp M i x (by simpa using h) l hl
    simp only [List.set_cons_succ, List.flatMap_cons]
    rw [ih, show (i + 1) * 6 = y.cells.length + i * 6 from by rw [show y.cells.length = 6 from rfl]; omega, List.take_length_add_append, show y.cells.length + i * 6 + 6 = y.cells.length + (i * 6 + 6) from by omega, List.drop_length_add_append]
    simp [List.append_assoc]
theorem set6 (xs : List Value) (o : Nat) (h : o + 6 ≤ xs.length) (c0 c1 c2 c3 c4 c5 : Value) :
    (((((xs.set o c0).set (o + 1) c1).set (o + 2) c2).set (o + 3) c3).set (o + 4) c4).set (o + 5) c5 = xs.take o ++ [c0, c1, c2, c3, c4, c5] ++ xs.drop (o + 6) := by
  apply List.ext_getElem?
  intro i
  simp only [List.getElem?_set, List.length_set]
  by_cases h1 : i < o
  · rw [List.append_assoc, List.getElem?_append_left (by rw [List.length_take]; omega), List.getElem?_take, if_pos h1]
    simp [show ¬ o = i by omega, show ¬ o + 1 = i by omega, show ¬ o + 2 = i by omega, show ¬ o + 3 = i by omega, show ¬ o + 4 = i by omega, show ¬ o + 5 = i by omega]
  · by_cases h2 : i < o + 6
    · rw [List.append_assoc, List.getElem?_append_right (by rw [List.length_take]; omega), List.length_take, Nat.min_eq_left (by omega)]
      obtain ⟨j, rfl, hj⟩ : ∃ j, i = o + j ∧ j < 6 := ⟨i - o, by omega, by omega⟩
      rw [show o + j - o = j by omega, List.getElem?_append_left (by simpa using hj)]
      have : j = 0 ∨ j = 1 ∨ j = 2 ∨ j = 3 ∨ j = 4 ∨ j = 5 := by omega
      rcases this with rfl | rfl | rfl | rfl | rfl | rfl <;> simp <;> omega
    · rw [List.getElem?_append_right (by simp [List.length_take]; omega), List.getElem?_drop]
      simp [List.length_take, show ¬ o = i by omega, show ¬ o + 1 = i by omega, show ¬ o + 2 = i by omega, show ¬ o + 3 = i by omega, show ¬ o + 4 = i by omega, show ¬ o + 5 = i by omega]
      congr 1
      omega
/-- six cells stored in a row of pages -/
def st6 (W : World) (g i : Nat) (c0 c1 c2 c3 c4 c5 : Value) : World := (((((W.setCell ⟨g, i * 6, none⟩ c0).setCell ⟨g, i * 6 + 1, none⟩ c1).setCell ⟨g, i * 6 + 2, none⟩ c2).setCell ⟨g, i * 6 + 3, none⟩ c3).setCell ⟨g, i * 6 + 4, none⟩ c4).setCell ⟨g, i * 6 + 5, none⟩ c5
/-- a page is stored into a row of one's own -/
theorem ownPs_store {W : World} {base n c g i : Nat} {M : List PX} (h : OwnPs W base (.slice (some ⟨g, 0, none⟩) n c) M) (hn : M.length = n) (hi : i < n) (x : PX) (c0 c1 c2 c3 c4 c5 : Value) (hx : x.cells = [c0, c1, c2, c3, c4, c5])
    (hp : PO W base x.sl x.s) (hs : ∀ k, k < 4 → (x.sl k).length ≤ 53) :
    OwnPs (st6 W g i c0 c1 c2 c3 c4 c5) base (.slice (some ⟨g, 0, none⟩) n c) (M.set i x) ∧ W.grownBy (st6 W g i c0 c1 c2 c3 c4 c5) (some g) := by
  have hl := pgcells_len M
  have ho := h.own
  rw [hn] at ho
  obtain ⟨h0, g0⟩ := World.ownsRow.stored ho (i * 6) c0
  obtain ⟨h1, g1⟩ := World.ownsRow.stored h0 (i * 6 + 1) c1
  obtain ⟨h2, g2⟩ := World.ownsRow.stored h1 (i * 6 + 2) c2
  obtain ⟨h3, g3⟩ := World.ownsRow.stored h2 (i * 6 + 3) c3
  obtain ⟨h4, g4⟩ := World.ownsRow.stored h3 (i * 6 + 4) c4
  obtain ⟨h5, g5⟩ := World.ownsRow.stored h4 (i * 6 + 5) c5
  have hg := g0.trans (g1.trans (g2.trans (g3.trans (g4.trans g5))))
  obtain ⟨⟨cs, hr⟩, -, -⟩ := ownS_type (k := g) ho rfl
  refine ⟨⟨?_, ?_, ?_⟩, hg⟩
  · rw [List.length_set, hn, flat_setp M i x (by omega) _ hx.symm, ← set6 _ _ (by rw [hl, hn]; omega)]
    exact h5
  · intro y hy k hk
    rcases List.mem_or_eq_of_mem_set hy with hy | rfl
    · exact ((h.po y hy) k hk).kept hg (own_ne ((h.po y hy) k hk) hr (by decide))
    · exact (hp k hk).kept hg (own_ne (hp k hk) hr (by decide))
  · intro y hy
    rcases List.mem_or_eq_of_mem_set hy with hy | rfl
    · exact h.short y hy
    · exact hs
theorem ownPs_frozen {W : World} {base n c g : Nat} {M : List PX} (h : OwnPs W base (.slice (some ⟨g, 0, none⟩) n c) M) (k : Nat) : W.frozen? ⟨g, k, none⟩ = false := by
  obtain ⟨⟨cs, hr⟩, -, -⟩ := ownS_type (k := g) h.own rfl
  exact hr.frozen k
end Go.Proofs.Ytnojkoefdigcnaa.Hp
