/-
  The steps of Read, Write and Sync, by contracts of their own.
-/
import Derived.Test.YtbfpadilcfelbaaDev2
import Derived.Test.YtbfpadilcfelbaaDev0
namespace Go.Proofs.Ytbfpadilcfelbaa.Dsk
open Go.RowKit Go.Proofs.Ytbfpadilcfelbaa.Wd

theorem flat_get : ∀ (ls : List (List UInt8)) (i j : Nat), (∀ b ∈ ls, b.length = 64) → i < ls.length → j < 64 → ls.flatten[i * 64 + j]? = (ls.getD i [])[j]?
  | [], i, j, _, hi, _ => by simp at hi
  | l :: ls, 0, j, h, _, hj => by
    have h0 := h l (by simp)
    simp [List.getElem?_append_left (by omega : j < l.length)]
  | l :: ls, i + 1, j, h, hi, hj => by
    have h0 := h l (by simp)
    have := flat_get ls i j (fun b hb => h b (by simp [hb])) (by simpa using hi) hj
    rw [List.flatten_cons, List.getElem?_append_right (by omega), h0, show (i + 1) * 64 + j - 64 = i * 64 + j by omega, this]
    simp
theorem flat_len (ls : List (List UInt8)) (h : ∀ b ∈ ls, b.length = 64) : ls.flatten.length = ls.length * 64 := by
  induction ls with
  | nil => rfl
  | cons l ls ih => rw [List.flatten_cons, List.length_append, h l (by simp), ih (fun b hb => h b (by simp [hb])), List.length_cons]; omega
theorem flat_set (ls : List (List UInt8)) (i : Nat) (b : List UInt8) (h : ∀ b ∈ ls, b.length = 64) (hb : b.length = 64) (hi : i < ls.length) : splice (bv ls.flatten) (i * 64) (bv b) = bv (ls.set i b).flatten := by
  have hs : ∀ x ∈ ls.set i b, x.length = 64 := fun x hx => by
    rcases List.mem_or_eq_of_mem_set hx with hx | rfl
    · exact h x hx
    · exact hb
  have e : splice (bv ls.flatten) (i * 64) (bv b) = bv (splice ls.flatten (i * 64) b) := by simp [splice, bv, List.map_take, List.map_drop]
  rw [e]
  congr 1
  have l0 := flat_len ls h
  have l1 := flat_len _ hs
  rw [List.length_set] at l1
  apply List.ext_getElem?
  intro n
  unfold splice
  have hile : i * 64 + 64 ≤ ls.length * 64 := by omega
  by_cases hn : n < ls.length * 64
  · have hk : n / 64 < ls.length := by omega
    have hj : n % 64 < 64 := Nat.mod_lt _ (by omega)
    have e2 := flat_get (ls.set i b) (n / 64) (n % 64) hs (by simpa using hk) hj
    have e3 := flat_get ls (n / 64) (n % 64) h hk hj
    have e4 : n / 64 * 64 + n % 64 = n := by omega
    rw [e4] at e2 e3
    rw [e2]
    by_cases h1 : n < i * 64
    · rw [List.getElem?_append_left (by rw [List.length_take]; omega), List.getElem?_take_of_lt h1, e3]
      have : n / 64 ≠ i := by omega
      simp [List.getD_eq_getElem?_getD, this.symm]
    by_cases h2 : n < i * 64 + 64
    · have : n / 64 = i := by omega
      rw [List.getElem?_append_right (by rw [List.length_take]; omega), List.getElem?_append_left (by rw [List.length_take, hb]; omega), List.length_take]
      rw [this, show n - min (i * 64) ls.flatten.length = n % 64 by omega]
      simp [List.getD_eq_getElem?_getD, hi]
    · rw [List.getElem?_append_right (by rw [List.length_take]; omega), List.getElem?_append_right (by rw [List.length_take, hb]; omega), List.getElem?_drop, List.length_take, hb]
      rw [show i * 64 + 64 + (n - min (i * 64) ls.flatten.length - 64) = n by omega, e3]
      have : n / 64 ≠ i := by omega
      simp [List.getD_eq_getElem?_getD, this.symm]
  · rw [List.getElem?_eq_none (by rw [List.length_append, List.length_append, List.length_take, List.length_drop, hb]; omega), List.getElem?_eq_none (by omega)]
theorem sec_len {d : DM} (h : Good d) {i : Nat} (hi : i < d.sec.length) : (d.sec.getD i []).length = 64 := by
  rw [List.getD_eq_getElem?_getD, List.getElem?_eq_getElem hi]
  exact h.sec _ (List.getElem_mem hi)
theorem DskAt.sec_range {w : World} {F : Nat → Prop} {g gs c : Nat} {A : Option Addr} {d : DM} (h : DskAt w F g gs A c d) {i : Nat} (hi : i < d.sec.length) : w.rangeAt gs (i * 64) (bv (d.sec.getD i [])) := by
  refine Row.range h.secs fun j v hj => ?_
  have hl := sec_len h.good hi
  have hj64 : j < 64 := by have := (List.getElem?_eq_some_iff.1 hj).1; rwa [bv_length, hl] at this
  have := flat_get d.sec i j h.good.sec hi hj64
  simp only [bv, List.getElem?_map] at hj ⊢
  rw [this]
  exact hj

set_option maxHeartbeats 1000000 in
theorem read1_any (g gs c : Nat) (A : Option Addr) (d : DM) (F : Nat → Prop) (i : Nat) (b0 b1 b2 : Nat) (w : World) (h : DskAt w F g gs A c d) (hi : i < d.sec.length)
    (h0 : w.cell? ⟨b0, 0, none⟩ = some (.pointer (some ⟨g, 0, none⟩))) (h1 : w.cell? ⟨b1, 0, none⟩ = some (.int .i64 (i : Int))) (h2 : Row w b2 39 (bv nought)) (hb0 : b0 ≠ b2) (hb1 : b1 ≠ b2) (hF : ¬ F b2) :
    Calls Try.prog 37 #[.pointer (some ⟨b0, 0, none⟩), .pointer (some ⟨b1, 0, none⟩), .pointer (some ⟨b2, 0, none⟩)] w fun e w' => e = .returned (.tuple #[]) ∧ Row w' b2 39 (bv (d.sec.getD i [])) ∧ w.grownBy w' (some b2) := by
  have hl := sec_len h.good hi
  have hrg := h.sec_range hi
  have c0 : w.cell? ⟨g, 0, none⟩ = some (.slice (some ⟨gs, 0, none⟩) d.sec.length d.sec.length) := h.row.cell 0
  have hgs : gs ≠ b2 := fun e => hF (e ▸ h.fs)
  have hg2' : g ≠ b2 := fun e => hF (e ▸ h.fg)
  have hsz : (Try.prog.info? 39).map (·.size) = some (bv (d.sec.getD i [])).length := by rw [bv_length, hl]; exact size39
  have hfit : 0 + (bv (d.sec.getD i [])).length ≤ (bv nought).length := by rw [bv_length, bv_length, hl]; exact Nat.le_refl _
  generalize d.sec.getD i [] = L at hl hrg hsz hfit ⊢
  have HSZ := Lib.hid hsz
  have HFT := Lib.hid hfit
  have HR2 := Lib.hid h2
  have hii : (i : Int) < (d.sec.length : Int) := by omega
  clear hsz hfit h2 h
  go_enter Try.func37, Try.ntmps37
  go_wp2_with fail
  refine wp_region_held_drew (S := fun w' : World => w'.cell? ⟨b0, 0, none⟩ = some (.pointer (some ⟨g, 0, none⟩)) ∧ w'.cell? ⟨b1, 0, none⟩ = some (.int .i64 (i : Int)) ∧ w'.cell? ⟨g, 0, none⟩ = some (.slice (some ⟨gs, 0, none⟩) d.sec.length d.sec.length) ∧ w'.rangeAt gs (i * 64) (bv L)) (by kernel_rfl) ⟨h0, h1, c0, hrg⟩ (fun hHeld => ?_)
  refine wpAnyH_take (i := 0) (oi := ⟨some 3, _, _, _, _, _⟩) (v := ?v0) rfl (by kernel_rfl) (by kernel_rfl) (by kernel_rfl) (fun _ _ _ h => h) (Or.inl ⟨by rfl, ?y0⟩) hHeld ?r0
  case y0 =>
    rintro w' ⟨q0, q1, q2, q3⟩
    go_simp
    try with_reducible rfl
  try simp only [Act.put, List.setIfInBounds_toArray, List.set_cons_zero, List.set_cons_succ]
  refine wpAnyH_take (i := 1) (oi := ⟨some 4, _, _, _, _, _⟩) (v := ?v1) rfl (by kernel_rfl) (by kernel_rfl) (by kernel_rfl) (fun _ _ _ h => h) (Or.inl ⟨by rfl, ?y1⟩) hHeld ?r1
  case y1 =>
    rintro w' ⟨q0, q1, q2, q3⟩
    go_simp
    try with_reducible rfl
  try simp only [Act.put, List.setIfInBounds_toArray, List.set_cons_zero, List.set_cons_succ]
  refine wpAnyH_take (i := 2) (oi := ⟨some 5, _, _, _, _, _⟩) (v := ?v2) rfl (by kernel_rfl) (by kernel_rfl) (by kernel_rfl) (fun _ _ _ h => h) (Or.inl ⟨by rfl, ?y2⟩) hHeld ?r2
  case y2 =>
    rintro w' ⟨q0, q1, q2, q3⟩
    go_simp
    try with_reducible rfl
  try simp only [Act.put, List.setIfInBounds_toArray, List.set_cons_zero, List.set_cons_succ]
  refine wpAnyH_take (i := 3) (oi := ⟨some 6, _, _, _, _, _⟩) (v := ?v3) rfl (by kernel_rfl) (by kernel_rfl) (by kernel_rfl) (fun _ _ _ h => h) (Or.inl ⟨by rfl, ?y3⟩) hHeld ?r3
  case y3 =>
    rintro w' ⟨q0, q1, q2, q3⟩
    go_simp
    try with_reducible rfl
  try simp only [Act.put, List.setIfInBounds_toArray, List.set_cons_zero, List.set_cons_succ]
  refine wpAnyH_take (i := 4) (oi := ⟨some 7, _, _, _, _, _⟩) (v := ?v4) rfl (by kernel_rfl) (by kernel_rfl) (by kernel_rfl) (fun _ _ _ h => h) (Or.inl ⟨by rfl, ?y4⟩) hHeld ?r4
  case y4 =>
    rintro w' ⟨q0, q1, q2, q3⟩
    go_simp
    try with_reducible rfl
  try simp only [Act.put, List.setIfInBounds_toArray, List.set_cons_zero, List.set_cons_succ]
  refine wpAnyH_take (i := 5) (oi := ⟨some 8, _, _, _, _, _⟩) (v := ?v5) rfl (by kernel_rfl) (by kernel_rfl) (by kernel_rfl) (fun _ _ _ h => h) (Or.inl ⟨by rfl, ?y5⟩) hHeld ?r5
  case y5 =>
    rintro w' ⟨q0, q1, q2, q3⟩
    go_simp
    try with_reducible rfl
  try simp only [Act.put, List.setIfInBounds_toArray, List.set_cons_zero, List.set_cons_succ]
  refine wpAnyH_take (i := 6) (oi := ⟨some 9, _, _, _, _, _⟩) rfl (by kernel_rfl) (by kernel_rfl) (by kernel_rfl) (fun _ _ _ h => h) (yieldsIf_load_mid (by rfl) 39 (.tmp 8) rfl gs (i * 64) ?x6 (bv L) _ (fun _ hS => hS.2.2.2) Try.underlying39 rfl HSZ.out) hHeld ?r6
  case x6 => first | rfl | (simp [Act.eval, go_sem]; done)
  try simp only [Act.put, List.setIfInBounds_toArray, List.set_cons_zero, List.set_cons_succ]
  refine wpAnyH_ready (rs := [7]) (by kernel_rfl) (by simp) ?_
  refine AllReadyH.cons rfl (fun K hK => ?_) AllReadyH.nil
  rw [if_pos (by rfl)]
  refine wp_store_mid 39 (.tmp 2) (.tmp 9) rfl b2 0 (bv L).toArray rfl rfl ?_ ?_ (all_oneCell_toArray bv_one) ?_
  · rw [List.size_toArray]; exact Row.there (HR2.out.drew) HFT.out
  · rw [List.size_toArray]; exact HSZ.out
  rw [List.toList_toArray]
  have hr2 : Row (w.drew.setCells b2 0 (bv L)) b2 39 (bv L) := by
    have := Row.setCells (bv L) 0 (bv nought) w.drew HR2.out.drew HFT.out
    rwa [splice_all _ _ (by rw [bv_length, bv_length, hl]; rfl)] at this
  have hg3 := grown_setCells b2 (bv L) 0 w.drew
  have hg2 : w.grownBy (w.drew.setCells b2 0 (bv L)) (some b2) := ⟨hg3.os, hg3.tape, hg3.output, hg3.size, hg3.block⟩
  clear hg3
  generalize w.drew.setCells b2 0 (bv L) = w2 at hr2 hg2 ⊢
  refine hK _ _ ⟨hg2.cell h0 (by simpa using hb0), hg2.cell h1 (by simpa using hb1), hg2.cell c0 (by simpa using hg2'), fun j v hj => hg2.cell (hrg j v hj) (by simpa using hgs)⟩ (fun _ => wpAnyH_done (by kernel_rfl) ?_ _)
  go_end0
  exact ⟨rfl, hr2, hg2⟩

theorem splice_mid {α : Type} (a m b vs : List α) (o : Nat) (h : m.length = vs.length) (ho : o = a.length) : splice (a ++ (m ++ b)) o vs = a ++ (vs ++ b) := by
  subst ho
  unfold splice
  have e1 : (a ++ (m ++ b)).drop (a.length + vs.length) = b := by
    rw [List.drop_length_add_append, ← h, List.drop_left]
  rw [e1]
  simp
theorem info81 : (Try.prog.info? 77).map (fun i => (i.zero, i.size, i.bytes)) = some (some (.agg (pcs (0, nought, nought)).toArray), 129, 136) := by kernel_rfl
theorem zero81 : (Try.prog.info? 77).bind (·.zero) = some (.agg (pcs (0, nought, nought)).toArray) := by kernel_rfl
theorem built81 (i : Int) (l b : List UInt8) (hl : l.length = 64) (hb : b.length = 64) : Try.prog.built 77 [(0, .int .i64 i), (1, .agg (bv l).toArray), (2, .agg (bv b).toArray)] = some (pcs (i, l, b)).toArray := by
  have h := built_of (P := Try.prog) 77 [(0, .int .i64 i), (1, .agg (bv l).toArray), (2, .agg (bv b).toArray)] _ [(0, 1), (1, 64), (65, 64)] (pcs (0, nought, nought)) Try.underlying77 zero81 (by kernel_rfl)
  rw [h]
  have hn : (bv nought).length = 64 := by rw [bv_length]; rfl
  have hl' : (bv l).length = 64 := by rw [bv_length, hl]
  have hb' : (bv b).length = 64 := by rw [bv_length, hb]
  rw [fill_part _ _ 0 (.int .i64 i) [.int .i64 i] _ 0 rfl rfl (by simp [pcs])]
  have e1 : splice (pcs (0, nought, nought)) 0 [.int .i64 i] = [.int .i64 i] ++ (bv nought ++ bv nought) := splice_mid [] [.int .i64 0] (bv nought ++ bv nought) [.int .i64 i] 0 rfl rfl
  rw [e1, fill_part _ _ 1 (.agg (bv l).toArray) (bv l) _ 1 rfl (by rw [hl']; rfl) (by simp [hn, hl'])]
  rw [splice_mid [.int .i64 i] (bv nought) (bv nought) (bv l) 1 (by rw [hn, hl']) rfl, fill_part _ _ 2 (.agg (bv b).toArray) (bv b) _ 65 rfl (by rw [hb']; rfl) (by simp [hn, hl', hb'])]
  have e2 := splice_mid ([.int .i64 i] ++ bv l) (bv nought) [] (bv b) 65 (by rw [hn, hb']) (by simp [hl'])
  simp only [List.append_nil, List.append_assoc] at e2
  rw [e2]
  simp [Instr.fill, pcs]
theorem pcs_len (p : Int × List UInt8 × List UInt8) (h1 : p.2.1.length = 64) (h2 : p.2.2.length = 64) : (pcs p).length = 129 := by simp [pcs, bv_length, h1, h2]
theorem pcs_one (p : Int × List UInt8 × List UInt8) : ∀ v ∈ pcs p, v.oneCell' = true := by
  intro v hv
  rcases List.mem_cons.1 hv with rfl | hv
  · rfl
  · rcases List.mem_append.1 hv with hv | hv <;> exact bv_one v hv
/-- a write that is done: the sector, the pending ones -/
def DM.put (d : DM) (i : Nat) (b : List UInt8) : DM := { d with sec := d.sec.set i b, pend := d.pend ++ [((i : Int), d.sec.getD i [], b)] }
theorem Good.put {d : DM} (h : Good d) {i : Nat} {b : List UInt8} (hi : i < d.sec.length) (hb : b.length = 64) : Good (d.put i b) := by
  refine ⟨by simpa [DM.put] using h.pos, by simpa [DM.put] using h.most, fun x hx => ?_, fun p hp => ?_, h.left⟩
  · rcases List.mem_or_eq_of_mem_set hx with hx | rfl
    · exact h.sec x hx
    · exact hb
  · have e : ((d.put i b).sec.length : Int) = d.sec.length := by simp [DM.put]
    rw [e]
    rcases List.mem_append.1 hp with hp | hp
    · exact h.pend p hp
    · obtain rfl := List.mem_singleton.1 hp
      exact ⟨by simp, by simpa using hi, sec_len h hi, hb⟩

theorem Off.drew {F : Nat → Prop} {w w' : World} (h : Off F w w') : Off F w w'.drew := ⟨h.os, h.tape, h.output, h.size, h.block⟩
theorem Off.cell {F : Nat → Prop} {w w' : World} {a : Addr} {v : Value} (h : Off F w w') (hn : ¬ F a.block) (hc : w.cell? a = some v) : w'.cell? a = some v := (World.cell?_of_block (h.block a.block (World.block_lt_of_cell? w a hc) hn)).trans hc
theorem Off.range {F : Nat → Prop} {w w' : World} {b o : Nat} {cs : List Value} (h : Off F w w') (hn : ¬ F b) (hc : w.rangeAt b o cs) : w'.rangeAt b o cs := fun j v hj => h.cell hn (hc j v hj)
/-- the pending writes, one more -/
theorem pend_more {w w1 : World} {F : Nat → Prop} {g gs c gp cap : Nat} {A : Option Addr} {d : DM} {p : Int × List UInt8 × List UInt8} (h : DskAt w F g gs A c d) (hp : 0 ≤ p.1 ∧ p.1 < (d.sec.length : Int) ∧ p.2.1.length = 64 ∧ p.2.2.length = 64)
    (hgrow : (w.drew.alloc (.cells (pcs p).toArray 77)).grownBy w1 (Value.slice A d.pend.length c).ownBlock) (hown : w1.ownsRow 0 77 129 (.slice (some ⟨gp, 0, none⟩) (d.pend.length + 1) cap) (d.pend.length + 1) (d.pend.flatMap pcs ++ pcs p))
    (hat : (Value.slice A d.pend.length c).ownBlock = some gp ∨ gp = w.heap.size + 1) (hlt : gp < w1.heap.size) :
    DskAt (w1.setCell ⟨g, 1, none⟩ (.slice (some ⟨gp, 0, none⟩) (d.pend.length + 1) cap)) (fun k => F k ∨ k = gp) g gs (some ⟨gp, 0, none⟩) cap { d with pend := d.pend ++ [p] } ∧ Ext F (fun k => F k ∨ k = gp) w (w1.setCell ⟨g, 1, none⟩ (.slice (some ⟨gp, 0, none⟩) (d.pend.length + 1) cap)) ∧ Off F w (w1.setCell ⟨g, 1, none⟩ (.slice (some ⟨gp, 0, none⟩) (d.pend.length + 1) cap)) := by
  have ho1 : Off F w w1 := ((Off.refl F w).drew.alloc _).grown hgrow (fun k e => .inl (h.own k e).1)
  have hgp : gp ≠ g ∧ gp ≠ gs := by
    rcases hat with hat | hat
    · exact (h.own gp hat).2
    · have := h.row.lt
      have := h.secs.lt
      constructor <;> omega
  have hrow : Row w1 g 64 (dcs gs A c d) := ((show Row w.drew g _ _ from h.row).alloc _).grown hgrow (fun e => (h.own g e.symm).2.1 rfl)
  have hsecs : Row w1 gs 39 (bv d.sec.flatten) := ((show Row w.drew gs _ _ from h.secs).alloc _).grown hgrow (fun e => (h.own gs e.symm).2.2 rfl)
  refine ⟨⟨.inl h.fg, .inl h.fs, h.ne, ?_, ?_, hsecs.far h.ne.symm _, ?_, ⟨h.good.pos, h.good.most, h.good.sec, ?_, h.good.left⟩⟩, ?_, ho1.setCell (.inl h.fg) _⟩
  · intro k hk
    have hk' : k = gp := by simpa [Value.ownBlock] using hk.symm
    subst hk'
    exact ⟨.inr rfl, hgp⟩
  · have := hrow.store 1 (.slice (some ⟨gp, 0, none⟩) (d.pend.length + 1) cap)
    have e : (dcs gs A c d).set 1 (.slice (some ⟨gp, 0, none⟩) (d.pend.length + 1) cap) = dcs gs (some ⟨gp, 0, none⟩) cap { d with pend := d.pend ++ [p] } := by simp [dcs]
    rwa [e] at this
  · have e1 : (d.pend ++ [p]).length = d.pend.length + 1 := by simp
    have e2 : (d.pend ++ [p]).flatMap pcs = d.pend.flatMap pcs ++ pcs p := by simp
    show World.ownsRow _ _ _ _ (.slice _ (d.pend ++ [p]).length _) (d.pend ++ [p]).length ((d.pend ++ [p]).flatMap pcs)
    rw [e1, e2]
    refine World.ownsRow.kept hown ⟨rfl, rfl, rfl, by simp [World.setCell], fun k hk hne => Below.heap_setCell w1 _ _ k (fun e => hne (by rw [e]))⟩ (row := some g) (.inr ?_)
    simpa [Value.ownBlock] using hgp.1
  · intro q hq
    rcases List.mem_append.1 hq with hq | hq
    · exact h.good.pend q hq
    · obtain rfl := List.mem_singleton.1 hq
      exact hp
  · intro k hk
    rcases hk with hk | rfl
    · exact .inl hk
    · rcases hat with hat | hat
      · exact .inl (h.own _ hat).1
      · exact .inr ⟨by omega, by simpa [World.setCell] using hlt⟩
/-- a sector is set -/
theorem sec_set {w : World} {F : Nat → Prop} {g gs c i : Nat} {A : Option Addr} {d : DM} {b : List UInt8} (h : DskAt w F g gs A c d) (hi : i < d.sec.length) (hb : b.length = 64) :
    DskAt (w.drew.setCells gs (i * 64) (bv b)) F g gs A c { d with sec := d.sec.set i b } ∧ Off F w (w.drew.setCells gs (i * 64) (bv b)) := by
  have hfit : i * 64 + (bv b).length ≤ (bv d.sec.flatten).length := by
    rw [bv_length, bv_length, hb, flat_len _ h.good.sec]
    omega
  have h1 := Row.setCells (bv b) (i * 64) (bv d.sec.flatten) w.drew h.secs hfit
  rw [flat_set d.sec i b h.good.sec hb hi] at h1
  have hg := grown_setCells gs (bv b) (i * 64) w.drew
  have hl : (d.sec.set i b).length = d.sec.length := by simp
  refine ⟨⟨h.fg, h.fs, h.ne, h.own, ?_, h1, World.ownsRow.kept (w := w.drew) h.pend hg ?_, ?_⟩, (Off.refl F w).drew.grown hg (fun k e => .inl (by obtain rfl := Option.some.inj e; exact h.fs))⟩
  · have e : dcs gs A c { d with sec := d.sec.set i b } = dcs gs A c d := by simp [dcs]
    rw [e]
    exact Row.grown (w := w.drew) h.row hg (fun e => h.ne (Option.some.inj e))
  · cases hA : (Value.slice A d.pend.length c).ownBlock with
    | none => exact .inl rfl
    | some k => exact .inr (fun e => (h.own k hA).2.2 (Option.some.inj e))
  · refine ⟨by simpa using h.good.pos, by simpa using h.good.most, fun x hx => ?_, fun p hp => ?_, h.good.left⟩
    · rcases List.mem_or_eq_of_mem_set hx with hx | rfl
      · exact h.good.sec x hx
      · exact hb
    · have := h.good.pend p hp
      rw [hl]; exact this
theorem cell_past {w : World} {a : Addr} {v : Value} (o : Obj) (h : w.cell? a = some v) : (w.drew.alloc o).cell? a = some v := (World.cell?_alloc_lt w.drew o a (World.block_lt_of_cell? w a h)).trans h
set_option maxRecDepth 100000 in
set_option maxHeartbeats 4000000 in
theorem write1_any (g gs c : Nat) (A : Option Addr) (d : DM) (F : Nat → Prop) (i : Nat) (b : List UInt8) (b0 b1 b2 : Nat) (w : World) (h : DskAt w F g gs A c d) (hi : i < d.sec.length) (hb : b.length = 64) (hp : d.pend.length ≤ 1000000)
    (h0 : w.cell? ⟨b0, 0, none⟩ = some (.pointer (some ⟨g, 0, none⟩))) (h1 : w.cell? ⟨b1, 0, none⟩ = some (.int .i64 (i : Int))) (h2 : w.rangeAt b2 0 (bv b)) (hF0 : ¬ F b0) (hF1 : ¬ F b1) (hF2 : ¬ F b2) :
    Calls Try.prog 42 #[.pointer (some ⟨b0, 0, none⟩), .pointer (some ⟨b1, 0, none⟩), .pointer (some ⟨b2, 0, none⟩)] w fun e w' => e = .returned (.tuple #[]) ∧ ∃ F' A' c', DskAt w' F' g gs A' c' (d.put i b) ∧ Ext F F' w w' ∧ Off F w w' := by
  have hl := sec_len h.good hi
  have hrg := h.sec_range hi
  have c0 : w.cell? ⟨g, 0, none⟩ = some (.slice (some ⟨gs, 0, none⟩) d.sec.length d.sec.length) := h.row.cell 0
  have c1 : w.cell? ⟨g, 1, none⟩ = some (.slice A d.pend.length c) := h.row.cell 1
  have z1 := h.row.frozen 1
  obtain ⟨L, hL⟩ : ∃ L, L = d.sec.getD i [] := ⟨_, rfl⟩
  rw [← hL] at hl hrg
  have hsz : (Try.prog.info? 39).map (·.size) = some (bv L).length := by rw [bv_length, hl]; exact size39
  have hszb : (Try.prog.info? 39).map (·.size) = some (bv b).length := by rw [bv_length, hb]; exact size39
  have hbu := built81 (i : Int) L b hl hb
  obtain ⟨ie, hie, hz0, hz1, hz2⟩ := info_parts info81
  have HIE := Lib.hid hie
  have HZ0 := Lib.hid hz0
  have HZ1 := Lib.hid hz1
  have HZ2 := Lib.hid hz2
  have HBU := Lib.hid hbu
  have HL := Lib.hid hL
  have HSZ := Lib.hid hsz
  have HSB := Lib.hid hszb
  have hii : (i : Int) < (d.sec.length : Int) := by omega
  clear hsz hszb hie hz0 hz1 hz2 hbu hL
  go_enter Try.func42, Try.ntmps42
  go_wp2_with fail
  refine wp_region_held_drew (S := fun w' : World => w'.cell? ⟨b0, 0, none⟩ = some (.pointer (some ⟨g, 0, none⟩)) ∧ w'.cell? ⟨b1, 0, none⟩ = some (.int .i64 (i : Int)) ∧ w'.cell? ⟨g, 0, none⟩ = some (.slice (some ⟨gs, 0, none⟩) d.sec.length d.sec.length) ∧ w'.rangeAt gs (i * 64) (bv L) ∧ w'.rangeAt b2 0 (bv b)) (by kernel_rfl) ⟨h0, h1, c0, hrg, h2⟩ (fun hHeld => ?_)
  refine wpAnyH_take (i := 0) (oi := ⟨some 3, _, _, _, _, _⟩) (v := ?v0) rfl (by kernel_rfl) (by kernel_rfl) (by kernel_rfl) (fun _ _ _ h => h) (Or.inl ⟨by rfl, ?y0⟩) hHeld ?r0
  case y0 =>
    rintro w' ⟨q0, q1, q2, q3, q4⟩
    go_simp
    try with_reducible rfl
  try simp only [Act.put, List.setIfInBounds_toArray, List.set_cons_zero, List.set_cons_succ]
  refine wpAnyH_take (i := 1) (oi := ⟨some 4, _, _, _, _, _⟩) (v := ?v1) rfl (by kernel_rfl) (by kernel_rfl) (by kernel_rfl) (fun _ _ _ h => h) (Or.inl ⟨by rfl, ?y1⟩) hHeld ?r1
  case y1 =>
    rintro w' ⟨q0, q1, q2, q3, q4⟩
    go_simp
    try with_reducible rfl
  try simp only [Act.put, List.setIfInBounds_toArray, List.set_cons_zero, List.set_cons_succ]
  refine wpAnyH_take (i := 2) (oi := ⟨some 5, _, _, _, _, _⟩) (v := ?v2) rfl (by kernel_rfl) (by kernel_rfl) (by kernel_rfl) (fun _ _ _ h => h) (Or.inl ⟨by rfl, ?y2⟩) hHeld ?r2
  case y2 =>
    rintro w' ⟨q0, q1, q2, q3, q4⟩
    go_simp
    try with_reducible rfl
  try simp only [Act.put, List.setIfInBounds_toArray, List.set_cons_zero, List.set_cons_succ]
  refine wpAnyH_take (i := 3) (oi := ⟨some 6, _, _, _, _, _⟩) (v := ?v3) rfl (by kernel_rfl) (by kernel_rfl) (by kernel_rfl) (fun _ _ _ h => h) (Or.inl ⟨by rfl, ?y3⟩) hHeld ?r3
  case y3 =>
    rintro w' ⟨q0, q1, q2, q3, q4⟩
    go_simp
    try with_reducible rfl
  try simp only [Act.put, List.setIfInBounds_toArray, List.set_cons_zero, List.set_cons_succ]
  refine wpAnyH_take (i := 5) (oi := ⟨some 8, _, _, _, _, _⟩) (v := ?v5) rfl (by kernel_rfl) (by kernel_rfl) (by kernel_rfl) (fun _ _ _ h => h) (Or.inl ⟨by rfl, ?y5⟩) hHeld ?r5
  case y5 =>
    rintro w' ⟨q0, q1, q2, q3, q4⟩
    go_simp
    try with_reducible rfl
  try simp only [Act.put, List.setIfInBounds_toArray, List.set_cons_zero, List.set_cons_succ]
  refine wpAnyH_take (i := 6) (oi := ⟨some 9, _, _, _, _, _⟩) (v := ?v6) rfl (by kernel_rfl) (by kernel_rfl) (by kernel_rfl) (fun _ _ _ h => h) (Or.inl ⟨by rfl, ?y6⟩) hHeld ?r6
  case y6 =>
    rintro w' ⟨q0, q1, q2, q3, q4⟩
    go_simp
    try with_reducible rfl
  try simp only [Act.put, List.setIfInBounds_toArray, List.set_cons_zero, List.set_cons_succ]
  refine wpAnyH_take (i := 7) (oi := ⟨some 10, _, _, _, _, _⟩) (v := ?v7) rfl (by kernel_rfl) (by kernel_rfl) (by kernel_rfl) (fun _ _ _ h => h) (Or.inl ⟨by rfl, ?y7⟩) hHeld ?r7
  case y7 =>
    rintro w' ⟨q0, q1, q2, q3, q4⟩
    go_simp
    try with_reducible rfl
  try simp only [Act.put, List.setIfInBounds_toArray, List.set_cons_zero, List.set_cons_succ]
  refine wpAnyH_take (i := 8) (oi := ⟨some 11, _, _, _, _, _⟩) (v := ?v8) rfl (by kernel_rfl) (by kernel_rfl) (by kernel_rfl) (fun _ _ _ h => h) (Or.inl ⟨by rfl, ?y8⟩) hHeld ?r8
  case y8 =>
    rintro w' ⟨q0, q1, q2, q3, q4⟩
    go_simp
    try with_reducible rfl
  try simp only [Act.put, List.setIfInBounds_toArray, List.set_cons_zero, List.set_cons_succ]
  refine wpAnyH_take (i := 9) (oi := ⟨some 12, _, _, _, _, _⟩) (v := ?v9) rfl (by kernel_rfl) (by kernel_rfl) (by kernel_rfl) (fun _ _ _ h => h) (Or.inl ⟨by rfl, ?y9⟩) hHeld ?r9
  case y9 =>
    rintro w' ⟨q0, q1, q2, q3, q4⟩
    go_simp
    try with_reducible rfl
  try simp only [Act.put, List.setIfInBounds_toArray, List.set_cons_zero, List.set_cons_succ]
  refine wpAnyH_take (i := 10) (oi := ⟨some 13, _, _, _, _, _⟩) (v := ?v10) rfl (by kernel_rfl) (by kernel_rfl) (by kernel_rfl) (fun _ _ _ h => h) (Or.inl ⟨by rfl, ?y10⟩) hHeld ?r10
  case y10 =>
    rintro w' ⟨q0, q1, q2, q3, q4⟩
    go_simp
    try with_reducible rfl
  try simp only [Act.put, List.setIfInBounds_toArray, List.set_cons_zero, List.set_cons_succ]
  refine wpAnyH_take (i := 11) (oi := ⟨some 14, _, _, _, _, _⟩) (v := ?v11) rfl (by kernel_rfl) (by kernel_rfl) (by kernel_rfl) (fun _ _ _ h => h) (Or.inl ⟨by rfl, ?y11⟩) hHeld ?r11
  case y11 =>
    rintro w' ⟨q0, q1, q2, q3, q4⟩
    go_simp
    try with_reducible rfl
  try simp only [Act.put, List.setIfInBounds_toArray, List.set_cons_zero, List.set_cons_succ]
  refine wpAnyH_take (i := 12) (oi := ⟨some 15, _, _, _, _, _⟩) rfl (by kernel_rfl) (by kernel_rfl) (by kernel_rfl) (fun _ _ _ h => h) (yieldsIf_load_mid (by rfl) 39 (.tmp 14) rfl gs (i * 64) ?x12 (bv L) _ (fun _ hS => hS.2.2.2.1) Try.underlying39 rfl HSZ.out) hHeld ?r12
  case x12 => first | rfl | (simp [Act.eval, go_sem]; done)
  try simp only [Act.put, List.setIfInBounds_toArray, List.set_cons_zero, List.set_cons_succ]
  refine wpAnyH_take (i := 13) (oi := ⟨some 16, _, _, _, _, _⟩) rfl (by kernel_rfl) (by kernel_rfl) (by kernel_rfl) (fun _ _ _ h => h) (yieldsIf_load_mid (by rfl) 39 (.tmp 2) rfl b2 0 ?x13 (bv b) _ (fun _ hS => hS.2.2.2.2) Try.underlying39 rfl HSB.out) hHeld ?r13
  case x13 => first | rfl | (simp [Act.eval, go_sem]; done)
  try simp only [Act.put, List.setIfInBounds_toArray, List.set_cons_zero, List.set_cons_succ]
  refine wpAnyH_take (i := 14) (oi := ⟨some 17, _, _, _, _, _⟩) rfl (by kernel_rfl) (by kernel_rfl) (by kernel_rfl) (fun _ _ _ h => h) (yieldsIf_build (by rfl) 77 _ rfl (pcs (i, L, b)).toArray ?x14) hHeld ?r14
  case x14 => first | exact HBU.out | (simp only [List.map_toArray, List.map_cons, List.map_nil, List.toList_toArray]; exact HBU.out)
  try simp only [Act.put, List.setIfInBounds_toArray, List.set_cons_zero, List.set_cons_succ]
  have q0a : (w.drew.alloc (.cells (pcs (i, L, b)).toArray 77)).cell? ⟨b0, 0, none⟩ = some (.pointer (some ⟨g, 0, none⟩)) := cell_past _ h0
  have q1a : (w.drew.alloc (.cells (pcs (i, L, b)).toArray 77)).cell? ⟨b1, 0, none⟩ = some (.int .i64 (i : Int)) := cell_past _ h1
  have q2a : (w.drew.alloc (.cells (pcs (i, L, b)).toArray 77)).cell? ⟨g, 0, none⟩ = some (.slice (some ⟨gs, 0, none⟩) d.sec.length d.sec.length) := cell_past _ c0
  have c1a : (w.drew.alloc (.cells (pcs (i, L, b)).toArray 77)).cell? ⟨g, 1, none⟩ = some (.slice A d.pend.length c) := cell_past _ c1
  have c1b : (w.alloc (.cells (pcs (i, L, b)).toArray 77)).cell? ⟨g, 1, none⟩ = some (.slice A d.pend.length c) := c1a
  have c1d : w.drew.cell? ⟨g, 1, none⟩ = some (.slice A d.pend.length c) := c1
  have q3a : (w.drew.alloc (.cells (pcs (i, L, b)).toArray 77)).rangeAt gs (i * 64) (bv L) := World.rangeAt_alloc (w := w.drew) hrg _
  have q4a : (w.drew.alloc (.cells (pcs (i, L, b)).toArray 77)).rangeAt b2 0 (bv b) := World.rangeAt_alloc (w := w.drew) h2 _
  have HB2 : Hid (b2 < w.heap.size) := (show _ < _ from World.block_lt_of_cell? w ⟨b2, 0 + 0, none⟩ (h2 0 (.int .u8 ((b.getD 0 0).toNat : Int)) (by simp [bv, show 0 < b.length by omega])))
  have HPOK : Hid (0 ≤ (i : Int) ∧ (i : Int) < (d.sec.length : Int) ∧ L.length = 64 ∧ b.length = 64) := (show _ ∧ _ from ⟨by omega, by omega, hl, hb⟩)
  have HLEN : Hid ((pcs (i, L, b)).length = (pcs (0, nought, nought)).length) := (show _ = _ by rw [pcs_len _ hl hb]; rfl)
  have HLEN2 : Hid ((pcs (i, L, b)).length = 1 * 129) := (show _ = _ by rw [pcs_len _ hl hb])
  have HOWN : Hid ((w.drew.alloc (.cells (pcs (i, L, b)).toArray 77)).ownsRow 0 77 129 (.slice A d.pend.length c) d.pend.length (d.pend.flatMap pcs)) := (show World.ownsRow _ _ _ _ _ _ _ from World.ownsRow.alloc (w := w.drew) h.pend _)
  have HNEWS : Hid (∀ j u, (pcs (i, L, b))[j]? = some u → (w.drew.alloc (.cells (pcs (i, L, b)).toArray 77)).cell? ((⟨w.heap.size, 0, none⟩ : Addr).add j) = some u) := (show ∀ j u, _ → _ from World.news_of_block (heap_alloc_new w.drew _))
  have HSIZE : Hid ((w.drew.alloc (.cells (pcs (i, L, b)).toArray 77)).heap.size = w.heap.size + 1) := (show _ = _ by simp)
  refine wpAnyH_ready (rs := [4, 15]) (by kernel_rfl) (by simp) ?_
  refine AllReadyH.cons rfl (fun K hK => ?_) (AllReadyH.cons rfl (fun K hK => ?_) AllReadyH.nil)
  case refine_1 =>
    rw [if_pos (by rfl)]
    go_simp
    refine hK _ _ ⟨h0, h1, c0, hrg, h2⟩ (fun _ => ?_)
    clear hK K
    try simp only [Act.put, List.setIfInBounds_toArray, List.set_cons_zero, List.set_cons_succ]
    refine wpAnyH_ready (rs := [15]) (by kernel_rfl) (by simp) ?_
    refine AllReadyH.cons rfl (fun K hK => ?_) AllReadyH.nil
    rw [if_pos (by rfl)]
    refine wp_buildOne 60 77 (.tmp 17) rfl (pcs (i, L, b)) (pcs (0, nought, nought)) ie rfl Try.underlying60 HIE.out HZ0.out (HZ1.out.trans rfl) HLEN.out (by decide) (by decide) ?_
    refine hK _ _ ⟨q0a, q1a, q2a, q3a, q4a⟩ (fun _ => ?_)
    clear hK K
    try simp only [Act.put, List.setIfInBounds_toArray, List.set_cons_zero, List.set_cons_succ]
    refine wpAnyH_ready (rs := [16]) (by kernel_rfl) (by simp) ?_
    refine AllReadyH.cons rfl (fun K hK => ?_) AllReadyH.nil
    refine step_append_lies _ rfl _ _ 60 rfl 0 77 ie _ 129 136 Try.underlying60 HIE.out HZ0.out HZ1.out HZ2.out rfl (by decide) (.slice A d.pend.length c) d.pend.length (d.pend.flatMap pcs) rfl HOWN.out ⟨w.heap.size, 0, none⟩ 1 1 (pcs (i, L, b)) rfl HLEN2.out HNEWS.out (pcs_one _) (by omega) (by unfold maxLen; omega) (by omega) (Nat.zero_le _) (w.heap.size + 1) HSIZE.out ?_
    intro gp cap w1 hown hgrow hat hlt
    obtain ⟨hd2, hx2, ho2⟩ := pend_more (p := ((i : Int), L, b)) h HPOK.out hgrow hown hat hlt
    have r0 := (Off.refl F w).drew.alloc (.cells (pcs (i, L, b)).toArray 77) |>.grown hgrow (fun k e => .inl (h.own k e).1)
    have rg1 : w1.cell? ⟨g, 1, none⟩ = some (.slice A d.pend.length c) := hgrow.cell c1a (fun e => (h.own g e.symm).2.1 rfl)
    have rg0 : w1.cell? ⟨g, 0, none⟩ = some (.slice (some ⟨gs, 0, none⟩) d.sec.length d.sec.length) := hgrow.cell q2a (fun e => (h.own g e.symm).2.1 rfl)
    have rf1 : w1.frozen? ⟨g, 1, none⟩ = false := (Row.grown ((show Row w.drew g _ _ from h.row).alloc _) hgrow (fun e => (h.own g e.symm).2.1 rfl)).frozen 1
    have rs1 : w1.rangeAt gs (i * 64) (bv L) := fun j v hj => hgrow.cell (q3a j v hj) (fun e => (h.own gs e.symm).2.2 rfl)
    have R0 := Lib.hid (r0.cell (a := ⟨b0, 0, none⟩) hF0 h0)
    have R1 := Lib.hid (r0.cell (a := ⟨b1, 0, none⟩) hF1 h1)
    have R2 := Lib.hid (r0.range hF2 h2)
    clear hown hgrow hat hlt r0
    refine hK _ _ ⟨R0.out, R1.out, rg0, rs1, R2.out⟩ (fun _ => ?_)
    clear hK K
    try simp only [Act.put, List.setIfInBounds_toArray, List.set_cons_zero, List.set_cons_succ]
    refine wpAnyH_take (i := 17) (oi := ⟨some 20, _, _, _, _, _⟩) (v := ?v17a) rfl (by kernel_rfl) (by kernel_rfl) (by kernel_rfl) (fun _ _ _ h => h) (Or.inl ⟨by rfl, ?y17a⟩) ⟨R0.out, R1.out, rg0, rs1, R2.out⟩ ?r17a
    case y17a =>
      rintro w' ⟨q0, q1, q2, q3, q4⟩
      go_simp
      try with_reducible rfl
    try simp only [Act.put, List.setIfInBounds_toArray, List.set_cons_zero, List.set_cons_succ]
    refine wpAnyH_take (i := 18) (oi := ⟨some 21, _, _, _, _, _⟩) (v := ?v18a) rfl (by kernel_rfl) (by kernel_rfl) (by kernel_rfl) (fun _ _ _ h => h) (Or.inl ⟨by rfl, ?y18a⟩) ⟨R0.out, R1.out, rg0, rs1, R2.out⟩ ?r18a
    case y18a =>
      rintro w' ⟨q0, q1, q2, q3, q4⟩
      go_simp
      try with_reducible rfl
    try simp only [Act.put, List.setIfInBounds_toArray, List.set_cons_zero, List.set_cons_succ]
    refine wpAnyH_ready (rs := [19]) (by kernel_rfl) (by simp) ?_
    refine AllReadyH.cons rfl (fun K hK => ?_) AllReadyH.nil
    rw [if_pos (by rfl)]
    go_simp
    obtain ⟨w2, hw2⟩ : ∃ w2, w2 = w1.setCell ⟨g, 1, none⟩ (.slice (some ⟨gp, 0, none⟩) (d.pend.length + 1) cap) := ⟨_, rfl⟩
    rw [← hw2] at hd2 hx2 ho2
    have s0 := ho2.cell (a := ⟨b0, 0, none⟩) hF0 h0
    have s1 := ho2.cell (a := ⟨b1, 0, none⟩) hF1 h1
    have s2 : w2.cell? ⟨g, 0, none⟩ = some (.slice (some ⟨gs, 0, none⟩) d.sec.length d.sec.length) := hd2.row.cell 0
    have s3 : w2.rangeAt gs (i * 64) (bv L) := by
      have := hd2.sec_range (i := i) hi
      rw [HL.out]; exact this
    have s4 := ho2.range hF2 h2
    have e2 : w1.setCell ⟨g, 1, none⟩ (.slice (some ⟨gp, 0, none⟩) (d.pend.length + 1) cap) = w2 := hw2.symm
    rw [e2]
    refine hK _ w2 ⟨s0, s1, s2, s3, s4⟩ (fun _ => wpAnyH_done (by kernel_rfl) ?_ _)
    clear hK K hw2 e2 rg1 rg0 rf1 rs1 R0 R1 R2 s3
    go_wp2_with fail
    refine wp_region_held_drew (S := fun w' : World => w'.cell? ⟨b0, 0, none⟩ = some (.pointer (some ⟨g, 0, none⟩)) ∧ w'.cell? ⟨b1, 0, none⟩ = some (.int .i64 (i : Int)) ∧ w'.cell? ⟨g, 0, none⟩ = some (.slice (some ⟨gs, 0, none⟩) d.sec.length d.sec.length) ∧ w'.rangeAt b2 0 (bv b)) (by kernel_rfl) ⟨s0, s1, s2, s4⟩ (fun hHeld => ?_)
    refine wpAnyH_take (i := 0) (oi := ⟨some 22, _, _, _, _, _⟩) (v := ?v0ra) rfl (by kernel_rfl) (by kernel_rfl) (by kernel_rfl) (fun _ _ _ h => h) (Or.inl ⟨by rfl, ?y0ra⟩) hHeld ?r0ra
    case y0ra =>
      rintro w' ⟨q0, q1, q2, q3⟩
      go_simp
      try with_reducible rfl
    try simp only [Act.put, List.setIfInBounds_toArray, List.set_cons_zero, List.set_cons_succ]
    refine wpAnyH_take (i := 1) (oi := ⟨some 23, _, _, _, _, _⟩) (v := ?v1ra) rfl (by kernel_rfl) (by kernel_rfl) (by kernel_rfl) (fun _ _ _ h => h) (Or.inl ⟨by rfl, ?y1ra⟩) hHeld ?r1ra
    case y1ra =>
      rintro w' ⟨q0, q1, q2, q3⟩
      go_simp
      try with_reducible rfl
    try simp only [Act.put, List.setIfInBounds_toArray, List.set_cons_zero, List.set_cons_succ]
    refine wpAnyH_take (i := 2) (oi := ⟨some 24, _, _, _, _, _⟩) (v := ?v2ra) rfl (by kernel_rfl) (by kernel_rfl) (by kernel_rfl) (fun _ _ _ h => h) (Or.inl ⟨by rfl, ?y2ra⟩) hHeld ?r2ra
    case y2ra =>
      rintro w' ⟨q0, q1, q2, q3⟩
      go_simp
      try with_reducible rfl
    try simp only [Act.put, List.setIfInBounds_toArray, List.set_cons_zero, List.set_cons_succ]
    refine wpAnyH_take (i := 3) (oi := ⟨some 25, _, _, _, _, _⟩) (v := ?v3ra) rfl (by kernel_rfl) (by kernel_rfl) (by kernel_rfl) (fun _ _ _ h => h) (Or.inl ⟨by rfl, ?y3ra⟩) hHeld ?r3ra
    case y3ra =>
      rintro w' ⟨q0, q1, q2, q3⟩
      go_simp
      try with_reducible rfl
    try simp only [Act.put, List.setIfInBounds_toArray, List.set_cons_zero, List.set_cons_succ]
    refine wpAnyH_take (i := 4) (oi := ⟨some 26, _, _, _, _, _⟩) (v := ?v4ra) rfl (by kernel_rfl) (by kernel_rfl) (by kernel_rfl) (fun _ _ _ h => h) (Or.inl ⟨by rfl, ?y4ra⟩) hHeld ?r4ra
    case y4ra =>
      rintro w' ⟨q0, q1, q2, q3⟩
      go_simp
      try with_reducible rfl
    try simp only [Act.put, List.setIfInBounds_toArray, List.set_cons_zero, List.set_cons_succ]
    refine wpAnyH_take (i := 5) (oi := ⟨some 27, _, _, _, _, _⟩) rfl (by kernel_rfl) (by kernel_rfl) (by kernel_rfl) (fun _ _ _ h => h) (yieldsIf_load_mid (by rfl) 39 (.tmp 2) rfl b2 0 ?x5ra (bv b) _ (fun _ hS => hS.2.2.2) Try.underlying39 rfl HSB.out) hHeld ?r5ra
    case x5ra => first | rfl | (simp [Act.eval, go_sem]; done)
    try simp only [Act.put, List.setIfInBounds_toArray, List.set_cons_zero, List.set_cons_succ]
    refine wpAnyH_take (i := 6) (oi := ⟨some 28, _, _, _, _, _⟩) (v := ?v6ra) rfl (by kernel_rfl) (by kernel_rfl) (by kernel_rfl) (fun _ _ _ h => h) (Or.inl ⟨by rfl, ?y6ra⟩) hHeld ?r6ra
    case y6ra =>
      rintro w' ⟨q0, q1, q2, q3⟩
      go_simp
      try with_reducible rfl
    try simp only [Act.put, List.setIfInBounds_toArray, List.set_cons_zero, List.set_cons_succ]
    refine wpAnyH_ready (rs := [7]) (by kernel_rfl) (by simp) ?_
    refine AllReadyH.cons rfl (fun K hK => ?_) AllReadyH.nil
    rw [if_pos (by rfl)]
    refine wp_store_mid 39 (.tmp 28) (.tmp 27) rfl gs (i * 64) (bv b).toArray rfl rfl ?_ ?_ (all_oneCell_toArray bv_one) ?_
    · rw [List.size_toArray]; exact Row.there (hd2.secs.drew) (by rw [bv_length, bv_length, hb, flat_len _ hd2.good.sec]; show i * 64 + 64 ≤ d.sec.length * 64; omega)
    · rw [List.size_toArray]; exact HSB.out
    rw [List.toList_toArray]
    obtain ⟨hd3, ho3⟩ := sec_set (i := i) hd2 hi hb
    have gF : ∀ k, ¬ F k → k < w.heap.size → ¬ (F k ∨ k = gp) := fun k hk hlt hf => by
      rcases hx2 k hf with h1 | h1
      · exact hk h1
      · omega
    refine hK _ _ ⟨ho3.cell (a := ⟨b0, 0, none⟩) (gF b0 hF0 (World.block_lt_of_cell? _ _ h0)) s0, ho3.cell (a := ⟨b1, 0, none⟩) (gF b1 hF1 (World.block_lt_of_cell? _ _ h1)) s1, ?_, ho3.range (gF b2 hF2 HB2.out) s4⟩ (fun _ => wpAnyH_done (by kernel_rfl) ?_ _)
    · have := hd3.row.cell 0
      simpa [dcs] using this
    go_end0
    refine ⟨rfl, (fun k => F k ∨ k = gp), some ⟨gp, 0, none⟩, cap, ?_, hx2.trans ho2.size ho3.size (Ext.refl _ _ _), ho2.trans hx2 ho3⟩
    have e9 : DM.put d i b = { d with sec := d.sec.set i b, pend := d.pend ++ [((i : Int), L, b)] } := by rw [DM.put, HL.out]
    rw [e9]
    exact hd3
  case refine_2 =>
    rw [if_pos (by rfl)]
    refine wp_buildOne 60 77 (.tmp 17) rfl (pcs (i, L, b)) (pcs (0, nought, nought)) ie rfl Try.underlying60 HIE.out HZ0.out (HZ1.out.trans rfl) HLEN.out (by decide) (by decide) ?_
    refine hK _ _ ⟨q0a, q1a, q2a, q3a, q4a⟩ (fun _ => ?_)
    clear hK K
    try simp only [Act.put, List.setIfInBounds_toArray, List.set_cons_zero, List.set_cons_succ]
    refine wpAnyH_ready (rs := [4]) (by kernel_rfl) (by simp) ?_
    refine AllReadyH.cons rfl (fun K hK => ?_) AllReadyH.nil
    rw [if_pos (by rfl)]
    go_simp
    refine hK _ _ ⟨q0a, q1a, q2a, q3a, q4a⟩ (fun _ => ?_)
    clear hK K
    try simp only [Act.put, List.setIfInBounds_toArray, List.set_cons_zero, List.set_cons_succ]
    refine wpAnyH_ready (rs := [16]) (by kernel_rfl) (by simp) ?_
    refine AllReadyH.cons rfl (fun K hK => ?_) AllReadyH.nil
    refine step_append_lies _ rfl _ _ 60 rfl 0 77 ie _ 129 136 Try.underlying60 HIE.out HZ0.out HZ1.out HZ2.out rfl (by decide) (.slice A d.pend.length c) d.pend.length (d.pend.flatMap pcs) rfl HOWN.out ⟨w.heap.size, 0, none⟩ 1 1 (pcs (i, L, b)) rfl HLEN2.out HNEWS.out (pcs_one _) (by omega) (by unfold maxLen; omega) (by omega) (Nat.zero_le _) (w.heap.size + 1) HSIZE.out ?_
    intro gp cap w1 hown hgrow hat hlt
    obtain ⟨hd2, hx2, ho2⟩ := pend_more (p := ((i : Int), L, b)) h HPOK.out hgrow hown hat hlt
    have r0 := (Off.refl F w).drew.alloc (.cells (pcs (i, L, b)).toArray 77) |>.grown hgrow (fun k e => .inl (h.own k e).1)
    have rg1 : w1.cell? ⟨g, 1, none⟩ = some (.slice A d.pend.length c) := hgrow.cell c1a (fun e => (h.own g e.symm).2.1 rfl)
    have rg0 : w1.cell? ⟨g, 0, none⟩ = some (.slice (some ⟨gs, 0, none⟩) d.sec.length d.sec.length) := hgrow.cell q2a (fun e => (h.own g e.symm).2.1 rfl)
    have rf1 : w1.frozen? ⟨g, 1, none⟩ = false := (Row.grown ((show Row w.drew g _ _ from h.row).alloc _) hgrow (fun e => (h.own g e.symm).2.1 rfl)).frozen 1
    have rs1 : w1.rangeAt gs (i * 64) (bv L) := fun j v hj => hgrow.cell (q3a j v hj) (fun e => (h.own gs e.symm).2.2 rfl)
    have R0 := Lib.hid (r0.cell (a := ⟨b0, 0, none⟩) hF0 h0)
    have R1 := Lib.hid (r0.cell (a := ⟨b1, 0, none⟩) hF1 h1)
    have R2 := Lib.hid (r0.range hF2 h2)
    clear hown hgrow hat hlt r0
    refine hK _ _ ⟨R0.out, R1.out, rg0, rs1, R2.out⟩ (fun _ => ?_)
    clear hK K
    try simp only [Act.put, List.setIfInBounds_toArray, List.set_cons_zero, List.set_cons_succ]
    refine wpAnyH_take (i := 17) (oi := ⟨some 20, _, _, _, _, _⟩) (v := ?v17b) rfl (by kernel_rfl) (by kernel_rfl) (by kernel_rfl) (fun _ _ _ h => h) (Or.inl ⟨by rfl, ?y17b⟩) ⟨R0.out, R1.out, rg0, rs1, R2.out⟩ ?r17b
    case y17b =>
      rintro w' ⟨q0, q1, q2, q3, q4⟩
      go_simp
      try with_reducible rfl
    try simp only [Act.put, List.setIfInBounds_toArray, List.set_cons_zero, List.set_cons_succ]
    refine wpAnyH_take (i := 18) (oi := ⟨some 21, _, _, _, _, _⟩) (v := ?v18b) rfl (by kernel_rfl) (by kernel_rfl) (by kernel_rfl) (fun _ _ _ h => h) (Or.inl ⟨by rfl, ?y18b⟩) ⟨R0.out, R1.out, rg0, rs1, R2.out⟩ ?r18b
    case y18b =>
      rintro w' ⟨q0, q1, q2, q3, q4⟩
      go_simp
      try with_reducible rfl
    try simp only [Act.put, List.setIfInBounds_toArray, List.set_cons_zero, List.set_cons_succ]
    refine wpAnyH_ready (rs := [19]) (by kernel_rfl) (by simp) ?_
    refine AllReadyH.cons rfl (fun K hK => ?_) AllReadyH.nil
    rw [if_pos (by rfl)]
    go_simp
    obtain ⟨w2, hw2⟩ : ∃ w2, w2 = w1.setCell ⟨g, 1, none⟩ (.slice (some ⟨gp, 0, none⟩) (d.pend.length + 1) cap) := ⟨_, rfl⟩
    rw [← hw2] at hd2 hx2 ho2
    have s0 := ho2.cell (a := ⟨b0, 0, none⟩) hF0 h0
    have s1 := ho2.cell (a := ⟨b1, 0, none⟩) hF1 h1
    have s2 : w2.cell? ⟨g, 0, none⟩ = some (.slice (some ⟨gs, 0, none⟩) d.sec.length d.sec.length) := hd2.row.cell 0
    have s3 : w2.rangeAt gs (i * 64) (bv L) := by
      have := hd2.sec_range (i := i) hi
      rw [HL.out]; exact this
    have s4 := ho2.range hF2 h2
    have e2 : w1.setCell ⟨g, 1, none⟩ (.slice (some ⟨gp, 0, none⟩) (d.pend.length + 1) cap) = w2 := hw2.symm
    rw [e2]
    refine hK _ w2 ⟨s0, s1, s2, s3, s4⟩ (fun _ => wpAnyH_done (by kernel_rfl) ?_ _)
    clear hK K hw2 e2 rg1 rg0 rf1 rs1 R0 R1 R2 s3
    go_wp2_with fail
    refine wp_region_held_drew (S := fun w' : World => w'.cell? ⟨b0, 0, none⟩ = some (.pointer (some ⟨g, 0, none⟩)) ∧ w'.cell? ⟨b1, 0, none⟩ = some (.int .i64 (i : Int)) ∧ w'.cell? ⟨g, 0, none⟩ = some (.slice (some ⟨gs, 0, none⟩) d.sec.length d.sec.length) ∧ w'.rangeAt b2 0 (bv b)) (by kernel_rfl) ⟨s0, s1, s2, s4⟩ (fun hHeld => ?_)
    refine wpAnyH_take (i := 0) (oi := ⟨some 22, _, _, _, _, _⟩) (v := ?v0rb) rfl (by kernel_rfl) (by kernel_rfl) (by kernel_rfl) (fun _ _ _ h => h) (Or.inl ⟨by rfl, ?y0rb⟩) hHeld ?r0rb
    case y0rb =>
      rintro w' ⟨q0, q1, q2, q3⟩
      go_simp
      try with_reducible rfl
    try simp only [Act.put, List.setIfInBounds_toArray, List.set_cons_zero, List.set_cons_succ]
    refine wpAnyH_take (i := 1) (oi := ⟨some 23, _, _, _, _, _⟩) (v := ?v1rb) rfl (by kernel_rfl) (by kernel_rfl) (by kernel_rfl) (fun _ _ _ h => h) (Or.inl ⟨by rfl, ?y1rb⟩) hHeld ?r1rb
    case y1rb =>
      rintro w' ⟨q0, q1, q2, q3⟩
      go_simp
      try with_reducible rfl
    try simp only [Act.put, List.setIfInBounds_toArray, List.set_cons_zero, List.set_cons_succ]
    refine wpAnyH_take (i := 2) (oi := ⟨some 24, _, _, _, _, _⟩) (v := ?v2rb) rfl (by kernel_rfl) (by kernel_rfl) (by kernel_rfl) (fun _ _ _ h => h) (Or.inl ⟨by rfl, ?y2rb⟩) hHeld ?r2rb
    case y2rb =>
      rintro w' ⟨q0, q1, q2, q3⟩
      go_simp
      try with_reducible rfl
    try simp only [Act.put, List.setIfInBounds_toArray, List.set_cons_zero, List.set_cons_succ]
    refine wpAnyH_take (i := 3) (oi := ⟨some 25, _, _, _, _, _⟩) (v := ?v3rb) rfl (by kernel_rfl) (by kernel_rfl) (by kernel_rfl) (fun _ _ _ h => h) (Or.inl ⟨by rfl, ?y3rb⟩) hHeld ?r3rb
    case y3rb =>
      rintro w' ⟨q0, q1, q2, q3⟩
      go_simp
      try with_reducible rfl
    try simp only [Act.put, List.setIfInBounds_toArray, List.set_cons_zero, List.set_cons_succ]
    refine wpAnyH_take (i := 4) (oi := ⟨some 26, _, _, _, _, _⟩) (v := ?v4rb) rfl (by kernel_rfl) (by kernel_rfl) (by kernel_rfl) (fun _ _ _ h => h) (Or.inl ⟨by rfl, ?y4rb⟩) hHeld ?r4rb
    case y4rb =>
      rintro w' ⟨q0, q1, q2, q3⟩
      go_simp
      try with_reducible rfl
    try simp only [Act.put, List.setIfInBounds_toArray, List.set_cons_zero, List.set_cons_succ]
    refine wpAnyH_take (i := 5) (oi := ⟨some 27, _, _, _, _, _⟩) rfl (by kernel_rfl) (by kernel_rfl) (by kernel_rfl) (fun _ _ _ h => h) (yieldsIf_load_mid (by rfl) 39 (.tmp 2) rfl b2 0 ?x5rb (bv b) _ (fun _ hS => hS.2.2.2) Try.underlying39 rfl HSB.out) hHeld ?r5rb
    case x5rb => first | rfl | (simp [Act.eval, go_sem]; done)
    try simp only [Act.put, List.setIfInBounds_toArray, List.set_cons_zero, List.set_cons_succ]
    refine wpAnyH_take (i := 6) (oi := ⟨some 28, _, _, _, _, _⟩) (v := ?v6rb) rfl (by kernel_rfl) (by kernel_rfl) (by kernel_rfl) (fun _ _ _ h => h) (Or.inl ⟨by rfl, ?y6rb⟩) hHeld ?r6rb
    case y6rb =>
      rintro w' ⟨q0, q1, q2, q3⟩
      go_simp
      try with_reducible rfl
    try simp only [Act.put, List.setIfInBounds_toArray, List.set_cons_zero, List.set_cons_succ]
    refine wpAnyH_ready (rs := [7]) (by kernel_rfl) (by simp) ?_
    refine AllReadyH.cons rfl (fun K hK => ?_) AllReadyH.nil
    rw [if_pos (by rfl)]
    refine wp_store_mid 39 (.tmp 28) (.tmp 27) rfl gs (i * 64) (bv b).toArray rfl rfl ?_ ?_ (all_oneCell_toArray bv_one) ?_
    · rw [List.size_toArray]; exact Row.there (hd2.secs.drew) (by rw [bv_length, bv_length, hb, flat_len _ hd2.good.sec]; show i * 64 + 64 ≤ d.sec.length * 64; omega)
    · rw [List.size_toArray]; exact HSB.out
    rw [List.toList_toArray]
    obtain ⟨hd3, ho3⟩ := sec_set (i := i) hd2 hi hb
    have gF : ∀ k, ¬ F k → k < w.heap.size → ¬ (F k ∨ k = gp) := fun k hk hlt hf => by
      rcases hx2 k hf with h1 | h1
      · exact hk h1
      · omega
    refine hK _ _ ⟨ho3.cell (a := ⟨b0, 0, none⟩) (gF b0 hF0 (World.block_lt_of_cell? _ _ h0)) s0, ho3.cell (a := ⟨b1, 0, none⟩) (gF b1 hF1 (World.block_lt_of_cell? _ _ h1)) s1, ?_, ho3.range (gF b2 hF2 HB2.out) s4⟩ (fun _ => wpAnyH_done (by kernel_rfl) ?_ _)
    · have := hd3.row.cell 0
      simpa [dcs] using this
    go_end0
    refine ⟨rfl, (fun k => F k ∨ k = gp), some ⟨gp, 0, none⟩, cap, ?_, hx2.trans ho2.size ho3.size (Ext.refl _ _ _), ho2.trans hx2 ho3⟩
    have e9 : DM.put d i b = { d with sec := d.sec.set i b, pend := d.pend ++ [((i : Int), L, b)] } := by rw [DM.put, HL.out]
    rw [e9]
    exact hd3

/-- nothing is pending -/
theorem pend_none {w : World} {F : Nat → Prop} {g gs c : Nat} {A : Option Addr} {d : DM} (h : DskAt w F g gs A c d) : DskAt (w.setCell ⟨g, 1, none⟩ (.slice none 0 0)) F g gs none 0 { d with pend := [] } :=
  ⟨h.fg, h.fs, h.ne, (fun k hk => by cases hk), h.row.store 1 (.slice none 0 0), Row.far h.secs (p := ⟨g, 1, none⟩) h.ne.symm _, World.ownsRow_nil _ _ _ _, ⟨h.good.pos, h.good.most, h.good.sec, (fun p hp => by cases hp), h.good.left⟩⟩
theorem sync1_any (g gs c : Nat) (A : Option Addr) (d : DM) (F : Nat → Prop) (b0 : Nat) (w : World) (h : DskAt w F g gs A c d) (h0 : w.cell? ⟨b0, 0, none⟩ = some (.pointer (some ⟨g, 0, none⟩))) :
    Calls Try.prog 41 #[.pointer (some ⟨b0, 0, none⟩)] w fun e w' => e = .returned (.tuple #[]) ∧ DskAt w' F g gs none 0 { d with pend := [] } ∧ Off F w w' ∧ w'.heap.size = w.heap.size := by
  have c1 : w.cell? ⟨g, 1, none⟩ = some (.slice A d.pend.length c) := h.row.cell 1
  have z1 := h.row.frozen 1
  go_enter Try.func41, Try.ntmps41
  go_wp2
  go_end0
  exact ⟨rfl, pend_none h, (Off.refl F w).setCell (.inl h.fg) _, by simp [World.setCell]⟩
end Go.Proofs.Ytbfpadilcfelbaa.Dsk
